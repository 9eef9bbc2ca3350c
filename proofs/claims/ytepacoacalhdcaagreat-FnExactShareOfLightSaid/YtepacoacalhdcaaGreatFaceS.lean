/-
  FacesOf, of the model.
-/
import Derived.Test.YtepacoacalhdcaaGreatGlsP
import Derived.Test.YtepacoacalhdcaaGreatWalkJ
namespace Go.Proofs.YtepacoacalhdcaaGreat
open Go.RowKit
set_option linter.unusedVariables false
set_option linter.unusedSimpArgs false

theorem wF_whole {ns ls : List Nd} (h : wholeB ns ls = true) : wF ns ls = facesN ns ls (2 * ls.length) := if_pos h

theorem walkN_len {ns ls : List Nd} {d : Nat} (hw : winB ns ls = true) (hd : d < 2 * ls.length) : 0 < (walkN ns ls d).length ∧ (walkN ns ls d).length ≤ 2 * ls.length := by
  obtain ⟨p0, p1, _, _⟩ := perN_spec hw hd
  unfold walkN
  rw [wkL_len]
  exact ⟨p0, p1⟩

theorem facesN_le (ns ls : List Nd) (n : Nat) : (facesN ns ls n).length ≤ n := by rw [facesN_len]; exact startsL_len ns ls n

set_option maxRecDepth 100000 in
set_option maxHeartbeats 4000000 in
theorem specFacesL (ns ls : List Nd) (vn vl : Value) (w : World) (hn : Prs w vn ns) (hl : Prs w vl ls) :
    Calls Tryz.prog 69 #[.agg #[vn, vl]] w (FacesNew (wF ns ls) w) := by
  have HN := Lib.hid hn
  have HL := Lib.hid hl
  obtain ⟨A, c, rfl⟩ := prs_form2 hn
  obtain ⟨A2, c2, rfl⟩ := prs_form2 hl
  clear hn hl
  have H0 := Lib.hid (held_pair w (.slice A ns.length c) (.slice A2 ls.length c2) 32)
  have HW := Lib.hid (fun w h1 h2 => specWhole ns ls (.slice A ns.length c) (.slice A2 ls.length c2) w h1 h2)
  have H1 := Lib.hid (H0.out.alloc (.cells #[] 27))
  have HF1 := Lib.hid (FaceV.made (w.alloc (.cells #[.slice A ns.length c, .slice A2 ls.length c2] 32)) (w.heap.size + 1) (w.heap.size + 1) (by simp) (Nat.le_refl _))
  by_cases hh : wholeB ns ls = true
  · obtain ⟨hw, hl0, h20, h12⟩ := whole_win hh
    obtain ⟨i0, hi, hz0, hz1, hz2⟩ := info_parts infoRow
    have HI := Lib.hid (And.intro hi (And.intro hz0 (And.intro hz1 hz2))); clear hi hz0 hz1 hz2
    have HT := Lib.hid (fun (d : Nat) w h1 h2 (h : d < 2 * ls.length) => specWalkN ns ls (.slice A ns.length c) (.slice A2 ls.length c2) d w h1 h2 hw h)
    unfold IntsNew at HT
    have HR := Lib.hid (wF_whole hh)
    have HWL := Lib.hid (fun d (h : d < 2 * ls.length) => walkN_len hw h)
    have HWD := Lib.hid (fun d (h : d < 2 * ls.length) i (hi : i < (walkN ns ls d).length) => walk_nat hw h (x := atZ (walkN ns ls d) i) (by rw [← atZ_get hi]; exact List.getElem_mem hi))
    have HSU := Lib.hid (facesN_succ ns ls)
    have HLE := Lib.hid (facesN_le ns ls)
    have HZ := Lib.hid (facesN_zero ns ls)
    rw [hh] at HW
    clear hh hw
    obtain ⟨N, hN⟩ : ∃ N, N = 2 * ls.length := ⟨_, rfl⟩
    have hNI : (2 * (ls.length : Int)) = (N : Int) := by omega
    have hmk : ∀ W : World, (Instr.makeSlice 146 (.int .i64 (2 * (ls.length : Int))) (.int .i64 (2 * (ls.length : Int)))).run Tryz.prog W = .ok (.slice (some ⟨W.heap.size, 0, none⟩) N N) (W.alloc (.cells (madeCells #[.bool false] N) 4)) := by
      rw [hNI]
      exact run_make_row' 146 4 (.bool false) 1 Tryz.underlying146 infoBool rfl .i64 .i64 N (by omega) (by omega)
    rw [← hN] at HT HR HWL HWD
    have hN40 : N ≤ 40 := by omega
    have hN0 : 0 < N := by omega
    clear hNI
    have HNE := Lib.hid hN; clear hN
    generalize wF ns ls = r0 at *
    generalize facesN ns ls = F at *
    generalize walkN ns ls = wk at *
    go_enter Tryz.func69, Tryz.ntmps69
    go_wp2_with fail
    refine (HW.out _ (HN.out.step H1.out.below) (HL.out.step H1.out.below)).mono ?_
    rintro e w1 ⟨rfl, hb⟩
    have H2 := Lib.hid (H1.out.step hb)
    have HF2 := Lib.hid (HF1.out.step hb)
    have hw1 : w.heap.size + 1 + 1 ≤ w1.heap.size := by have := hb.size; simp at this; omega
    clear hb H0 H1 HF1
    obtain ⟨x0, x1, _⟩ := H2.out.1
    go_wp2_with fail
    clear hmk
    go_loopw [3, 5] (fun v i wr => ∃ (d : Nat) (us : List Value), d ≤ N ∧ i = .int .i64 d ∧ FaceV wr (w.heap.size + 1) v us (F d) ∧ wr.rowIs w1.heap.size 4 N (fun q => .bool (seenB (F d) (q : Int))) ∧ Held w wr [(w.heap.size, 0, .slice A ns.length c), (w.heap.size, 1, .slice A2 ls.length c2)]) (fun _ i _ => N - (intOf i).toNat)
    case atStart => exact ⟨0, [], Nat.zero_le _, rfl, by rw [HZ.out]; exact HF2.out.step (below_alloc _ _), by rw [HZ.out]; exact World.rowIs_made _ _ _ _, H2.out.alloc _⟩
    case round =>
      clear H2 HF2 x0 x1
      obtain ⟨d, us, hd, rfl, hf, hrow, hh⟩ := hrel
      have HF := Lib.hid hf; clear hf
      have HB := Lib.hid hrow; clear hrow
      have H1 := Lib.hid hh; clear hh
      obtain ⟨x0, x1, _⟩ := H1.out.1
      by_cases hlt : d < N
      · have c0 := HB.out.cell hlt
        have q1 : (0 : Int) ≤ d := by omega
        have q2 : (d : Int) < (N : Int) := by omega
        by_cases hs : seenB (F d) (d : Int) = true
        · rw [hs] at c0
          have HS := Lib.hid (HSU.out d)
          have HS2 := Lib.hid hs; clear hs
          go_wp2_with fail
          exact ⟨⟨d + 1, us, by omega, by go_num, by rw [HS.out, if_pos HS2.out]; exact HF.out, by rw [HS.out, if_pos HS2.out]; exact HB.out, H1.out⟩, by simp [intOf]; omega⟩
        · have hsf : seenB (F d) (d : Int) = false := by simpa using hs
          rw [hsf] at c0
          have HS := Lib.hid (show F (d + 1) = F d ++ [wk d] from by rw [HSU.out d, if_neg hs])
          clear hs hsf
          have hle := HLE.out d
          have hul : us.length ≤ d := by rw [HF.out.len]; exact hle
          have hwl := HWL.out d hlt
          have HD := Lib.hid (HWD.out d hlt)
          have HTd := Lib.hid (fun w h1 h2 => HT.out d w h1 h2 hlt)
          have HASC := Lib.hid (fun j (hj : j < (F d).length) p (hp : (atV us j).ownBlock = some p) => ((HF.out.each j hj).own p hp).2)
          clear hle
          generalize F d = Fd at *
          generalize wk d = r at *
          go_wp2_with fail
          refine (HTd.out _ (HN.out.step H1.out.below) (HL.out.step H1.out.below)).mono ?_
          rintro e w3 ⟨vr, rfl, hm, hb⟩
          obtain ⟨g2, c3, rfl⟩ := hm.some_ hwl.1
          have H3 := Lib.hid (H1.out.step hb)
          have HF3 := Lib.hid (HF.out.step hb)
          have HB3 := Lib.hid (rowIs_step HB.out hb)
          obtain ⟨Br, hBr⟩ : ∃ Br, Br = wr.heap.size := ⟨_, rfl⟩
          have hBr1 : w.heap.size + 1 ≤ Br := by rw [hBr]; exact H1.out.2.1.1
          rw [← hBr] at hm HASC
          have HO3 := Lib.hid hm
          clear hb hm hBr H1 HF HB x0 x1 c0
          obtain ⟨x0, x1, _⟩ := H3.out.1
          go_wp2_with fail
          go_loopw [7] (fun i wq => ∃ m : Nat, m ≤ r.length ∧ i = .int .i64 m ∧ (∀ x, FaceV w3 (w.heap.size + 1) x us Fd → FaceV wq (w.heap.size + 1) x us Fd) ∧ Ints wq Br (.slice (some ⟨g2, 0, none⟩) r.length c3) r ∧ wq.rowIs w1.heap.size 4 N (fun q => .bool (seenB Fd (q : Int) || (r.take m).contains (q : Int))) ∧ Held w wq [(w.heap.size, 0, .slice A ns.length c), (w.heap.size, 1, .slice A2 ls.length c2)]) (fun i _ => r.length - (intOf i).toNat)
          case atStart => exact ⟨0, Nat.zero_le _, rfl, fun _ h => h, HO3.out, HB3.out.congr (fun q _ => by simp), H3.out⟩
          case round =>
            clear H3 HB3 HO3 x0 x1
            obtain ⟨m, hm, rfl, hf, ho, hrow, hh⟩ := hrel
            have HF := Lib.hid hf; clear hf
            have HO := Lib.hid ho; clear ho
            have HB := Lib.hid hrow; clear hrow
            have H1 := Lib.hid hh; clear hh
            obtain ⟨x0, x1, _⟩ := H1.out.1
            by_cases hmr : m < r.length
            · obtain ⟨k0, -, hg, -, -⟩ := HO.out.at_ hmr
              obtain ⟨q, hq, hqN⟩ := HD.out m hmr
              rw [hq] at k0
              have HTK := Lib.hid (fun x => take_has hmr x)
              rw [hq] at HTK
              clear hq
              have b0 := HB.out.frozen q
              have b1 := HB.out.cell hqN
              have hbl := HB.out.lt
              have p1 : (0 : Int) ≤ m := by omega
              have p2 : (m : Int) < (r.length : Int) := by omega
              have p3 : (0 : Int) ≤ q := by omega
              have p4 : (q : Int) < (N : Int) := by omega
              have HF4 := Lib.hid (fun x h => (HF.out x h).setFarB (j := q) (x := .bool true) HB.out)
              have HO4 := Lib.hid (HO.out.setFarB (j := q) (x := .bool true) HB.out)
              have HB4 := Lib.hid (HB.out.set q (.bool true))
              have H4 := Lib.hid (H1.out.setB (g := w1.heap.size) (j := q) (x := .bool true) (B := w.heap.size + 1) ⟨Nat.lt_succ_self _, Nat.lt_succ_self _, trivial⟩ (by omega) (Nat.le_succ _))
              go_wp2_with fail
              exact ⟨⟨m + 1, by omega, by go_num, HF4.out, HO4.out, HB4.out.congr (fun x hx => by
                rw [HTK.out]
                by_cases e : x = q
                · subst e; simp
                · rw [if_neg e]
                  have : ((x : Int) == (q : Int)) = false := by rw [beq_eq_false_iff_ne]; omega
                  rw [this, Bool.or_false]), H4.out⟩, by simp [intOf]; omega⟩
            · obtain rfl : m = r.length := by omega
              have HF := Lib.hid (HF.out _ HF3.out)
              have hsz1 := H1.out.2.1.1
              obtain ⟨hi, hz0, hzz1, hzz2⟩ := HI.out
              go_wp2_with (at_builtin; refine wpList_append_own _ rfl _ _ 90 rfl (w.heap.size + 1) 27 i0 (.slice none 0 0) 1 24 Tryz.underlying90 hi hz0 hzz1 hzz2 rfl (by decide) _ _ _ rfl (World.ownsRow.alloc HF.out.row _) ⟨_, 0, none⟩ 1 1 [.slice (some ⟨g2, 0, none⟩) r.length c3] rfl rfl ?c1 ?c2 ?c3 ?c4 ?c5 ?_)
              case c1 => exact cell_one_new _ _ _
              case c2 => simp [Value.oneCell']
              case c3 => unfold maxLen; omega
              case c4 => omega
              case c5 => simp <;> omega
              intro v' w4 hown hgrow _
              have HBA := HB.out.alloc (.cells #[.slice (some ⟨g2, 0, none⟩) r.length c3] 27)
              have HFA := HF.out.step (below_alloc _ (.cells #[.slice (some ⟨g2, 0, none⟩) r.length c3] 27))
              have H4 := Lib.hid (H1.out.stepB (B := w.heap.size + 1) ⟨Nat.lt_succ_self _, Nat.lt_succ_self _, trivial⟩ (grown_belowR HF.out.row hsz1 hgrow) (Nat.le_succ _))
              have HB4 := Lib.hid (rowIs_grown HBA hgrow (fun e => HFA.row.farB HBA e rfl))
              have HF4 := Lib.hid (HFA.more ((HO.out.step (below_alloc _ _)).mono hBr1) (fun j hj p q hp hq => by have h1 := HASC.out j hj p hp; have h2 := (HO.out.own q hq).1; omega) hgrow hown)
              clear hown hgrow HBA HFA
              go_wp2_with fail
              exact ⟨⟨d + 1, _, by omega, by go_num, by rw [HS.out]; exact HF4.out, by rw [HS.out]; exact HB4.out.congr (fun x hx => by rw [seenB_app, List.take_length]), H4.out⟩, by simp [intOf]; omega⟩
      · obtain rfl : d = N := by omega
        go_wp2_with fail
        go_ret
        exact ⟨_, rfl, by rw [HR.out]; exact ⟨us, HF.out.mono (Nat.le_succ _)⟩, H1.out.below⟩
  · have HR := Lib.hid (show wF ns ls = [] from if_neg hh)
    rw [show wholeB ns ls = false by simpa using hh] at HW
    clear hh
    generalize wF ns ls = r0 at *
    go_enter Tryz.func69, Tryz.ntmps69
    go_wp2_with fail
    refine (HW.out _ (HN.out.step H1.out.below) (HL.out.step H1.out.below)).mono ?_
    rintro e w1 ⟨rfl, hb⟩
    have H2 := Lib.hid (H1.out.step hb)
    have HF2 := Lib.hid (HF1.out.step hb)
    clear hb H0 H1 HF1
    obtain ⟨x0, x1, _⟩ := H2.out.1
    go_wp2_with fail
    go_ret
    exact ⟨_, rfl, by rw [HR.out]; exact ⟨_, HF2.out.mono (Nat.le_succ _)⟩, H2.out.below⟩
end Go.Proofs.YtepacoacalhdcaaGreat
