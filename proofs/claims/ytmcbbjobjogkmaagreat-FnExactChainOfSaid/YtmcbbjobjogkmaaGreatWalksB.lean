/-
  walksByFace, of the program.
-/
import Derived.Test.YtmcbbjobjogkmaaGreatFaceS
import Derived.Test.YtmcbbjobjogkmaaGreatMapP
namespace Go.Proofs.YtmcbbjobjogkmaaGreat
open Go.RowKit
set_option linter.unusedVariables false
set_option linter.unusedSimpArgs false

theorem startsL_new (ns ls : List Nd) (n : Nat) : n ∉ startsL ns ls n := fun h => by have := startsL_lt ns ls n n h; omega

theorem size_alloc2 (w : World) (o p : Obj) : ((w.alloc o).alloc p).heap.size = w.heap.size + 1 + 1 := by simp

/-- What is returned: a new map that holds the rows rs at the keys ks. -/
def WalksNew (ks : List Nat) (rs : List (List Int)) (w : World) (e : Ending) (w' : World) : Prop :=
  ∃ b us, e = .returned (.map (some b)) ∧ MapIs w' b 40 ks us ∧ w.heap.size ≤ b ∧ RowsOf w' w.heap.size us rs ∧ Below w.heap.size w w'

set_option maxRecDepth 100000 in
set_option maxHeartbeats 4000000 in
theorem implWalksBy (ns ls : List Nd) (vn vl : Value) (w : World) (hn : Prs w vn ns) (hl : Prs w vl ls) (hw : winB ns ls = true) (hl0 : 0 < ls.length) :
    Calls Tryz.prog 98 #[.agg #[vn, vl]] w (WalksNew (startsL ns ls (2 * ls.length)) (facesN ns ls (2 * ls.length)) w) := by
  have HN := Lib.hid hn
  have HL := Lib.hid hl
  obtain ⟨A, c, rfl⟩ := prs_form2 hn
  obtain ⟨A2, c2, rfl⟩ := prs_form2 hl
  clear hn hl
  have H0 := Lib.hid (held_pair w (.slice A ns.length c) (.slice A2 ls.length c2) 64)
  have h20 := ((winB_iff ns ls).1 hw).1.2
  have HT := Lib.hid (fun (d : Nat) w h1 h2 (h : d < 2 * ls.length) => implWalkN ns ls (.slice A ns.length c) (.slice A2 ls.length c2) d w h1 h2 hw h)
  unfold IntsNew at HT
  have HWL := Lib.hid (fun d (h : d < 2 * ls.length) => walkN_len hw h)
  have HWD := Lib.hid (fun d (h : d < 2 * ls.length) i (hi : i < (walkN ns ls d).length) => walk_nat hw h (x := atZ (walkN ns ls d) i) (by rw [← atZ_get hi]; exact List.getElem_mem hi))
  have HSU := Lib.hid (facesN_succ ns ls)
  have HST := Lib.hid (startsL_succ ns ls)
  have HSN := Lib.hid (startsL_new ns ls)
  have HLE := Lib.hid (facesN_le ns ls)
  have HSL := Lib.hid (startsL_len ns ls)
  have HZ := Lib.hid (facesN_zero ns ls)
  have HZ2 := Lib.hid (show startsL ns ls 0 = [] from rfl)
  clear hw
  obtain ⟨N, hN⟩ : ∃ N, N = 2 * ls.length := ⟨_, rfl⟩
  have hNI : (2 * (ls.length : Int)) = (N : Int) := by omega
  have hmk : ∀ W : World, (Instr.makeSlice 97 (.int .i64 (2 * (ls.length : Int))) (.int .i64 (2 * (ls.length : Int)))).run Tryz.prog W = .ok (.slice (some ⟨W.heap.size, 0, none⟩) N N) (W.alloc (.cells (madeCells #[.bool false] N) 4)) := by
    rw [hNI]
    exact run_make_row' 97 4 (.bool false) 1 Tryz.underlying97 infoBool rfl .i64 .i64 N (by omega) (by omega)
  have hmm := @run_makeMap Tryz.prog
  rw [← hN] at HT HWL HWD ⊢
  have hN40 : N ≤ 40 := by omega
  clear hNI
  have HNE := Lib.hid hN; clear hN
  generalize facesN ns ls = F at *
  generalize startsL ns ls = K at *
  generalize walkN ns ls = wk at *
  go_enter Tryz.func98, Tryz.ntmps98
  go_wp2_with fail
  clear hmk hmm
  go_loopw [16] (fun i wr => ∃ (d : Nat) (us : List Value), d ≤ N ∧ i = .int .i64 d ∧ MapIs wr (w.heap.size + 1) d (K d) us ∧ RowsOf wr w.heap.size us (F d) ∧ wr.rowIs (w.heap.size + 1 + 1) 4 N (fun q => .bool (seenB (F d) (q : Int))) ∧ Held w wr [(w.heap.size, 0, .slice A ns.length c), (w.heap.size, 1, .slice A2 ls.length c2)]) (fun i _ => N - (intOf i).toNat)
  case atStart =>
    refine ⟨0, [], Nat.zero_le _, rfl, ?_, by rw [HZ.out]; exact RowsOf.nil _ _, ?_, (H0.out.alloc _).alloc _⟩
    · have := (MapIs.made (w.alloc (.cells #[.slice A ns.length c, .slice A2 ls.length c2] 64))).step (below_alloc _ (.cells (madeCells #[.bool false] N) 4))
      rw [HZ2.out]
      simpa using this
    · have := World.rowIs_made ((w.alloc (.cells #[.slice A ns.length c, .slice A2 ls.length c2] 64)).alloc (.map #[] 0)) (.bool false) N 4
      rw [HZ.out]
      simp only [size_alloc2] at this
      exact this.congr fun q _ => by simp [seenB]
  case round =>
    clear H0
    obtain ⟨d, us, hd, rfl, hmp, hf, hrow, hh⟩ := hrel
    have HM := Lib.hid hmp; clear hmp
    have HF := Lib.hid hf; clear hf
    have HB := Lib.hid hrow; clear hrow
    have H1 := Lib.hid hh; clear hh
    obtain ⟨x0, x1, _⟩ := H1.out.1
    by_cases hlt : d < N
    · have c0 := HB.out.cell hlt
      have q1 : (0 : Int) ≤ d := by omega
      have q2 : (d : Int) < (N : Int) := by omega
      by_cases hs : seenB (F d) (d : Int) = true
      · rw [hs] at c0
        have HS := Lib.hid (HSU.out d)
        have HS3 := Lib.hid (HST.out d)
        have HS2 := Lib.hid hs; clear hs
        go_wp2_with fail
        exact ⟨⟨d + 1, us, by omega, by go_num, by rw [HS3.out, if_pos HS2.out]; exact HM.out.mono (Nat.le_succ _), by rw [HS.out, if_pos HS2.out]; exact HF.out, by rw [HS.out, if_pos HS2.out]; exact HB.out, H1.out⟩, by simp [intOf]; omega⟩
      · have hsf : seenB (F d) (d : Int) = false := by simpa using hs
        rw [hsf] at c0
        have HS := Lib.hid (show F (d + 1) = F d ++ [wk d] from by rw [HSU.out d, if_neg hs])
        have HS3 := Lib.hid (show K (d + 1) = K d ++ [d] from by rw [HST.out d, if_neg hs])
        clear hs hsf
        have hwl := HWL.out d hlt
        have HNW := Lib.hid (HSN.out d)
        have hkl := HSL.out d
        have HD := Lib.hid (HWD.out d hlt)
        have HTd := Lib.hid (fun w h1 h2 => HT.out d w h1 h2 hlt)
        have HASC := Lib.hid (fun j (hj : j < (F d).length) p (hp : (atV us j).ownBlock = some p) => ((HF.out.each j hj).own p hp).2)
        generalize F d = Fd at *
        generalize K d = Kd at *
        generalize wk d = r at *
        go_wp2_with fail
        refine (HTd.out _ (HN.out.step H1.out.below) (HL.out.step H1.out.below)).mono ?_
        rintro e w3 ⟨vr, rfl, hm, hb⟩
        obtain ⟨g2, c3, rfl⟩ := hm.some_ hwl.1
        have hsz0 := HB.out.lt
        have hsz3 := hb.size
        have H3 := Lib.hid (H1.out.step hb)
        have HM3 := Lib.hid (HM.out.step hb)
        have HB3 := Lib.hid (rowIs_step HB.out hb)
        have HR3 := Lib.hid ((HF.out.step hb).more (hm.mono (by omega)) (fun j hj p q hp hq => by have h1 := HASC.out j hj p hp; have h2 := (hm.own q hq).1; omega))
        have HO3 := Lib.hid (hm.mono (show w.heap.size ≤ wr.heap.size by omega))
        clear hb hm H1 HM HF HB x0 x1 c0 HASC
        obtain ⟨x0, x1, _⟩ := H3.out.1
        go_wp2_with (first | (at_mapUpdate; refine wpList_put _ rfl _ _ _ rfl HM3.out (k := d) (by omega) (by omega) HNW.out rfl rfl rfl ?_; intro w4 hmap hg4) | (at_lookup; refine wpList_lookNew _ rfl _ _ rfl hmap (by omega) rfl rfl ?_))
        have hbm : ∀ (k : Nat) (cur : Array Value) (T : TypeId), w3.heap[k]? = some (.cells cur T (0, 0)) → w4.heap[k]? = w3.heap[k]? := fun k cur T hc => hg4.block k (lt_of_block hc) (fun e => HM3.out.far hc (by injection e with e; exact e.symm))
        have H4 := Lib.hid (H3.out.stepB (B := w.heap.size + 1) ⟨Nat.lt_succ_self _, Nat.lt_succ_self _, trivial⟩ ((Below.refl _ _).grown hg4 (by omega) (fun k e => by injection e with e; omega)) (Nat.le_succ _))
        have HB4 := Lib.hid (show w4.rowIs (w.heap.size + 1 + 1) 4 N _ from by obtain ⟨cc, h1, h2⟩ := HB3.out; exact HB3.out.of_block (hbm _ _ _ h1))
        have HR4 := Lib.hid (HR3.out.keep fun k cur hc => hbm k cur _ hc)
        have HO4 := Lib.hid (HO3.out.keep fun k e => by obtain ⟨cur, hc⟩ := HO3.out.typed e; exact hbm k cur _ hc)
        have HM4 := Lib.hid hmap
        clear hmap hg4 hbm H3 HM3 HB3 HR3 HO3 x0 x1
        go_loopw [32] (fun i wq => ∃ m : Nat, m ≤ r.length ∧ i = .int .i64 m ∧ MapIs wq (w.heap.size + 1) (d + 1) (Kd ++ [d]) (us ++ [.slice (some ⟨g2, 0, none⟩) r.length c3]) ∧ RowsOf wq w.heap.size (us ++ [.slice (some ⟨g2, 0, none⟩) r.length c3]) (Fd ++ [r]) ∧ Ints wq w.heap.size (.slice (some ⟨g2, 0, none⟩) r.length c3) r ∧ wq.rowIs (w.heap.size + 1 + 1) 4 N (fun q => .bool (seenB Fd (q : Int) || (r.take m).contains (q : Int))) ∧ Held w wq [(w.heap.size, 0, .slice A ns.length c), (w.heap.size, 1, .slice A2 ls.length c2)]) (fun i _ => r.length - (intOf i).toNat)
        case atStart => exact ⟨0, Nat.zero_le _, rfl, HM4.out, HR4.out, HO4.out, HB4.out.congr (fun q _ => by simp), H4.out⟩
        case round =>
          clear H4 HM4 HB4 HR4 HO4
          obtain ⟨m, hm, rfl, hmp, hf, ho, hrow, hh⟩ := hrel
          have HM := Lib.hid hmp; clear hmp
          have HF := Lib.hid hf; clear hf
          have HO := Lib.hid ho; clear ho
          have HB := Lib.hid hrow; clear hrow
          have H1 := Lib.hid hh; clear hh
          by_cases hmr : m < r.length
          · obtain ⟨k0, -, hg, -, -⟩ := HO.out.at_ hmr
            obtain ⟨q, hq, hqN⟩ := HD.out m hmr
            rw [hq] at k0
            have HTK := Lib.hid (fun x => take_has hmr x)
            rw [hq] at HTK
            clear hq
            have b0 := HB.out.frozen q
            have b1 := HB.out.cell hqN
            have p1 : (0 : Int) ≤ m := by omega
            have p2 : (m : Int) < (r.length : Int) := by omega
            have p3 : (0 : Int) ≤ q := by omega
            have p4 : (q : Int) < (N : Int) := by omega
            have HF4 := Lib.hid (HF.out.setFarB (j := q) (x := .bool true) HB.out)
            have HO4 := Lib.hid (HO.out.setFarB (j := q) (x := .bool true) HB.out)
            have HM4 := Lib.hid (HM.out.setFar (g := w.heap.size + 1 + 1) (j := q) (by omega) (.bool true))
            have HB4 := Lib.hid (HB.out.set q (.bool true))
            have H4 := Lib.hid (H1.out.setB (g := w.heap.size + 1 + 1) (j := q) (x := .bool true) (B := w.heap.size + 1) ⟨Nat.lt_succ_self _, Nat.lt_succ_self _, trivial⟩ (by omega) (Nat.le_succ _))
            go_wp2_with fail
            exact ⟨⟨m + 1, by omega, by go_num, HM4.out, HF4.out, HO4.out, HB4.out.congr (fun x hx => by
              rw [HTK.out]
              by_cases e : x = q
              · subst e; simp
              · rw [if_neg e]
                have : ((x : Int) == (q : Int)) = false := by rw [beq_eq_false_iff_ne]; omega
                rw [this, Bool.or_false]), H4.out⟩, by simp [intOf]; omega⟩
          · obtain rfl : m = r.length := by omega
            go_wp2_with fail
            exact ⟨⟨d + 1, _, by omega, by go_num, by rw [HS3.out]; exact HM.out, by rw [HS.out]; exact HF.out, by rw [HS.out]; exact HB.out.congr (fun x hx => by rw [seenB_app, List.take_length]), H1.out⟩, by simp [intOf]; omega⟩
    · obtain rfl : d = N := by omega
      go_wp2_with fail
      go_ret
      exact ⟨_, us, rfl, HM.out.mono hN40, Nat.le_succ _, HF.out, H1.out.below⟩
end Go.Proofs.YtmcbbjobjogkmaaGreat
