/-
  Which faces are beside each other, as a square of bools, of the model.
-/
import Derived.Test.YtepacoacalhdcaaGreatG21
namespace Go.Proofs.YtepacoacalhdcaaGreat
open Go.RowKit
set_option linter.unusedVariables false
set_option linter.unusedSimpArgs false

set_option maxRecDepth 100000 in
set_option maxHeartbeats 4000000 in
theorem specMat (ns ls : List Nd) (vn vl : Value) (w : World) (hn : Prs w vn ns) (hl : Prs w vl ls) (hh : wholeB ns ls = true) :
    Calls Tryz.prog 57 #[.agg #[vn, vl]] w (MatNew (wF ns ls).length (besM (atW ns ls) ls.length) w) := by
  obtain ⟨hw, hl0, h20, h12⟩ := whole_win hh
  have HF := Lib.hid (fun w h1 h2 => specFacesL ns ls vn vl w h1 h2)
  unfold FacesNew at HF
  have HSD := Lib.hid (fun w h1 h2 => specSides9 ns ls vn vl w h1 h2 hh)
  unfold IntsNew at HSD
  have HN := Lib.hid hn
  have HL := Lib.hid hl
  have H0 := Lib.hid (held_pair w vn vl 32)
  obtain ⟨A, c, rfl⟩ := prs_form2 hn
  obtain ⟨A2, c2, rfl⟩ := prs_form2 hl
  clear hn hl
  have HAT := Lib.hid (fun d (h : d < 2 * ls.length) => (show ∃ q : Nat, atZ (atW ns ls) d = q ∧ q < (wF ns ls).length from ⟨_, atW_at h, by rw [wF_whole hh]; exact (atW_face hw h).2⟩))
  have HAL := Lib.hid (atW_len ns ls)
  have h40 := wF_len (ns := ns) (ls := ls)
  have HSK := Lib.hid (fun q h => besM_skip (ds := atW ns ls) (q := q) h)
  have HST := Lib.hid (fun q a b h h1 h2 => besM_store (ds := atW ns ls) (q := q) (a := a) (b := b) h h1 h2)
  have HZ := Lib.hid (show besM (atW ns ls) 0 = fun _ _ => false from by funext f h; rfl)
  clear hh hw
  generalize wF ns ls = rs at *
  generalize besM (atW ns ls) = M at *
  generalize atW ns ls = ds at *
  obtain ⟨n, hnn⟩ : ∃ n, n = rs.length := ⟨_, rfl⟩
  rw [← hnn] at HAT h40 ⊢
  obtain ⟨i0, hi, hz0, hz1, hz2⟩ := info_parts infoRowB
  have HI := Lib.hid (And.intro hi (And.intro hz0 (And.intro hz1 hz2))); clear hi hz0 hz1 hz2
  have HMK : Hid (∀ W : World, (Instr.makeSlice 146 (.int .i64 (n : Int)) (.int .i64 (n : Int))).run Tryz.prog W = .ok (.slice (some ⟨W.heap.size, 0, none⟩) n n) (W.alloc (.cells (madeCells #[.bool false] n) 4))) := Lib.hid (by
    exact run_make_row' 146 4 (.bool false) 1 Tryz.underlying146 infoBool rfl .i64 .i64 n (by omega) (by omega))
  go_enter Tryz.func57, Tryz.ntmps57
  obtain ⟨x0, x1, _⟩ := H0.out.1
  go_wp2_with fail
  refine (HF.out _ (HN.out.step H0.out.below) (HL.out.step H0.out.below)).mono ?_
  rintro e w1 ⟨v, rfl, hv, hb⟩
  obtain ⟨a9, c9, rfl⟩ := faces_form hv
  rw [← hnn]
  have HNN := Lib.hid hnn; clear hnn hv
  have H1 := Lib.hid (H0.out.step hb); clear hb x0 x1
  have hs1 := H1.out.2.1.1
  have HM1 := Lib.hid (MatG.made w1 w1.heap.size (w.heap.size + 1) rfl hs1 (fun _ => 0) n (fun _ _ => false))
  have H2 := Lib.hid (H1.out.alloc (.cells #[] 146))
  obtain ⟨x0, x1, _⟩ := H2.out.1
  go_wp2_with fail
  clear hs1 x0 x1 H0 H1
  go_loopw [4, 5] (fun u i wr => ∃ (k : Nat) (g : Nat → Nat), k ≤ n ∧ i = .int .i64 k ∧ MatG wr (w.heap.size + 1) u g k n (fun _ _ => false) ∧ (∀ j, j < k → g j < wr.heap.size) ∧ Held w wr [(w.heap.size, 0, .slice A ns.length c), (w.heap.size, 1, .slice A2 ls.length c2)]) (fun _ i _ => n - (intOf i).toNat)
  case atStart => exact ⟨0, fun _ => 0, Nat.zero_le _, rfl, HM1.out, fun j hj => by omega, H2.out⟩
  case round =>
    clear H2 HM1
    obtain ⟨k, g, hk, rfl, hm, hgl, hh⟩ := hrel
    have HM := Lib.hid hm; clear hm
    have HGL := Lib.hid hgl; clear hgl
    have H1 := Lib.hid hh; clear hh
    by_cases hlt : k < n
    · have q1 : (k : Int) < (n : Int) := by omega
      have hmk := HMK.out
      have hsz := H1.out.2.1.1
      have HR2 := Lib.hid ((World.rowIs_made wr (.bool false) n 4).alloc (.cells #[.slice (some ⟨wr.heap.size, 0, none⟩) n n] 146))
      have HM2 := Lib.hid ((HM.out.step (below_alloc wr (.cells (madeCells #[.bool false] n) 4))).step (below_alloc _ (.cells #[.slice (some ⟨wr.heap.size, 0, none⟩) n n] 146)))
      have HM1 := Lib.hid (HM.out.step (below_alloc wr (.cells (madeCells #[.bool false] n) 4)))
      have H2 := Lib.hid (H1.out.alloc (.cells (madeCells #[.bool false] n) 4))
      obtain ⟨hi, hz0, hzz1, hzz2⟩ := HI.out
      go_wp2_with (at_builtin; refine wpList_append_own _ rfl _ _ 72 rfl (w.heap.size + 1) 146 i0 (.slice none 0 0) 1 24 Tryz.underlying72 hi hz0 hzz1 hzz2 rfl (by decide) _ _ _ rfl (World.ownsRow.alloc HM1.out.row _) ⟨_, 0, none⟩ 1 1 [.slice (some ⟨wr.heap.size, 0, none⟩) n n] rfl rfl ?c1 ?c2 ?c3 ?c4 ?c5 ?_)
      case c1 => have := cell_one_new (wr.alloc (.cells (madeCells #[.bool false] n) 4)) (.slice (some ⟨wr.heap.size, 0, none⟩) n n) 146; simpa using this
      case c2 => simp [Value.oneCell']
      case c3 => unfold maxLen; omega
      case c4 => omega
      case c5 => simp <;> omega
      intro v' w4 hown hgrow _
      have H4 := Lib.hid (H2.out.stepB (B := w.heap.size + 1) ⟨Nat.lt_succ_self _, Nat.lt_succ_self _, trivial⟩ (grown_belowM HM1.out (by simp; omega) hgrow) (Nat.le_succ _))
      have HM4 := Lib.hid (HM2.out.more (b := wr.heap.size) HR2.out hsz (fun j hj => HGL.out j hj) hgrow hown)
      have HS4 := Lib.hid (hgrow.size)
      clear hown hgrow hmk
      go_wp2_with fail
      exact ⟨⟨k + 1, _, by omega, by go_num, HM4.out, fun j hj => by
        have h4 := HS4.out
        simp at h4
        split
        · omega
        · have := HGL.out j (by omega); omega, H4.out⟩, by simp [intOf]; omega⟩
    · obtain rfl : k = n := by omega
      obtain ⟨x0, x1, _⟩ := H1.out.1
      go_wp2_with fail
      refine (HSD.out _ (HN.out.step H1.out.below) (HL.out.step H1.out.below)).mono ?_
      rintro e w2 ⟨vd, rfl, hd, hb⟩
      have HM2 := Lib.hid (HM.out.step hb)
      have H2 := Lib.hid (H1.out.step hb)
      obtain ⟨Z, hZ⟩ : ∃ Z, Z = wr.heap.size := ⟨_, rfl⟩
      have HLO := Lib.hid (show ∀ j, j < k → g j < Z from by rw [hZ]; exact HGL.out)
      have hwr : w.heap.size < Z := by rw [hZ]; exact H1.out.2.1.1
      rw [← hZ] at hd
      clear hZ
      obtain ⟨gl, cl, rfl⟩ := hd.some_ (by rw [HAL.out]; omega)
      have HDI := Lib.hid hd
      have hk0 : 0 < k := by
        obtain ⟨q, _, hq⟩ := HAT.out 0 (by omega)
        omega
      obtain ⟨gm, cm, rfl⟩ := HM2.out.some_ hk0
      clear hb hd H1 HM HGL x0 x1
      obtain ⟨N, hN⟩ : ∃ N, N = ds.length := ⟨_, rfl⟩
      rw [← hN] at HDI ⊢
      have HNN := Lib.hid hN; clear hN
      go_wp2_with fail
      go_loopw [7] (fun i wr => ∃ q : Nat, q ≤ ls.length ∧ i = .int .i64 q ∧ MatG wr (w.heap.size + 1) (.slice (some ⟨gm, 0, none⟩) k cm) g k k (M q) ∧ Ints wr Z (.slice (some ⟨gl, 0, none⟩) N cl) ds ∧ Held w wr [(w.heap.size, 0, .slice A ns.length c), (w.heap.size, 1, .slice A2 ls.length c2)]) (fun i _ => ls.length - (intOf i).toNat)
      case atStart => exact ⟨0, Nat.zero_le _, rfl, by rw [HZ.out]; exact HM2.out, HDI.out, H2.out⟩
      case round =>
        clear HM2 HDI H2
        obtain ⟨q, hq, rfl, hmm, hdd, hh⟩ := hrel
        have HM := Lib.hid hmm; clear hmm
        have HDI := Lib.hid hdd; clear hdd
        have H1 := Lib.hid hh; clear hh
        obtain ⟨x0, x1, _⟩ := H1.out.1
        by_cases hlt : q < ls.length
        · obtain ⟨z0, -, hgl0, -, -⟩ := HDI.out.at_ (j := 2 * q) (by have := HAL.out; omega)
          obtain ⟨z1, -, -, -, -⟩ := HDI.out.at_ (j := 2 * q + 1) (by have := HAL.out; omega)
          obtain ⟨a, ha, hak⟩ := HAT.out (2 * q) (by omega)
          obtain ⟨b, hb, hbk⟩ := HAT.out (2 * q + 1) (by omega)
          have HSKQ := Lib.hid (HSK.out q)
          have HSTQ := Lib.hid (fun h => HST.out q a b h ha hb)
          rw [ha, hb] at HSKQ
          obtain ⟨e0, he0⟩ : ∃ e0, e0 = 2 * q := ⟨_, rfl⟩
          obtain ⟨e1, he1⟩ : ∃ e1, e1 = e0 + 1 := ⟨_, rfl⟩
          rw [ha] at z0
          rw [hb] at z1
          rw [← he0] at z0 z1
          rw [← he1] at z1
          have hN2 : e1 < N := by have := HAL.out; have := HNN.out; omega
          have hNb : N ≤ 40 := by have := HAL.out; have := HNN.out; omega
          clear ha hb
          have p1 : (0 : Int) ≤ e0 := by omega
          have p2 : (e0 : Int) < (N : Int) := by omega
          have p3 : (0 : Int) ≤ e1 := by omega
          have p4 : (e1 : Int) < (N : Int) := by omega
          have p5 : (0 : Int) ≤ q := by omega
          have p6 : (q : Int) < (ls.length : Int) := by omega
          have p7 : (0 : Int) ≤ a := by omega
          have p8 : (a : Int) < (k : Int) := by omega
          have p9 : (0 : Int) ≤ b := by omega
          have p10 : (b : Int) < (k : Int) := by omega
          have r1 : 2 * (q : Int) = (e0 : Int) := by omega
          have r2 : (e0 : Int) + 1 = (e1 : Int) := by omega
          have r3 : IntKind.i64.wrap (2 * (q : Int)) = (e0 : Int) := by rw [IntWalk.i64_in _ (by omega)]; omega
          have r4 : IntKind.i64.wrap ((e0 : Int) + 1) = (e1 : Int) := by rw [IntWalk.i64_in _ (by omega)]; omega
          have r5 : IntKind.i64.wrap (e0 : Int) = (e0 : Int) := IntWalk.i64_in _ (by omega)
          have r6 : IntKind.i64.wrap (e1 : Int) = (e1 : Int) := IntWalk.i64_in _ (by omega)
          clear he0 he1
          by_cases hab : a = b
          · have hx : ((a : Int) != (b : Int)) = false := by simp [hab]
            have HMQ := Lib.hid (HSKQ.out (by rw [hab]))
            subst hab
            go_wp2_with fail
            exact ⟨⟨q + 1, by omega, by go_num, by rw [HMQ.out]; exact HM.out, HDI.out, H1.out⟩, by simp [intOf]; omega⟩
          · have hx : ((a : Int) != (b : Int)) = true := by rw [bne_iff_ne]; omega
            have HMQ := Lib.hid (HSTQ.out hab)
            obtain ⟨c0, hgm⟩ := HM.out.cellRow hak
            obtain ⟨c1, -⟩ := HM.out.cellRow hbk
            obtain ⟨d0, f0, l0⟩ := HM.out.cell hak (show b < k from hbk)
            obtain ⟨d1, f1, l1⟩ := HM.out.cell hbk (show a < k from hak)
            have HS1 := Lib.hid (HM.out.set hak b true)
            have HS2 := Lib.hid (HS1.out.set hbk a true)
            have HF1 := Lib.hid (fun e => HM.out.far (b := gm) rfl (HM.out.each a hak) e)
            have hg1 := HM.out.low a hak
            have hg2 := HM.out.low b hbk
            have hga := HLO.out a hak
            have hgb := HLO.out b hbk
            have hgl2 := (HDI.out.own gl rfl).1
            have HDA := Lib.hid (HDI.out.keep (w' := wr.setCell ⟨g a, b, none⟩ (.bool true)) fun x e => Below.heap_setCell _ _ _ _ (by show x ≠ g a; have := HDI.out.own x e; omega))
            have HDB := Lib.hid (HDA.out.keep (w' := (wr.setCell ⟨g a, b, none⟩ (.bool true)).setCell ⟨g b, a, none⟩ (.bool true)) fun x e => Below.heap_setCell _ _ _ _ (by show x ≠ g b; have := HDA.out.own x e; omega))
            have HA1 := Lib.hid (H1.out.setB (g := g a) (j := b) (x := .bool true) (B := w.heap.size + 1) ⟨Nat.lt_succ_self _, Nat.lt_succ_self _, trivial⟩ hg1 (Nat.le_succ _))
            have HB1 := Lib.hid (HA1.out.setB (g := g b) (j := a) (x := .bool true) (B := w.heap.size + 1) ⟨Nat.lt_succ_self _, Nat.lt_succ_self _, trivial⟩ hg2 (Nat.le_succ _))
            have hne1 : gm ≠ g a := fun e => HF1.out (by rw [e])
            have hne2 : g a ≠ gm := fun e => hne1 e.symm
            have hne3 : g b ≠ g a := by
              rcases Nat.lt_or_gt_of_ne hab with hl | hl
              · have := HM.out.apart a b hl hbk; omega
              · have := HM.out.apart b a hl hak; omega
            have hne4 : g a ≠ g b := fun e => hne3 e.symm
            unfold rowVal at c0 c1
            go_wp2_with fail
            exact ⟨⟨q + 1, by omega, by go_num, by rw [← HMQ.out]; exact HS2.out, HDB.out, HB1.out⟩, by simp [intOf]; omega⟩
        · obtain rfl : q = ls.length := by omega
          go_wp2_with fail
          go_ret
          exact ⟨_, g, rfl, HM.out.mono (Nat.le_succ _), H1.out.below⟩
end Go.Proofs.YtepacoacalhdcaaGreat
