/-
  A chain of faces with two colors, of the model.
-/
import Derived.Test.YtepacoacalhdcaaGreatG23
import Derived.Test.YtepacoacalhdcaaGreatMat
import Derived.Test.YtepacoacalhdcaaGreatG37
import Derived.Test.YtepacoacalhdcaaGreatG22
import Derived.BigQuiet
namespace Go.Proofs.YtepacoacalhdcaaGreat
open Go.RowKit
set_option linter.unusedVariables false
set_option linter.unusedSimpArgs false

/-- A face that has color c, or that of face f. -/
def chnP (xs : List Int) (f : Nat) (c x : Int) : Bool := decide (atZ xs x.toNat = c) || decide (atZ xs x.toNat = atZ xs f)

/-- The queue when the first i faces were looked at for face h. -/
def fT (M : Nat → Nat → Bool) (P : Int → Bool) (T : List Int) (h i : Nat) : List Int := (fltN (fun j => M h j) i).foldl (addQ P) T

section

variable {M : Nat → Nat → Bool} {P : Int → Bool} {T : List Int} {N h i : Nat}

theorem fT_zero : fT M P T h 0 = T := rfl

theorem fT_yes (h1 : M h i = true) (h2 : (fT M P T h i).contains (i : Int) = false) (h3 : P i = true) : fT M P T h (i + 1) = fT M P T h i ++ [(i : Int)] := by
  unfold fT at *
  rw [fold_row, if_pos h1, addQ_yes h3 h2]

theorem fT_no1 (h1 : M h i = false) : fT M P T h (i + 1) = fT M P T h i := by
  unfold fT
  rw [fold_row, if_neg (by rw [h1]; simp)]

theorem fT_no2 (h2 : (fT M P T h i).contains (i : Int) = true) : fT M P T h (i + 1) = fT M P T h i := by
  unfold fT at *
  rw [fold_row]
  split
  · exact addQ_has h2
  · rfl

theorem fT_no3 (h3 : P i = false) : fT M P T h (i + 1) = fT M P T h i := by
  unfold fT
  rw [fold_row]
  split
  · exact addQ_not h3
  · rfl

theorem fT_old {k : Nat} (hk : k < T.length) (i : Nat) : atZ (fT M P T h i) k = atZ T k ∧ T.length ≤ (fT M P T h i).length := fold_old _ hk

theorem fT_nat (hT : NatL N T) (hi : i ≤ N) : NatL N (fT M P T h i) := NatL.fold _ hT fun x hx => by
  obtain ⟨q, h1, h2, _⟩ := (fltN_mem _ _ _).1 hx
  exact ⟨q, h1, by omega⟩

end

theorem contains_snoc (T : List Int) (x y : Int) : (T ++ [x]).contains y = (T.contains y || (y == x)) := by
  rw [Bool.eq_iff_iff, Bool.or_eq_true, List.contains_iff_mem, List.contains_iff_mem, List.mem_append, List.mem_singleton, beq_iff_eq]

theorem qL_fT {M : Nat → Nat → Bool} {P : Int → Bool} {N f k h : Nat} (hk : k < (qL M P N f k).length) (hh : atZ (qL M P N f k) k = h) : qL M P N f (k + 1) = fT M P (qL M P N f k) h N := by
  rw [qL_next hk, hh]; rfl

set_option maxRecDepth 100000 in
set_option maxHeartbeats 1000000 in
theorem specChn (M : Nat → Nat → Bool) (N : Nat) (hN : N ≤ 13) (am : Option Addr) (cm : Nat) (g : Nat → Nat) (xs : List Int) (vx : Value) (f : Nat) (hf : f < N) (c : Int) (w : World) (hxl : xs.length = N) (hm : MatG w 0 (.slice am N cm) g N N M) (hv : Seq w vx xs) :
    Calls Tryz.prog 110 #[.slice am N cm, vx, .int .i64 f, .int .i64 c] w (IntsNew (chnL M (chnP xs f c) N f) w) := by
  have HM := Lib.hid hm; clear hm
  have HV := Lib.hid hv
  obtain ⟨A3, c3, rfl⟩ := seq_form2 hv
  have HXL := Lib.hid hxl; clear hxl hv
  obtain ⟨bx, ox, rfl, hbx, hcx⟩ := seq_at HV.out f (by rw [HXL.out]; exact hf)
  have HXC := Lib.hid (fun W (hb : Below w.heap.size w W) i (hi : i < N) => (hb.cell (p := ⟨bx, ox + i, none⟩) hbx).trans (hcx i (by rw [HXL.out]; exact hi)))
  clear hbx hcx HV
  have HP := Lib.hid (fun (i : Nat) => (show chnP xs f c (i : Int) = (decide (atZ xs i = c) || decide (atZ xs i = atZ xs f)) from by unfold chnP; simp))
  generalize chnP xs f c = P at *
  have HQN := Lib.hid (fun k => qL_nat M P hf k)
  have HQF := Lib.hid (fun k h hk hh => qL_fT (M := M) (P := P) (N := N) (f := f) (k := k) (h := h) hk hh)
  have HQE := Lib.hid (fun k h => qL_end (M := M) (P := P) (k := k) hf h)
  have HQ0 := Lib.hid (show qL M P N f 0 = [(f : Int)] from rfl)
  have HF0 := Lib.hid (fun T h => fT_zero (M := M) (P := P) (T := T) (h := h))
  have HFY := Lib.hid (fun T h i h1 h2 h3 => fT_yes (M := M) (P := P) (T := T) (h := h) (i := i) h1 h2 h3)
  have HFN1 := Lib.hid (fun T h i h1 => fT_no1 (M := M) (P := P) (T := T) (h := h) (i := i) h1)
  have HFN2 := Lib.hid (fun T h i h1 => fT_no2 (M := M) (P := P) (T := T) (h := h) (i := i) h1)
  have HFN3 := Lib.hid (fun T h i h1 => fT_no3 (M := M) (P := P) (T := T) (h := h) (i := i) h1)
  have HFO := Lib.hid (fun T h k hk i => fT_old (M := M) (P := P) (T := T) (h := h) (k := k) hk i)
  have HFT := Lib.hid (fun T h i hT hi => fT_nat (M := M) (P := P) (T := T) (h := h) (N := N) (i := i) hT hi)
  have HCH := Lib.hid (show chnL M P N f = fltN (fun i => (qL M P N f N).contains (i : Int)) N from rfl)
  generalize chnL M P N f = CH at *
  generalize qL M P N f = Q at *
  generalize fT M P = FT at *
  have hmk : ∀ W : World, (Instr.makeSlice 146 (.int .i64 (N : Int)) (.int .i64 (N : Int))).run Tryz.prog W = .ok (.slice (some ⟨W.heap.size, 0, none⟩) N N) (W.alloc (.cells (madeCells #[.bool false] N) 4)) :=
    run_make_row' 146 4 (.bool false) 1 Tryz.underlying146 infoBool rfl .i64 .i64 N (by omega) (by omega)
  have HR0 := Lib.hid (World.rowIs_made w (.bool false) N 4)
  have b0 := HR0.out.frozen f
  have b1 := HR0.out.cell hf
  have p1 : (0 : Int) ≤ (f : Int) := by omega
  have p2 : (f : Int) < (N : Int) := by omega
  obtain ⟨i0, hi, hz0, hz1, hz2⟩ := info_parts infoInt
  have HI := Lib.hid (And.intro hi (And.intro hz0 (And.intro hz1 hz2))); clear hi hz0 hz1 hz2
  go_enter Tryz.func110, Tryz.ntmps110
  go_wp2_with fail
  have HB1 := Lib.hid (below_setCell (p := ⟨w.heap.size, f, none⟩) (x := .bool true) (below_alloc w (.cells (madeCells #[.bool false] N) 4)) (Nat.le_refl _))
  have HR1 := Lib.hid (HR0.out.set f (.bool true))
  rw [World.setCell_alloc_new] at HB1 HR1
  generalize hW : w.alloc (.cells ((madeCells #[.bool false] N).setIfInBounds f (.bool true)) 4) = W1 at *
  have hs1 : W1.heap.size = w.heap.size + 1 := by rw [← hW]; simp
  clear hmk b0 b1 hW HR0
  have HB2 := Lib.hid (HB1.out.trans ((below_alloc W1 (.cells #[.int .i64 f] 3)).mono (by omega)))
  have HR2 := Lib.hid (rowIs_step HR1.out (below_alloc W1 (.cells #[.int .i64 f] 3)))
  have HO2 := Lib.hid (show Ints (W1.alloc (.cells #[.int .i64 f] 3)) w.heap.size (.slice (some ⟨w.heap.size + 1, 0, none⟩) (Q 0).length 1) (Q 0) from by
    rw [HQ0.out]
    exact ⟨by simp, .inr ⟨w.heap.size + 1, 1, #[.int .i64 f], rfl, by omega, by have := heap_alloc_new W1 (.cells #[.int .i64 f] 3); rw [hs1] at this; exact this, Nat.le_refl _, by unfold maxLen; omega, rfl, by simp⟩⟩)
  have HQL : Hid ((1 : Nat) = (Q 0).length) := Lib.hid (by rw [HQ0.out]; rfl)
  go_loopw [10, 11] (fun u vi wr => ∃ k : Nat, k ≤ (Q k).length ∧ vi = .int .i64 k ∧ Ints wr w.heap.size u (Q k) ∧ wr.rowIs w.heap.size 4 N (fun q => .bool ((Q k).contains (q : Int))) ∧ Below w.heap.size w wr) (fun _ vi _ => 100 - (intOf vi).toNat)
  case atStart =>
    refine ⟨0, Nat.zero_le _, rfl, ?_, HR2.out.congr (fun q _ => ?_), HB2.out⟩
    · rw [← HQL.out] at HO2; exact HO2.out
    · rw [HQ0.out]
      by_cases e : q = f
      · subst e; simp
      · rw [if_neg e]
        have : ([(f : Int)].contains (q : Int)) = false := by simp; omega
        rw [this]
  case round =>
    clear HB1 HB2 HR1 HR2 HO2 hs1
    obtain ⟨k, hk, rfl, hown, hrow, hb⟩ := hrel
    have HO := Lib.hid hown; clear hown
    have HB := Lib.hid hrow; clear hrow
    have HW := Lib.hid hb; clear hb
    have hqn := (HQN.out k).len
    by_cases hlt : k < (Q k).length
    · obtain ⟨h, hh, hhN⟩ := (HQN.out k).at_ hlt
      have HQK := Lib.hid (HQF.out k h hlt hh)
      have HNT := Lib.hid (fun i (hi : i ≤ N) => HFT.out (Q k) h i (HQN.out k) hi)
      have HOL := Lib.hid (fun i => HFO.out (Q k) h k hlt i)
      rw [hh] at HOL
      have HY1 := Lib.hid (HFY.out (Q k) h)
      have HN1 := Lib.hid (HFN1.out (Q k) h)
      have HN2 := Lib.hid (HFN2.out (Q k) h)
      have HN3 := Lib.hid (HFN3.out (Q k) h)
      have HZ0 := Lib.hid (HF0.out (Q k) h)
      have q1 : (k : Int) < ((Q k).length : Int) := by omega
      have q0 : (0 : Int) ≤ k := by omega
      have HQQ := Lib.hid (show Q (k + 1) = FT (Q k) h N from HQK.out)
      have hk13 : k ≤ 13 := by omega
      generalize FT (Q k) h = F at *
      obtain ⟨au, cu, rfl, -⟩ := HO.out.form
      go_wp2_with fail
      go_loopw [10, 12] (fun u vi wr => ∃ i : Nat, i ≤ N ∧ vi = .int .i64 i ∧ Ints wr w.heap.size u (F i) ∧ wr.rowIs w.heap.size 4 N (fun q => .bool ((F i).contains (q : Int))) ∧ Below w.heap.size w wr) (fun _ vi _ => N - (intOf vi).toNat)
      case atStart => exact ⟨0, Nat.zero_le _, rfl, by rw [HZ0.out]; exact HO.out, by rw [HZ0.out]; exact HB.out, HW.out⟩
      case round =>
        clear HO HB HW
        obtain ⟨i, hi, rfl, hown, hrow, hb⟩ := hrel
        have HO := Lib.hid hown; clear hown
        have HB := Lib.hid hrow; clear hrow
        have HW := Lib.hid hb; clear hb
        by_cases hiN : i < N
        · obtain ⟨hmi⟩ : Nonempty (i < N) := ⟨hiN⟩
          have q3 : (i : Int) < (N : Int) := by omega
          have q4 : (0 : Int) ≤ i := by omega
          have q8 : (i : Int) < (xs.length : Int) := by rw [HXL.out]; omega
          have q9 : (f : Int) < (xs.length : Int) := by rw [HXL.out]; omega
          have q5 : (0 : Int) ≤ h := by omega
          have q6 : (h : Int) < (N : Int) := by omega
          have hol := HOL.out i
          have hkF : k < (F i).length := by omega
          have q7 : (k : Int) < ((F i).length : Int) := by omega
          have hlF := (HNT.out i (by omega)).len
          have HMW := Lib.hid (HM.out.step HW.out)
          obtain ⟨gm, cm', hmv⟩ := HMW.out.some_ (by omega)
          simp only [Value.slice.injEq] at hmv
          obtain ⟨rfl, -, rfl⟩ := hmv
          obtain ⟨z0, hgm⟩ := HMW.out.cellRow hhN
          obtain ⟨z1, z2, z3⟩ := HMW.out.cell hhN hiN
          unfold rowVal at z0
          obtain ⟨gu, cu2, hu⟩ := HO.out.some_ (by omega)
          subst hu
          obtain ⟨y0, -, y1, -, -⟩ := HO.out.at_ (j := k) hkF
          rw [hol.1] at y0
          have b1 := HB.out.cell hiN
          have b0 := HB.out.frozen i
          have c1 := HXC.out wr HW.out i hiN
          have c2 := HXC.out wr HW.out f hf
          have HPi := Lib.hid (HP.out i)
          have HY1i := Lib.hid (HY1.out i)
          have HN1i := Lib.hid (HN1.out i)
          have HN2i := Lib.hid (HN2.out i)
          have HN3i := Lib.hid (HN3.out i)
          have HSET := Lib.hid (HB.out.set i (.bool true))
          clear hol
          generalize P (i : Int) = pi at *
          generalize M h i = mi at *
          generalize hfi : (F i).contains (i : Int) = si at *
          cases mi
          · have E1 := Lib.hid (HN1i.out (by first | rfl | trivial))
            go_wp2_with fail
            go_quiet (fail)
            go_wp2_with fail
            exact ⟨⟨i + 1, by omega, by go_num, by rw [E1.out]; exact HO.out.step (below_drewN (Below.refl _ _) nq), by rw [E1.out]; exact rowIs_step HB.out (below_drewN (Below.refl _ _) nq), HW.out.trans (below_drewN (Below.refl _ _) nq |>.mono HW.out.size)⟩, by simp [intOf]; omega⟩
          · cases si
            · generalize atZ xs i = x at *
              generalize atZ xs f = y at *
              by_cases hxc : x = c
              · have HPI := Lib.hid (show pi = true from by rw [HPi.out]; simp [hxc])
                subst hxc
                clear HPi
                have E1 := Lib.hid (HY1i.out (by first | rfl | trivial) (by first | rfl | trivial) HPI.out)
                clear HN1i HN2i HN3i HY1i
                go_wp2_with fail
                go_quiet (fail)
                have HD := Lib.hid (below_drewN (Below.refl wr.heap.size wr) nq)
                have HB4 := Lib.hid (rowIs_step HB.out HD.out)
                have HB5 := Lib.hid (HB4.out.set i (.bool true))
                have HO5 := Lib.hid ((HO.out.step HD.out).setFarB (j := i) (x := .bool true) HB4.out)
                have HW5 := Lib.hid (below_setCell (p := ⟨w.heap.size, i, none⟩) (x := .bool true) (HW.out.trans (HD.out.mono HW.out.size)) (Nat.le_refl _))
                have b5 := HB4.out.cell hiN
                have b6 := HB4.out.frozen i
                obtain ⟨hi, hz0, hz1, hz2⟩ := HI.out
                go_wp2_with (at_builtin; refine wpList_append_own _ rfl _ _ 27 rfl w.heap.size 3 i0 (.int .i64 0) 1 8 Tryz.underlying27 hi hz0 hz1 hz2 rfl (by decide) _ _ _ rfl (World.ownsRow.alloc HO5.out _) ⟨_, 0, none⟩ 1 1 [.int .i64 i] rfl rfl ?c1 ?c2 ?c3 ?c4 ?c5 ?_)
                try (case c1 => first | exact cell_one_new _ _ _ | (have := cell_one_new ((wr.drewN nq).setCell ⟨w.heap.size, i, none⟩ (.bool true)) (.int .i64 i) 3; simpa [heap_setCell_size] using this))
                case c2 => simp [Value.oneCell']
                case c3 => unfold maxLen; omega
                case c4 => omega
                case c5 => first | exact HW5.out.size | omega | (simp <;> omega) | (have := HW5.out.size; simp at this ⊢; omega)
                intro v' w5 hown hgrow _
                have HO6 := Lib.hid (Ints.more hown)
                have HB6 := Lib.hid (rowIs_grown (rowIs_step HB5.out (below_alloc _ (.cells #[.int .i64 i] 3))) hgrow (fun e => (HO5.out.farB HB5.out e) rfl))
                have HW6 := Lib.hid (HW5.out.trans (grown_below HO5.out HW5.out.size hgrow))
                clear hown hgrow hi hz0 hz1 hz2 b5 b6
                go_wp2_with fail
                exact ⟨⟨i + 1, by omega, by go_num, by rw [E1.out]; exact HO6.out, by
                  rw [E1.out]
                  refine HB6.out.congr fun q hq => ?_
                  rw [contains_snoc]
                  by_cases e : q = i
                  · subst e; simp
                  · rw [if_neg e]
                    have : ((q : Int) == (i : Int)) = false := by rw [beq_eq_false_iff_ne]; omega
                    rw [this, Bool.or_false], HW6.out⟩, by simp [intOf]; omega⟩
              · have e1 : (x == c) = false := by rw [beq_eq_false_iff_ne]; exact hxc
                have e2 : decide (x = c) = false := by simp [hxc]
                by_cases hxy : x = y
                · have HPI := Lib.hid (show pi = true from by rw [HPi.out]; simp [hxy])
                  subst hxy
                  clear HPi hxc
                  have E1 := Lib.hid (HY1i.out (by first | rfl | trivial) (by first | rfl | trivial) HPI.out)
                  clear HN1i HN2i HN3i HY1i
                  go_wp2_with fail
                  go_quiet (fail)
                  have HD := Lib.hid (below_drewN (Below.refl wr.heap.size wr) nq)
                  have HB4 := Lib.hid (rowIs_step HB.out HD.out)
                  have HB5 := Lib.hid (HB4.out.set i (.bool true))
                  have HO5 := Lib.hid ((HO.out.step HD.out).setFarB (j := i) (x := .bool true) HB4.out)
                  have HW5 := Lib.hid (below_setCell (p := ⟨w.heap.size, i, none⟩) (x := .bool true) (HW.out.trans (HD.out.mono HW.out.size)) (Nat.le_refl _))
                  have b5 := HB4.out.cell hiN
                  have b6 := HB4.out.frozen i
                  obtain ⟨hi, hz0, hz1, hz2⟩ := HI.out
                  go_wp2_with (at_builtin; refine wpList_append_own _ rfl _ _ 27 rfl w.heap.size 3 i0 (.int .i64 0) 1 8 Tryz.underlying27 hi hz0 hz1 hz2 rfl (by decide) _ _ _ rfl (World.ownsRow.alloc HO5.out _) ⟨_, 0, none⟩ 1 1 [.int .i64 i] rfl rfl ?c1 ?c2 ?c3 ?c4 ?c5 ?_)
                  try (case c1 => first | exact cell_one_new _ _ _ | (have := cell_one_new ((wr.drewN nq).setCell ⟨w.heap.size, i, none⟩ (.bool true)) (.int .i64 i) 3; simpa [heap_setCell_size] using this))
                  case c2 => simp [Value.oneCell']
                  case c3 => unfold maxLen; omega
                  case c4 => omega
                  case c5 => first | exact HW5.out.size | omega | (simp <;> omega) | (have := HW5.out.size; simp at this ⊢; omega)
                  intro v' w5 hown hgrow _
                  have HO6 := Lib.hid (Ints.more hown)
                  have HB6 := Lib.hid (rowIs_grown (rowIs_step HB5.out (below_alloc _ (.cells #[.int .i64 i] 3))) hgrow (fun e => (HO5.out.farB HB5.out e) rfl))
                  have HW6 := Lib.hid (HW5.out.trans (grown_below HO5.out HW5.out.size hgrow))
                  clear hown hgrow hi hz0 hz1 hz2 b5 b6
                  go_wp2_with fail
                  exact ⟨⟨i + 1, by omega, by go_num, by rw [E1.out]; exact HO6.out, by
                    rw [E1.out]
                    refine HB6.out.congr fun q hq => ?_
                    rw [contains_snoc]
                    by_cases e : q = i
                    · subst e; simp
                    · rw [if_neg e]
                      have : ((q : Int) == (i : Int)) = false := by rw [beq_eq_false_iff_ne]; omega
                      rw [this, Bool.or_false], HW6.out⟩, by simp [intOf]; omega⟩
                · have e3 : (x == y) = false := by rw [beq_eq_false_iff_ne]; exact hxy
                  have e4 : decide (x = y) = false := by simp [hxy]
                  have E1 := Lib.hid (HN3i.out (by rw [HPi.out, e2, e4]; rfl))
                  clear hxc hxy HPi
                  go_wp2_with fail
                  go_quiet (fail)
                  go_wp2_with fail
                  exact ⟨⟨i + 1, by omega, by go_num, by rw [E1.out]; exact HO.out.step (below_drewN (Below.refl _ _) nq), by rw [E1.out]; exact rowIs_step HB.out (below_drewN (Below.refl _ _) nq), HW.out.trans (below_drewN (Below.refl _ _) nq |>.mono HW.out.size)⟩, by simp [intOf]; omega⟩
            · have E1 := Lib.hid (HN2i.out (by first | rfl | trivial))
              go_wp2_with fail
              go_quiet (fail)
              go_wp2_with fail
              exact ⟨⟨i + 1, by omega, by go_num, by rw [E1.out]; exact HO.out.step (below_drewN (Below.refl _ _) nq), by rw [E1.out]; exact rowIs_step HB.out (below_drewN (Below.refl _ _) nq), HW.out.trans (below_drewN (Below.refl _ _) nq |>.mono HW.out.size)⟩, by simp [intOf]; omega⟩
        · obtain rfl : i = N := by omega
          have hle := (HOL.out i).2
          have hsz := hlt
          go_wp2_with fail
          exact ⟨⟨k + 1, by rw [HQQ.out]; omega, by go_num, by rw [HQQ.out]; exact HO.out, by rw [HQQ.out]; exact HB.out, HW.out⟩, by simp [intOf]; omega⟩
    · have hke : (Q k).length = k := by omega
      have HQF2 := Lib.hid (HQE.out k hke)
      rw [HQF2.out] at HCH
      have q1 : ¬ (k : Int) < ((Q k).length : Int) := by omega
      have q2 : ¬ k < (Q k).length := by omega
      obtain ⟨au, cu, rfl, -⟩ := HO.out.form
      have HU := Lib.hid (fltN_succ (fun i => (Q k).contains (i : Int)))
      have HLE := Lib.hid (fltN_len (fun i => (Q k).contains (i : Int)))
      have HZ := Lib.hid (show fltN (fun i => (Q k).contains (i : Int)) 0 = [] from rfl)
      generalize hS : (fun i : Nat => (Q k).contains (i : Int)) = S at *
      have HS := Lib.hid (fun q : Nat => (show (Q k).contains (q : Int) = S q from by rw [← hS])); clear hS
      have HB0 := Lib.hid (HB.out.congr (g := fun q => .bool (S q)) fun q _ => by rw [HS.out])
      generalize fltN S = X at *
      have HX1 := Lib.hid (Ints.made wr wr.heap.size w.heap.size rfl HW.out.size)
      have HB1 := Lib.hid (rowIs_step HB0.out (below_alloc wr (.cells #[] 3)))
      have HW1 := Lib.hid (HW.out.trans ((below_alloc wr (.cells #[] 3)).mono HW.out.size))
      clear HO HB HQN HQF HQE HQ0 HF0 HFY HFN1 HFN2 HFN3 HFO HFT hke hqn HQF2 HB0
      go_wp2_with fail
      go_loopw [13, 14] (fun u vi wr => ∃ i : Nat, i ≤ N ∧ vi = .int .i64 i ∧ Ints wr w.heap.size u (X i) ∧ wr.rowIs w.heap.size 4 N (fun q => .bool (S q)) ∧ Below w.heap.size w wr) (fun _ vi _ => N - (intOf vi).toNat)
      case atStart => exact ⟨0, Nat.zero_le _, rfl, by rw [HZ.out]; exact HX1.out, HB1.out, HW1.out⟩
      case round =>
        clear HX1 HB1 HW1 HW
        obtain ⟨i, hi, rfl, hown, hrow, hb⟩ := hrel
        have HO := Lib.hid hown; clear hown
        have HB := Lib.hid hrow; clear hrow
        have HW := Lib.hid hb; clear hb
        by_cases hiN : i < N
        · have q3 : (i : Int) < (N : Int) := by omega
          have q4 : (0 : Int) ≤ i := by omega
          have b1 := HB.out.cell hiN
          have hui := HU.out i
          rw [HS.out] at hui
          have HUi := Lib.hid hui; clear hui
          have hl := HLE.out i
          generalize S i = si at *
          cases si
          · have E1 := Lib.hid (show X (i + 1) = X i from by rw [HUi.out]; rfl)
            go_wp2_with fail
            exact ⟨⟨i + 1, by omega, by go_num, by rw [E1.out]; exact HO.out, HB.out, HW.out⟩, by simp [intOf]; omega⟩
          · have E1 := Lib.hid (show X (i + 1) = X i ++ [(i : Int)] from by rw [HUi.out]; rfl)
            have hsz := HW.out.size
            obtain ⟨av, cv, rfl, -⟩ := HO.out.form
            obtain ⟨hi, hz0, hz1, hz2⟩ := HI.out
            clear HUi
            go_wp2_with (at_builtin; refine wpList_append_own _ rfl _ _ 27 rfl w.heap.size 3 i0 (.int .i64 0) 1 8 Tryz.underlying27 hi hz0 hz1 hz2 rfl (by decide) _ _ _ rfl (World.ownsRow.alloc HO.out _) ⟨_, 0, none⟩ 1 1 [.int .i64 i] rfl rfl ?c1 ?c2 ?c3 ?c4 ?c5 ?_)
            try (case c1 => exact cell_one_new _ _ _)
            case c2 => simp [Value.oneCell']
            case c3 => unfold maxLen; omega
            case c4 => omega
            case c5 => first | omega | (simp <;> omega)
            intro v' w5 hown hgrow _
            have HO6 := Lib.hid (Ints.more hown)
            have HB6 := Lib.hid (rowIs_grown (rowIs_step HB.out (below_alloc _ (.cells #[.int .i64 i] 3))) hgrow (fun e => (HO.out.farB HB.out e) rfl))
            have HW6 := Lib.hid (HW.out.trans (grown_below HO.out hsz hgrow))
            clear hown hgrow hi hz0 hz1 hz2
            go_wp2_with fail
            exact ⟨⟨i + 1, by omega, by go_num, by rw [E1.out]; exact HO6.out, HB6.out, HW6.out⟩, by simp [intOf]; omega⟩
        · obtain rfl : i = N := by omega
          go_wp2_with fail
          go_ret
          exact ⟨_, rfl, by rw [HCH.out]; exact HO.out, HW.out⟩
end Go.Proofs.YtepacoacalhdcaaGreat
