/-
  The year, of the model and of the program: the length of a day, the share of clouds, the clear minutes.
-/
import Derived.Test.YtkkpmpicaiflgaaDoorShe
import Derived.Test.YtkkpmpicaiflgaaDoorTri
import Derived.LoopTactic
import Derived.Outline
namespace Go.Proofs.YtkkpmpicaiflgaaDoor
open Go.RowKit
set_option linter.unusedVariables false
set_option linter.unusedSimpArgs false

def days : List Int := [490, 580, 705, 830, 935, 990, 965, 875, 755, 630, 520, 465]
def dayI (m : Int) : Int := if inB m 0 11 then days.getD m.toNat 0 else -1
theorem twelve {m : Int} (h : inB m 0 11 = true) : m = 0 ∨ m = 1 ∨ m = 2 ∨ m = 3 ∨ m = 4 ∨ m = 5 ∨ m = 6 ∨ m = 7 ∨ m = 8 ∨ m = 9 ∨ m = 10 ∨ m = 11 := by
  rw [inB_iff] at h; omega
theorem dayI_bd {m : Int} (h : inB m 0 11 = true) : 465 ≤ dayI m ∧ dayI m ≤ 990 := by
  rcases twelve h with rfl | rfl | rfl | rfl | rfl | rfl | rfl | rfl | rfl | rfl | rfl | rfl <;> decide
def cloudI (m t : Int) : Int := if inB m 0 11 && inB t 0 60 then min (20 + t + (if m < 2 ∨ 9 < m then 15 else 0)) 95 else -1
theorem cloudI_bd {m t : Int} (h : inB m 0 11 = true) (h2 : inB t 0 60 = true) : 20 ≤ cloudI m t ∧ cloudI m t ≤ 95 := by
  unfold cloudI; rw [h, h2]; rw [inB_iff] at h h2; simp only [Bool.and_self, if_true]; split <;> omega
theorem cloudI_no {m t : Int} (h : (inB m 0 11 && inB t 0 60) = false) : cloudI m t = -1 := by
  unfold cloudI; rw [h]; rfl
def clearI (m t : Int) : Int := if inB m 0 11 && inB t 0 60 then dayI m * (100 - cloudI m t) / 100 else -1

theorem implMonth (m : Int) (w : World) : Calls Tryd.prog 14 #[.int .i64 m] w (BoolIs (inB m 0 11) w) := by
  have hr : inB m 0 11 = decide (0 ≤ m ∧ m ≤ 11) := by rw [Bool.eq_iff_iff, inB_iff]; simp
  generalize inB m 0 11 = r at *
  have HR := Lib.hid hr; clear hr
  go_enter Tryd.func14, Tryd.ntmps14
  go_wp2
  all_goals
    go_ret
    exact ⟨ret_bool (by rw [HR.out, Bool.eq_iff_iff]; simp; omega), Below.refl _ _⟩

theorem implWet (m : Int) (w : World) : Calls Tryd.prog 15 #[.int .i64 m] w (BoolIs (inB m 0 60) w) := by
  have hr : inB m 0 60 = decide (0 ≤ m ∧ m ≤ 60) := by rw [Bool.eq_iff_iff, inB_iff]; simp
  generalize inB m 0 60 = r at *
  have HR := Lib.hid hr; clear hr
  go_enter Tryd.func15, Tryd.ntmps15
  go_wp2
  all_goals
    go_ret
    exact ⟨ret_bool (by rw [HR.out, Bool.eq_iff_iff]; simp; omega), Below.refl _ _⟩

theorem implWinter (m : Int) (w : World) : Calls Tryd.prog 16 #[.int .i64 m] w (BoolIs (decide (m < 2 ∨ 9 < m)) w) := by
  have hr : decide (m < 2 ∨ 9 < m) = decide (m ≤ 1 ∨ 10 ≤ m) := by rw [decide_eq_decide]; omega
  generalize decide (m < 2 ∨ 9 < m) = r at *
  have HR := Lib.hid hr; clear hr
  go_enter Tryd.func16, Tryd.ntmps16
  go_wp2
  all_goals
    go_ret
    exact ⟨ret_bool (by rw [HR.out, Bool.eq_iff_iff]; simp; try omega), Below.refl _ _⟩

set_option maxRecDepth 100000 in
theorem implCloud (m t : Int) (w : World) :
    Calls Tryd.prog 9 #[.int .i64 m, .int .i64 t] w (IntIs (cloudI m t) w) := by
  have HA := Lib.hid (implMonth m)
  have HB := Lib.hid (implWet t)
  have HC := Lib.hid (implWinter m)
  have H0 := Lib.hid (Held.none_ w)
  have HR := Lib.hid (show cloudI m t = if inB m 0 11 && inB t 0 60 then min (20 + t + (if decide (m < 2 ∨ 9 < m) = true then 15 else 0)) 95 else -1 from by unfold cloudI; simp only [decide_eq_true_eq])
  have hb : inB t 0 60 = true → 0 ≤ t ∧ t ≤ 60 := fun h => (inB_iff _ _ _).1 h
  generalize cloudI m t = r at *
  generalize inB m 0 11 = b1 at *
  generalize inB t 0 60 = b2 at *
  generalize decide (m < 2 ∨ 9 < m) = b3 at *
  cases b1
  · clear hb
    go_enter Tryd.func9, Tryd.ntmps9
    go_wp2_with fail
    repeat' (first | ((first | (with_reducible refine (HA.out _).mono ?_) | (with_reducible refine (HB.out _).mono ?_) | fail); rintro e wn ⟨rfl, hb⟩; have H0 := Lib.hid (H0.out.step hb); clear hb; go_wp2_with fail) | fail)
    go_ret
    exact ⟨ret_int (by rw [HR.out]; simp), H0.out.below⟩
  cases b2
  · clear hb
    go_enter Tryd.func9, Tryd.ntmps9
    go_wp2_with fail
    repeat' (first | ((first | (with_reducible refine (HA.out _).mono ?_) | (with_reducible refine (HB.out _).mono ?_) | fail); rintro e wn ⟨rfl, hb⟩; have H0 := Lib.hid (H0.out.step hb); clear hb; go_wp2_with fail) | fail)
    go_ret
    exact ⟨ret_int (by rw [HR.out]; simp), H0.out.below⟩
  obtain ⟨l, g⟩ := hb rfl
  clear hb
  have e1 : IntKind.i64.wrap (20 + t) = 20 + t := IntWalk.i64_in _ (by omega)
  have e2 : IntKind.i64.wrap (20 + t + 15) = 20 + t + 15 := IntWalk.i64_in _ (by omega)
  cases b3
  all_goals
    go_enter Tryd.func9, Tryd.ntmps9
    go_wp2_with fail
    repeat' (first | ((first | (with_reducible refine (HA.out _).mono ?_) | (with_reducible refine (HB.out _).mono ?_) | (with_reducible refine (HC.out _).mono ?_) | fail); rintro e wn ⟨rfl, hb⟩; have H0 := Lib.hid (H0.out.step hb); clear hb; go_wp2_with fail) | fail)
    all_goals
      go_ret
      exact ⟨ret_int (by rw [HR.out]; simp; try omega), H0.out.below⟩
end Go.Proofs.YtkkpmpicaiflgaaDoor
