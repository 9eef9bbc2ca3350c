/-
  The size of a window, with what is left.
-/
import Derived.Test.YtepacoacalhdcaaGreatG1
namespace Go.Proofs.YtepacoacalhdcaaGreat
open Go.RowKit
set_option linter.unusedVariables false
set_option linter.unusedSimpArgs false

theorem szWindow_lt (n1 c1 n2 c2 : Nat) (A1 A2 : Option Addr) (left : Int) (w : World) (hl0 : 0 ≤ left) (hl9 : left ≤ 1048576) (h1 : n1 ≤ 9223372036854775807) (h2 : n2 ≤ 9223372036854775807) :
    Calls Tryz.prog 16 #[.agg #[.slice A1 n1 c1, .slice A2 n2 c2], .int .i64 left] w (fun e w' => ∃ r : Int, e = .returned (.int .i64 r) ∧ (r < 0 ∨ 0 ≤ r ∧ r ≤ left ∧ n1 ≤ 1048576 ∧ n2 ≤ 1048576) ∧ Below w.heap.size w w') := by
  have HZ := Lib.hid (fun w => szNodeS_any n1 c1 A1 left w (by omega) (by omega) h1)
  have H0 := Lib.hid ((Held.none_ w).new2 w.heap.size rfl [.slice A1 n1 c1, .slice A2 n2 c2] 25)
  by_cases hb : left < n1
  · rw [if_pos hb] at HZ
    go_enter Tryz.func16, Tryz.ntmps16
    go_wp2_with fail
    refine (HZ.out _).mono ?_
    rintro e w1 ⟨rfl, rfl⟩
    go_wp2_with fail
    go_ret
    exact ⟨-1, rfl, by omega, H0.out.below⟩
  rw [if_neg hb] at HZ
  have HY := Lib.hid (fun w => szLeadS_any n2 c2 A2 (left - n1) w (by omega) (by omega) h2)
  by_cases hb2 : left - n1 < n2
  · rw [if_pos hb2] at HY
    go_enter Tryz.func16, Tryz.ntmps16
    go_wp2_with fail
    refine (HZ.out _).mono ?_
    rintro e w1 ⟨rfl, rfl⟩
    go_wp2_with fail
    refine (HY.out _).mono ?_
    rintro e w1 ⟨rfl, rfl⟩
    go_wp2_with fail
    go_ret
    exact ⟨-1, rfl, by omega, H0.out.below⟩
  · rw [if_neg hb2] at HY
    go_enter Tryz.func16, Tryz.ntmps16
    go_wp2_with fail
    refine (HZ.out _).mono ?_
    rintro e w1 ⟨rfl, rfl⟩
    go_wp2_with fail
    refine (HY.out _).mono ?_
    rintro e w1 ⟨rfl, rfl⟩
    go_wp2_with fail
    go_ret
    exact ⟨_, rfl, by omega, H0.out.below⟩
end Go.Proofs.YtepacoacalhdcaaGreat
