/-
  What impl.Clamp and spec.Clamp return, for every three integers: the same number.
-/
import Derived.Test.YtejjeihikmipdaaBase
namespace Go.Proofs.Ytejjeihikmipdaa
set_option linter.unusedVariables false
set_option linter.unusedSimpArgs false
open Go.RowKit

def clampI (n a b : Int) : Int := if n < a ∨ b < a then a else if b < n then b else n

theorem implClamp (n a b : Int) (w : World) :
    Calls Try.prog 10 #[.int .i64 n, .int .i64 a, .int .i64 b] w fun e w' => e = .returned (.int .i64 (clampI n a b)) ∧ w = w' := by
  by_cases h1 : n < a
  · go_enter Try.func10, Try.ntmps10
    go_wp2
    go_ret
    exact ⟨ret_int (by unfold clampI; repeat (first | rw [if_pos (by omega)] | rw [if_neg (by omega)])), rfl⟩
  · by_cases h2 : b < a
    · go_enter Try.func10, Try.ntmps10
      go_wp2
      go_ret
      exact ⟨ret_int (by unfold clampI; repeat (first | rw [if_pos (by omega)] | rw [if_neg (by omega)])), rfl⟩
    · by_cases h3 : b < n
      all_goals
        go_enter Try.func10, Try.ntmps10
        go_wp2
        go_ret
        exact ⟨ret_int (by unfold clampI; repeat (first | rw [if_pos (by omega)] | rw [if_neg (by omega)])), rfl⟩

theorem specClamp (n a b : Int) (w : World) :
    Calls Try.prog 20 #[.int .i64 n, .int .i64 a, .int .i64 b] w fun e w' => e = .returned (.int .i64 (clampI n a b)) ∧ w = w' := by
  by_cases h2 : b < a
  · go_enter Try.func20, Try.ntmps20
    go_wp2
    go_ret
    exact ⟨ret_int (by unfold clampI; repeat (first | rw [if_pos (by omega)] | rw [if_neg (by omega)])), rfl⟩
  · by_cases h1 : n < a
    · go_enter Try.func20, Try.ntmps20
      go_wp2
      go_ret
      exact ⟨ret_int (by unfold clampI; repeat (first | rw [if_pos (by omega)] | rw [if_neg (by omega)])), rfl⟩
    · by_cases h3 : b < n
      all_goals
        go_enter Try.func20, Try.ntmps20
        go_wp2
        go_ret
        exact ⟨ret_int (by unfold clampI; repeat (first | rw [if_pos (by omega)] | rw [if_neg (by omega)])), rfl⟩
end Go.Proofs.Ytejjeihikmipdaa
