/-
  TwinOf and CountWishes, of the model and of the program.
-/
import Derived.Test.YtghpbdgghliieacSeq
import Derived.Test.YtghpbdgghliieacLead
import Derived.Test.YtghpbdgghliieacImplLead
namespace Go.Proofs.Ytghpbdgghliieac
open Go.RowKit
set_option linter.unusedVariables false
set_option linter.unusedSimpArgs false

def twinI (d : Int) : Int := if inB d 0 39 = true then bits .xor .i64 d 1 else -1
theorem implTwin (d : Int) (w : World) : Calls Try.prog 94 #[.int .i64 d] w (IntIs (twinI d) w) := by
  have hr : twinI d = if 0 ≤ d ∧ d ≤ 39 then bits .xor .i64 d 1 else -1 := by
    unfold twinI
    by_cases h : 0 ≤ d ∧ d ≤ 39
    · rw [if_pos h, if_pos (by simp [inB]; exact h)]
    · rw [if_neg h, if_neg (by simp [inB]; omega)]
  generalize twinI d = r at *
  have HR := Lib.hid hr; clear hr
  go_enter Try.func94, Try.ntmps94
  by_cases h0 : d < 0
  · go_wp2
    go_ret
    exact ⟨ret_int (by rw [HR.out, if_neg (by omega)]), Below.refl _ _⟩
  · by_cases h1 : 39 < d
    · go_wp2
      go_ret
      exact ⟨ret_int (by rw [HR.out, if_neg (by omega)]), Below.refl _ _⟩
    · go_wp2
      go_ret
      exact ⟨ret_int (by rw [HR.out, if_pos (by omega)]), Below.refl _ _⟩

/-- How many of the first n are not -1. -/
def cntW (xs : List Int) : Nat → Nat
  | 0 => 0
  | n + 1 => if atZ xs n = -1 then cntW xs n else cntW xs n + 1
theorem cntW_le (xs : List Int) : ∀ n, cntW xs n ≤ n
  | 0 => Nat.le_refl _
  | n + 1 => by
    have := cntW_le xs n
    unfold cntW
    split <;> omega

end Go.Proofs.Ytghpbdgghliieac
