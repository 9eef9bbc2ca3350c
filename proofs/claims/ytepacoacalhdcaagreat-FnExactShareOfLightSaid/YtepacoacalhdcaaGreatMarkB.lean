/-
  Marks of ints of any length in view.
-/
import Derived.Test.YtepacoacalhdcaaGreatG1
import Derived.Test.YtepacoacalhdcaaGreatG2
namespace Go.Proofs.YtepacoacalhdcaaGreat
open Go.RowKit
set_option linter.unusedVariables false
set_option linter.unusedSimpArgs false

theorem markIntS_b {base : Nat} {w : World} {v : Value} {fs : List Int} (h : Ints w base v fs) (hl : fs.length ≤ 1048576) :
    Calls Tryz.prog 23 #[v, .int .i64 1] w fun e w' => e = .returned (.int .i64 ((1 + fs.length : Nat) : Int)) ∧ Ints w' base v (marksI 1 fs.length) ∧ w.grownBy w' v.ownBlock := by
  have := markIntS_any 1 h (by omega) (by omega)
  rw [show ((1 : Nat) : Int) = 1 from rfl] at this
  exact this

theorem heldIntS_b {base : Nat} {w : World} {v : Value} (n : Nat) (h : Ints w base v (marksI 1 n)) (hl : n ≤ 1048576) :
    Calls Tryz.prog 24 #[v, .int .i64 1] w fun e w' => e = .returned (.int .i64 ((1 + n : Nat) : Int)) ∧ ∃ m, w' = w.drewN m := by
  have := heldIntS_any 1 n h (by omega) (by omega)
  rw [show ((1 : Nat) : Int) = 1 from rfl] at this
  exact this
end Go.Proofs.YtepacoacalhdcaaGreat
