/-
  Sheets of glass, of the model and of the program: valid ones, fitting, cuts, pieces.
-/
import Derived.Test.YtfppnaknnijobaaNode
import Derived.Test.YtfppnaknnijobaaHeld
import Derived.Test.YtfppnaknnijobaaNodeB
import Derived.Test.YtfppnaknnijobaaDet
import Derived.BigGuardPart
import Derived.Deep.QuietTactic
import Derived.BigQuiet
import Derived.Deep.Draws
namespace Go.Proofs.Ytfppnaknnijobaa
open Go.RowKit
set_option linter.unusedVariables false
set_option linter.unusedSimpArgs false

theorem specInB (x a b : Int) (w : World) :
    Calls Try.prog 54 #[.int .i64 x, .int .i64 a, .int .i64 b] w (BoolIs (inB x a b) w) :=
  (specIn x a b w).mono fun e w' h => ⟨h.1, h.2 ▸ Below.refl _ _⟩

def PairIs (n : Nd) (w : World) (e : Ending) (w' : World) : Prop := e = .returned n.val ∧ Below w.heap.size w w'

def shB (s : Nd) : Bool := inB s.x 1 40 && inB s.y 1 40
theorem shB_iff (s : Nd) : shB s = true ↔ (1 ≤ s.x ∧ s.x ≤ 40) ∧ (1 ≤ s.y ∧ s.y ≤ 40) := by simp [shB, inB]

end Go.Proofs.Ytfppnaknnijobaa
