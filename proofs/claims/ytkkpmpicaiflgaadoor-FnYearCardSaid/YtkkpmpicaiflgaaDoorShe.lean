/-
  Sheets of glass, of the model and of the program: valid ones, fitting, cuts, pieces.
-/
import Derived.Test.YtkkpmpicaiflgaaDoorNode
import Derived.Test.YtkkpmpicaiflgaaDoorHeld
import Derived.Test.YtkkpmpicaiflgaaDoorNodeB
import Derived.Test.YtkkpmpicaiflgaaDoorDet
import Derived.BigGuardPart
import Derived.Deep.QuietTactic
import Derived.BigQuiet
import Derived.Deep.Draws
namespace Go.Proofs.YtkkpmpicaiflgaaDoor
open Go.RowKit
set_option linter.unusedVariables false
set_option linter.unusedSimpArgs false

def PairIs (n : Nd) (w : World) (e : Ending) (w' : World) : Prop := e = .returned n.val ∧ Below w.heap.size w w'

def shB (s : Nd) : Bool := inB s.x 1 40 && inB s.y 1 40
theorem shB_iff (s : Nd) : shB s = true ↔ (1 ≤ s.x ∧ s.x ≤ 40) ∧ (1 ≤ s.y ∧ s.y ≤ 40) := by simp [shB, inB]

end Go.Proofs.YtkkpmpicaiflgaaDoor
