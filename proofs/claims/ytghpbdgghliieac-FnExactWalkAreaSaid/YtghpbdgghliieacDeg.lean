/-
  DegreeOf, of the model and of the program.
-/
import Derived.Test.YtghpbdgghliieacLAt
namespace Go.Proofs.Ytghpbdgghliieac
open Go.RowKit
set_option linter.unusedVariables false
set_option linter.unusedSimpArgs false

def degI (ns ls : List Nd) (k : Int) : Int := if hasB ns ls k = true then ((atsI ns ls k).length : Int) else -1

end Go.Proofs.Ytghpbdgghliieac
