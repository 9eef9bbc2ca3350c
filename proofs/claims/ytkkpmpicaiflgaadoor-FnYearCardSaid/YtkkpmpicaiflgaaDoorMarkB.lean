/-
  Marks of ints of any length in view.
-/
import Derived.Test.YtkkpmpicaiflgaaDoorTurn
import Derived.Test.YtkkpmpicaiflgaaDoorSeq
namespace Go.Proofs.YtkkpmpicaiflgaaDoor
open Go.RowKit
set_option linter.unusedVariables false
set_option linter.unusedSimpArgs false

end Go.Proofs.YtkkpmpicaiflgaaDoor
