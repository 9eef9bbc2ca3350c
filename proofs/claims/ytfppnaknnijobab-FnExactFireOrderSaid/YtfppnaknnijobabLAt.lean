/-
  LeadsAt and DegreeOf, of the model and of the program.
-/
import Derived.Test.YtfppnaknnijobabWinS
import Derived.Test.YtfppnaknnijobabWinJ
import Derived.Test.YtfppnaknnijobabInts
namespace Go.Proofs.Ytfppnaknnijobab
open Go.RowKit
set_option linter.unusedVariables false
set_option linter.unusedSimpArgs false

end Go.Proofs.Ytfppnaknnijobab
