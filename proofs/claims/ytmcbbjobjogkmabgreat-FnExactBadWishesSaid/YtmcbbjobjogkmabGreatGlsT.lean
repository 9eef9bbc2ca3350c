/-
  FaceAt, OuterFace, AreaOf, TotalArea, of the model.
-/
import Derived.Test.YtmcbbjobjogkmabGreatG15
import Derived.Test.YtmcbbjobjogkmabGreatWalkS
namespace Go.Proofs.YtmcbbjobjogkmabGreat
open Go.RowKit
set_option linter.unusedVariables false
set_option linter.unusedSimpArgs false

end Go.Proofs.YtmcbbjobjogkmabGreat
