/-
  PaneNodes, IsPane, PanesOf, of the model.
-/
import Derived.Test.YtfckgidilbjokaaGreatPaneI
import Derived.Test.YtfckgidilbjokaaGreatGlsV
namespace Go.Proofs.YtfckgidilbjokaaGreat
open Go.RowKit
set_option linter.unusedVariables false
set_option linter.unusedSimpArgs false

end Go.Proofs.YtfckgidilbjokaaGreat
