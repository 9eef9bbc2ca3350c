/-
  PaneNodes, IsPane, PanesOf, of the program.
-/
import Derived.Test.YtfckgidilbjokaaGreatPane
namespace Go.Proofs.YtfckgidilbjokaaGreat
open Go.RowKit
set_option linter.unusedVariables false
set_option linter.unusedSimpArgs false

end Go.Proofs.YtfckgidilbjokaaGreat
