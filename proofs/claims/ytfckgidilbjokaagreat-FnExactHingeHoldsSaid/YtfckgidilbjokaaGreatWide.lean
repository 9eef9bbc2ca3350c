/-
  WidestPane, of the program and of the model.
-/
import Derived.Test.YtfckgidilbjokaaGreatPaneS
namespace Go.Proofs.YtfckgidilbjokaaGreat
open Go.RowKit
set_option linter.unusedVariables false
set_option linter.unusedSimpArgs false

end Go.Proofs.YtfckgidilbjokaaGreat
