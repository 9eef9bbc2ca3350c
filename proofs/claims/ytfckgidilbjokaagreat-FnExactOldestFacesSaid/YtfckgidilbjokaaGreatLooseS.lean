/-
  IsLoose, LooseLeads, IsTight, of the model.
-/
import Derived.Test.YtfckgidilbjokaaGreatLoose
import Derived.Deep.QuietTactic
import Derived.BigQuiet
namespace Go.Proofs.YtfckgidilbjokaaGreat
open Go.RowKit
set_option linter.unusedVariables false
set_option linter.unusedSimpArgs false

end Go.Proofs.YtfckgidilbjokaaGreat
