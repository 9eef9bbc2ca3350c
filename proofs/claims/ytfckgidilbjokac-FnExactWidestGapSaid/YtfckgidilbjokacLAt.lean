/-
  LeadsAt and DegreeOf, of the model and of the program.
-/
import Derived.Test.YtfckgidilbjokacWinS
import Derived.Test.YtfckgidilbjokacWinJ
import Derived.Test.YtfckgidilbjokacInts
namespace Go.Proofs.Ytfckgidilbjokac
open Go.RowKit
set_option linter.unusedVariables false
set_option linter.unusedSimpArgs false

theorem fieldD (a b : Value) (w : World) : (Instr.field 166 (.agg #[a, b]) 0).run Try.prog w = .ok a w := by kernel_rfl

end Go.Proofs.Ytfckgidilbjokac
