/-
  LeadsAt and DegreeOf, of the model and of the program.
-/
import Derived.Test.YtghpbdgghliieacWinS
import Derived.Test.YtghpbdgghliieacWinJ
import Derived.Test.YtghpbdgghliieacInts
namespace Go.Proofs.Ytghpbdgghliieac
open Go.RowKit
set_option linter.unusedVariables false
set_option linter.unusedSimpArgs false

theorem fieldD (a b : Value) (w : World) : (Instr.field 78 (.agg #[a, b]) 0).run Try.prog w = .ok a w := by kernel_rfl

end Go.Proofs.Ytghpbdgghliieac
