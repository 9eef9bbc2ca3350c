/-
  What the model's WindowOk returns.
-/
import Derived.Test.YtfppnaknnijobabLeadX
import Derived.Test.YtfppnaknnijobabWinP
import Derived.LoopTactic
import Derived.Outline
import Derived.Deep.QuietTactic
import Derived.BigQuiet
namespace Go.Proofs.Ytfppnaknnijobab
open Go.RowKit
set_option linter.unusedVariables false
set_option linter.unusedSimpArgs false

/-- A boxed window. -/
def BW (w : World) (vn vl : Value) : List (Nat × Nat × Value) := [(w.heap.size, 0, vn), (w.heap.size, 1, vl)]
theorem heldW (w : World) (vn vl : Value) (T : TypeId) : Held w (w.alloc (.cells #[vn, vl] T)) (BW w vn vl) := (Held.none_ w).new2 w.heap.size rfl [vn, vl] T

theorem held_more {w W : World} {fs gs : List (Nat × Nat × Value)} (h : Held w W fs) (hc : Cs W gs) (hb : Bs W.heap.size gs) : Held w W (fs ++ gs) :=
  ⟨h.1.append hc, h.2.1.append hb, h.2.2⟩

end Go.Proofs.Ytfppnaknnijobab
