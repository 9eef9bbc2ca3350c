/-
  What the program's functions on nodes return.
-/
import Derived.Test.YtfppnaknnijobabNode
import Derived.Test.YtfppnaknnijobabHeld
import Derived.Test.YtfppnaknnijobabNodeB
import Derived.Deep.RegionHeld3
import Derived.BigGuardPart
import Derived.LoopTactic
import Derived.Deep.QuietTactic
import Derived.BigQuiet
import Derived.Deep.Draws
namespace Go.Proofs.Ytfppnaknnijobab
open Go.RowKit
set_option linter.unusedVariables false
set_option linter.unusedSimpArgs false

def WayIs (a b : Nd) (w : World) (e : Ending) (w' : World) : Prop := e = .returned (.tuple #[.int .i64 (b.x - a.x), .int .i64 (b.y - a.y)]) ∧ Below w.heap.size w w'
theorem implWay (a b : Nd) (w : World) (ha : okB a = true) (hb : okB b = true) :
    Calls Try.prog 115 #[a.val, b.val] w (WayIs a b w) := by
  obtain ⟨ax, ay⟩ := a
  obtain ⟨bx, by'⟩ := b
  rw [okB_iff] at ha hb
  obtain ⟨⟨a1, a2⟩, a3, a4⟩ := ha
  obtain ⟨⟨b1, b2⟩, b3, b4⟩ := hb
  simp only at a1 a2 a3 a4 b1 b2 b3 b4
  unfold Nd.val
  have e1 : IntKind.i64.wrap (bx - ax) = bx - ax := IntWalk.i64_in _ (by omega)
  have e2 : IntKind.i64.wrap (by' - ay) = by' - ay := IntWalk.i64_in _ (by omega)
  go_enter Try.func115, Try.ntmps115
  go_wp2_with fail
  go_quiet (fail)
  go_wp2_with fail
  go_ret2
  exact ⟨rfl, below_drewN (below2 w _ _) _⟩

end Go.Proofs.Ytfppnaknnijobab
