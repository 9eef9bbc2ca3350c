/-
  What the program's functions on nodes return.
-/
import Derived.Test.YtghpbdgghliieabDoorNode
import Derived.Test.YtghpbdgghliieabDoorHeld
import Derived.Test.YtghpbdgghliieabDoorNodeB
import Derived.Deep.RegionHeld3
import Derived.BigGuardPart
import Derived.LoopTactic
import Derived.Deep.QuietTactic
import Derived.BigQuiet
import Derived.Deep.Draws
namespace Go.Proofs.YtghpbdgghliieabDoor
open Go.RowKit
set_option linter.unusedVariables false
set_option linter.unusedSimpArgs false

theorem implOnBoard (n : Nd) (w : World) :
    Calls Tryd.prog 17 #[n.val] w (BoolIs (okB n) w) := by
  obtain ⟨x, y⟩ := n
  have hr : okB ⟨x, y⟩ = decide ((0 ≤ x ∧ x ≤ 20) ∧ (0 ≤ y ∧ y ≤ 20)) := by rw [Bool.eq_iff_iff, okB_iff]; simp
  unfold Nd.val
  generalize okB ⟨x, y⟩ = r at *
  have HR := Lib.hid hr; clear hr
  go_enter Tryd.func17, Tryd.ntmps17
  go_wp2
  all_goals
    go_ret
    exact ⟨ret_bool (by rw [HR.out, Bool.eq_iff_iff]; simp; omega), (Below.refl _ _).alloc (Nat.le_refl _) _⟩

end Go.Proofs.YtghpbdgghliieabDoor
