/-
  What the law on laid stains uses (as XMixL: not both in one seat): eqStain, a new struct of three ints.
-/
import Derived.Test.YtghpbdgghliieaaLay
namespace Go.Proofs.Ytghpbdgghliieaa
open Go.RowKit
set_option linter.unusedVariables false
set_option linter.unusedSimpArgs false

theorem eqStain_yes (n : Tr) (w : World) :
    Calls Try.prog 18 #[n.val, n.val] w (BoolIs true w) := by
  obtain ⟨x, y, z⟩ := n
  unfold Tr.val
  go_enter Try.func18, Try.ntmps18
  go_wp2_with fail
  go_ret
  exact ⟨rfl, below2 w _ _⟩
theorem Held.joined3 {w W0 W : World} {fs gs : List (Nat × Nat × Value)} {b : Nat} {x y z : Value} {T : TypeId} (h0 : Held w W0 gs) (h : Held W0 W fs) (hc : W.heap[b]? = some (.cells #[x, y, z] T (0, 0))) : Held w W ((b, 0, x) :: (b, 1, y) :: (b, 2, z) :: fs) :=
  ⟨⟨by rw [cell_of_cells hc]; rfl, by rw [cell_of_cells hc]; rfl, by rw [cell_of_cells hc]; rfl, h.1⟩, ⟨lt_of_block hc, lt_of_block hc, lt_of_block hc, h.2.1⟩, (h0.after h).2.2⟩
end Go.Proofs.Ytghpbdgghliieaa
