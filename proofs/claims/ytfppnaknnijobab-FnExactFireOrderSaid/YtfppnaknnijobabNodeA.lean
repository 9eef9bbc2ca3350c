/-
  What the model's IsBeforeAround returns.
-/
import Derived.Test.YtfppnaknnijobabNode
import Derived.Deep.RegionHeld3
namespace Go.Proofs.Ytfppnaknnijobab
open Go.RowKit
set_option linter.unusedVariables false
set_option linter.unusedSimpArgs false

/-- Three boxed nodes in the blocks k, k + 1, k + 2; nothing that was there has turned. -/
def Six (w : World) (a b c : Nd) (W : World) : Prop :=
  (W.cell? ⟨w.heap.size, 0, none⟩ = some (.int .i64 a.x) ∧ W.cell? ⟨w.heap.size, 1, none⟩ = some (.int .i64 a.y)) ∧
  (W.cell? ⟨w.heap.size + 1, 0, none⟩ = some (.int .i64 b.x) ∧ W.cell? ⟨w.heap.size + 1, 1, none⟩ = some (.int .i64 b.y)) ∧
  (W.cell? ⟨w.heap.size + 1 + 1, 0, none⟩ = some (.int .i64 c.x) ∧ W.cell? ⟨w.heap.size + 1 + 1, 1, none⟩ = some (.int .i64 c.y)) ∧ w.heap.size + 1 + 1 < W.heap.size ∧ Below w.heap.size w W
theorem Six.start (w : World) (a b c : Nd) (T : TypeId) : Six w a b c (((w.alloc (.cells #[.int .i64 a.x, .int .i64 a.y] T)).alloc (.cells #[.int .i64 b.x, .int .i64 b.y] T)).alloc (.cells #[.int .i64 c.x, .int .i64 c.y] T)) := by
  refine ⟨⟨?_, ?_⟩, ⟨?_, ?_⟩, ⟨?_, ?_⟩, by simp, below3 w _ _ _⟩ <;> go_simp
theorem Six.step {w W w1 : World} {a b c : Nd} (h : Six w a b c W) (hb : Below W.heap.size W w1) : Six w a b c w1 := by
  obtain ⟨⟨a0, a1⟩, ⟨b0, b1⟩, ⟨c0, c1⟩, hz, hw⟩ := h
  have e0 : w.heap.size < W.heap.size := by omega
  have e1 : w.heap.size + 1 < W.heap.size := by omega
  refine ⟨⟨(hb.cell (p := ⟨_, _, none⟩) e0).trans a0, (hb.cell (p := ⟨_, _, none⟩) e0).trans a1⟩, ⟨(hb.cell (p := ⟨_, _, none⟩) e1).trans b0, (hb.cell (p := ⟨_, _, none⟩) e1).trans b1⟩, ⟨(hb.cell (p := ⟨_, _, none⟩) hz).trans c0, (hb.cell (p := ⟨_, _, none⟩) hz).trans c1⟩, ?_, hw.trans (hb.mono hw.size)⟩
  have := hb.size
  omega
theorem Six.drew {w W : World} {a b c : Nd} (h : Six w a b c W) : Six w a b c W.drew := ⟨h.1, h.2.1, h.2.2.1, h.2.2.2.1, h.2.2.2.2.drew⟩

end Go.Proofs.Ytfppnaknnijobab
