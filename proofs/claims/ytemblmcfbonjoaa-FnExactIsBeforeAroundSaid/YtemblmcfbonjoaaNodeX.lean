/-
  One and two boxed nodes, kept while calls make memory.
-/
import Derived.Test.YtemblmcfbonjoaaNodeA
namespace Go.Proofs.Ytemblmcfbonjoaa
open Go.RowKit
set_option linter.unusedVariables false
set_option linter.unusedSimpArgs false

def Four (w : World) (a b : Nd) (W : World) : Prop :=
  (W.cell? ⟨w.heap.size, 0, none⟩ = some (.int .i64 a.x) ∧ W.cell? ⟨w.heap.size, 1, none⟩ = some (.int .i64 a.y)) ∧
  (W.cell? ⟨w.heap.size + 1, 0, none⟩ = some (.int .i64 b.x) ∧ W.cell? ⟨w.heap.size + 1, 1, none⟩ = some (.int .i64 b.y)) ∧ w.heap.size + 1 < W.heap.size ∧ Below w.heap.size w W
theorem Four.start (w : World) (a b : Nd) (T : TypeId) : Four w a b ((w.alloc (.cells #[.int .i64 a.x, .int .i64 a.y] T)).alloc (.cells #[.int .i64 b.x, .int .i64 b.y] T)) := by
  refine ⟨⟨?_, ?_⟩, ⟨?_, ?_⟩, by simp, below2 w _ _⟩ <;> go_simp
theorem Four.step {w W w1 : World} {a b : Nd} (h : Four w a b W) (hb : Below W.heap.size W w1) : Four w a b w1 := by
  obtain ⟨⟨a0, a1⟩, ⟨b0, b1⟩, hz, hw⟩ := h
  have e0 : w.heap.size < W.heap.size := by omega
  refine ⟨⟨(hb.cell (p := ⟨_, _, none⟩) e0).trans a0, (hb.cell (p := ⟨_, _, none⟩) e0).trans a1⟩, ⟨(hb.cell (p := ⟨_, _, none⟩) hz).trans b0, (hb.cell (p := ⟨_, _, none⟩) hz).trans b1⟩, ?_, hw.trans (hb.mono hw.size)⟩
  have := hb.size
  omega
theorem Four.drew {w W : World} {a b : Nd} (h : Four w a b W) : Four w a b W.drew := ⟨h.1, h.2.1, h.2.2.1, h.2.2.2.drew⟩

def Two (w : World) (a : Nd) (W : World) : Prop :=
  (W.cell? ⟨w.heap.size, 0, none⟩ = some (.int .i64 a.x) ∧ W.cell? ⟨w.heap.size, 1, none⟩ = some (.int .i64 a.y)) ∧ w.heap.size < W.heap.size ∧ Below w.heap.size w W
theorem Two.start (w : World) (a : Nd) (T : TypeId) : Two w a (w.alloc (.cells #[.int .i64 a.x, .int .i64 a.y] T)) := by
  refine ⟨⟨?_, ?_⟩, by simp, (Below.refl _ _).alloc (Nat.le_refl _) _⟩ <;> go_simp
theorem Two.step {w W w1 : World} {a : Nd} (h : Two w a W) (hb : Below W.heap.size W w1) : Two w a w1 := by
  obtain ⟨⟨a0, a1⟩, hz, hw⟩ := h
  refine ⟨⟨(hb.cell (p := ⟨_, _, none⟩) hz).trans a0, (hb.cell (p := ⟨_, _, none⟩) hz).trans a1⟩, ?_, hw.trans (hb.mono hw.size)⟩
  have := hb.size
  omega
theorem Two.drew {w W : World} {a : Nd} (h : Two w a W) : Two w a W.drew := ⟨h.1, h.2.1, h.2.2.drew⟩
end Go.Proofs.Ytemblmcfbonjoaa
