/-
  The laws' helpers on windows: toWindow, szWindow, eqWindow.
-/
import Derived.Test.YtfppnaknnijobabLawN
import Derived.Test.YtfppnaknnijobabDetW
namespace Go.Proofs.Ytfppnaknnijobab
open Go.RowKit
set_option linter.unusedVariables false
set_option linter.unusedSimpArgs false

theorem blk3 (w : World) (o0 o1 o2 : Obj) : (((w.alloc o0).alloc o1).alloc o2).heap[w.heap.size]? = some o0 ∧ (((w.alloc o0).alloc o1).alloc o2).heap[w.heap.size + 1]? = some o1 ∧ (((w.alloc o0).alloc o1).alloc o2).heap[w.heap.size + 1 + 1]? = some o2 := by
  have h0 := heap_alloc_new w o0
  have h1 := heap_alloc_new (w.alloc o0) o1
  have h2 := heap_alloc_new ((w.alloc o0).alloc o1) o2
  have s1 : (w.alloc o0).heap.size = w.heap.size + 1 := by simp
  have s2 : ((w.alloc o0).alloc o1).heap.size = w.heap.size + 1 + 1 := by simp
  rw [s1] at h1
  rw [s2] at h2
  refine ⟨?_, ?_, h2⟩
  · rw [Below.heap_alloc _ _ _ (by omega), Below.heap_alloc _ _ _ (by omega)]; exact h0
  · rw [Below.heap_alloc _ _ _ (by omega)]; exact h1

theorem Mine.keepAt {w w' : World} {B : Nat} {T : TypeId} {v : Value} {xs : List Nd} (h : Mine w B T v xs) (hk : ∀ g, B ≤ g → w'.heap[g]? = w.heap[g]?) : Mine w' B T v xs := by
  obtain ⟨A, c, n, rfl, hl, hc, hx⟩ := h
  refine ⟨A, c, n, rfl, hl, hc, fun h0 => ?_⟩
  obtain ⟨g, rfl, hB, hn, hh⟩ := hx h0
  exact ⟨g, rfl, hB, hn, hh.keep (hk g hB)⟩
theorem Mine.form {w : World} {B : Nat} {T : TypeId} {v : Value} {xs : List Nd} (h : Mine w B T v xs) : ∃ (A : Option Addr) (c : Nat), v = .slice A xs.length c := by
  obtain ⟨A, c, n, rfl, _⟩ := h
  exact ⟨A, c, rfl⟩

/-- A window of the call's own: its nodes in a block from the old heap's end on, its leads in a later one. -/
def WinIs (T U : TypeId) (ns ls : List Nd) (w : World) (e : Ending) (w' : World) : Prop :=
  ∃ (v1 v2 : Value) (B : Nat), e = .returned (.agg #[v1, v2]) ∧ Mine w' w.heap.size T v1 ns ∧ w.heap.size ≤ B ∧ (∀ g c n, v1 = .slice (some ⟨g, 0, none⟩) n c → 0 < n → g < B) ∧ Mine w' B U v2 ls ∧ Below w.heap.size w w'

/-- The value v reads as the window of ns and ls. -/
def WinAt (w : World) (v : Value) (ns ls : List Nd) : Prop := ∃ (A1 A2 : Option Addr) (c1 c2 : Nat), v = .agg #[.slice A1 ns.length c1, .slice A2 ls.length c2] ∧ Prs w (.slice A1 ns.length c1) ns ∧ Prs w (.slice A2 ls.length c2) ls
theorem WinAt.step {w w' : World} {v : Value} {ns ls : List Nd} (h : WinAt w v ns ls) (hb : Below w.heap.size w w') : WinAt w' v ns ls := by
  obtain ⟨A1, A2, c1, c2, rfl, h1, h2⟩ := h
  exact ⟨A1, A2, c1, c2, rfl, h1.step hb, h2.step hb⟩
theorem stable_win (v : Value) (ns ls : List Nd) : Stable fun W => WinAt W v ns ls := fun _ _ h hb => h.step hb
theorem WinAt.mk {w : World} {v1 v2 : Value} {ns ls : List Nd} (h1 : Prs w v1 ns) (h2 : Prs w v2 ls) : WinAt w (.agg #[v1, v2]) ns ls := by
  obtain ⟨A1, c1, rfl⟩ := prs_form2 h1
  obtain ⟨A2, c2, rfl⟩ := prs_form2 h2
  exact ⟨A1, A2, c1, c2, rfl, h1, h2⟩

end Go.Proofs.Ytfppnaknnijobab
