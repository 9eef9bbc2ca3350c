/-
  The laws' toNode; what the draws of nodes return.
-/
import Derived.Test.YtemblmcfbonjoaaNode
import Derived.Test.YtemblmcfbonjoaaDraw
namespace Go.Proofs.Ytemblmcfbonjoaa
open Go.RowKit
set_option linter.unusedVariables false
set_option linter.unusedSimpArgs false

def NodeIs (n : Nd) (w : World) (e : Ending) (w' : World) : Prop := e = .returned n.val ∧ Below w.heap.size w w'

theorem toNode_any (n : Nd) (w : World) :
    Calls Try.prog 40 #[n.val] w (NodeIs n w) := by
  obtain ⟨x, y⟩ := n
  unfold Nd.val
  go_enter Try.func40, Try.ntmps40
  go_wp2_with fail
  refine bodyPost_ret (v := .agg #[.int .i64 x, .int .i64 y]) (by simp [results, Try.results40, go_sem]) rfl ⟨rfl, below3 w _ _ _⟩

/-- A draw returns a valid node with coordinates below 13; the cursor at b goes on; of what lay there nothing else has turned. -/
def DrawnNd (T B b : Nat) (w : World) (e : Ending) (w' : World) : Prop :=
  ∃ n : Nd, (0 ≤ n.x ∧ n.x ≤ 12) ∧ (0 ≤ n.y ∧ n.y ≤ 12) ∧ e = .returned n.val ∧ Cur T B w' b ∧ Goes b w w'

theorem l02Node_any {B b : Nat} {w : World} (h : Cur 99 B w b) :
    Calls Try.prog 54 #[.pointer (some ⟨b, 0, none⟩)] w (DrawnNd 99 B b w) := by
  have hlt := h.lt
  have HC := Lib.hid (h.alloc (.cells #[.int .i64 0, .int .i64 0] 25)); clear h
  go_enter Try.func54, Try.ntmps54
  go_wp2_with fail
  refine (l01Below_any _ HC.out).mono ?_
  rintro e w1 ⟨x, ⟨hx0, hx1, _⟩, rfl, hc1, hs1⟩
  have hx2 := hx1 (by omega)
  clear hx1
  have HC1 := Lib.hid hc1; clear hc1
  have HS1 := Lib.hid hs1; clear hs1
  go_wp2_with fail
  refine (l01Below_any _ HC1.out).mono ?_
  rintro e w2 ⟨y, ⟨hy0, hy1, _⟩, rfl, hc2, hs2⟩
  have hy2 := hy1 (by omega)
  clear hy1
  have HC2 := Lib.hid hc2; clear hc2
  have HS2 := Lib.hid (HS1.out.trans hs2); clear hs2
  have hblk : w2.heap[w.heap.size]? = some (.cells #[.int .i64 0, .int .i64 0] 25 (0, 0)) := by
    rw [HS2.out.block _ (by omega)]; exact heap_alloc_new _ _
  have hc0 : w2.cell? ⟨w.heap.size, 0, none⟩ = some (.int .i64 0) := by rw [cell_of_cells hblk]; rfl
  have hc1 : w2.cell? ⟨w.heap.size, 1, none⟩ = some (.int .i64 0) := by rw [cell_of_cells hblk]; rfl
  have hf0 : w2.frozen? ⟨w.heap.size, 0, none⟩ = false := free_of_cells hblk
  have hf1 : w2.frozen? ⟨w.heap.size, 1, none⟩ = false := free_of_cells hblk
  have HBLK := Lib.hid hblk; clear hblk
  go_wp2_with fail
  have s0 := heap_setCell_self (k := 0) HBLK.out (.int .i64 x)
  have s1 := heap_setCell_self (k := 1) s0 (.int .i64 y)
  have r0 : (w2.setCell ⟨w.heap.size, 0, none⟩ (.int .i64 x)).cell? ⟨w.heap.size, 0, none⟩ = some (.int .i64 x) := by rw [cell_of_cells s0]; rfl
  have r1 : ((w2.setCell ⟨w.heap.size, 0, none⟩ (.int .i64 x)).setCell ⟨w.heap.size, 1, none⟩ (.int .i64 y)).cell? ⟨w.heap.size, 1, none⟩ = some (.int .i64 y) := by rw [cell_of_cells s1]; rfl
  refine bodyPost_ret (v := .agg #[.int .i64 x, .int .i64 y]) (by simp [results, Try.results54, go_sem, r0, r1]) rfl ?_
  refine ⟨⟨x, y⟩, ⟨hx0, by show x ≤ 12; omega⟩, ⟨hy0, by show y ≤ 12; omega⟩, rfl, HC2.out.keep fun k hk => ?_, ?_⟩
  · have hB := HC2.out.base
    rw [Below.heap_setCell _ _ _ _ (by show k ≠ w.heap.size; omega), Below.heap_setCell _ _ _ _ (by show k ≠ w.heap.size; omega)]
  · exact ((((Goes.refl _ _).alloc _).steps HS2.out).setCell (.inl (Nat.le_refl _)) _).setCell (.inl (Nat.le_refl _)) _
end Go.Proofs.Ytemblmcfbonjoaa
