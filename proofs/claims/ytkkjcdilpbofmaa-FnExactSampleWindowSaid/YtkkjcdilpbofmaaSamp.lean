/-
  SampleWindow, of the model and of the program.
-/
import Derived.Test.YtkkjcdilpbofmaaMarkO
namespace Go.Proofs.Ytkkjcdilpbofmaa
open Go.RowKit
set_option linter.unusedVariables false
set_option linter.unusedSimpArgs false

def sampN : List Nd := [⟨0, 0⟩, ⟨8, 0⟩, ⟨8, 8⟩, ⟨0, 8⟩, ⟨4, 4⟩]
def sampL : List Nd := [⟨0, 1⟩, ⟨1, 2⟩, ⟨2, 3⟩, ⟨0, 3⟩, ⟨0, 4⟩, ⟨1, 4⟩, ⟨2, 4⟩, ⟨3, 4⟩]
def SampIs (w : World) (e : Ending) (w' : World) : Prop := ∃ v1 v2, e = .returned (.agg #[v1, v2]) ∧ WinO w' w.heap.size v1 v2 sampN sampL ∧ Below w.heap.size w w'

set_option maxRecDepth 100000 in
theorem implSamp (w : World) : Calls Try.prog 45 #[] w (SampIs w) := by
  have hb := blk3 w (.cells #[.slice (some ⟨w.heap.size + 1, 0, none⟩) 5 5, .slice (some ⟨w.heap.size + 1 + 1, 0, none⟩) 8 8] 38) (.cells (cellsP sampN).toArray 65) (.cells (cellsP sampL).toArray 57)
  have HB := Lib.hid hb; clear hb
  go_enter Try.func45, Try.ntmps45
  go_wp2_with fail
  have y0 := (cell_of_cells (k := 0) HB.out.1).trans (rfl : _ = some (Value.slice (some ⟨w.heap.size + 1, 0, none⟩) 5 5))
  have y1 := (cell_of_cells (k := 1) HB.out.1).trans (rfl : _ = some (Value.slice (some ⟨w.heap.size + 1 + 1, 0, none⟩) 8 8))
  unfold sampN sampL at y0 y1
  simp only [cellsP] at y0 y1
  refine bodyPost_ret (v := .agg #[.slice (some ⟨w.heap.size + 1, 0, none⟩) 5 5, .slice (some ⟨w.heap.size + 1 + 1, 0, none⟩) 8 8]) (by simp [results, Try.results45, go_sem, y0, y1]) rfl ?_
  refine ⟨_, _, rfl, ⟨⟨cellsP_len _, .inr ⟨w.heap.size + 1, 5, _, rfl, by omega, HB.out.2.1, Nat.le_refl _, by unfold maxLen; omega, rfl, rfl⟩⟩, ⟨cellsP_len _, .inr ⟨w.heap.size + 1 + 1, 8, _, rfl, by omega, HB.out.2.2, Nat.le_refl _, by unfold maxLen; omega, rfl, rfl⟩⟩⟩, below3 w _ _ _⟩

set_option maxRecDepth 100000 in
theorem specSamp (w : World) : Calls Try.prog 44 #[] w (SampIs w) := by
  have hb := blk3 w (.cells #[.slice (some ⟨w.heap.size + 1, 0, none⟩) 5 5, .slice (some ⟨w.heap.size + 1 + 1, 0, none⟩) 8 8] 38) (.cells (cellsP sampN).toArray 65) (.cells (cellsP sampL).toArray 57)
  have HB := Lib.hid hb; clear hb
  go_enter Try.func44, Try.ntmps44
  go_wp2_with fail
  have y0 := (cell_of_cells (k := 0) HB.out.1).trans (rfl : _ = some (Value.slice (some ⟨w.heap.size + 1, 0, none⟩) 5 5))
  have y1 := (cell_of_cells (k := 1) HB.out.1).trans (rfl : _ = some (Value.slice (some ⟨w.heap.size + 1 + 1, 0, none⟩) 8 8))
  unfold sampN sampL at y0 y1
  simp only [cellsP] at y0 y1
  refine bodyPost_ret (v := .agg #[.slice (some ⟨w.heap.size + 1, 0, none⟩) 5 5, .slice (some ⟨w.heap.size + 1 + 1, 0, none⟩) 8 8]) (by simp [results, Try.results44, go_sem, y0, y1]) rfl ?_
  refine ⟨_, _, rfl, ⟨⟨cellsP_len _, .inr ⟨w.heap.size + 1, 5, _, rfl, by omega, HB.out.2.1, Nat.le_refl _, by unfold maxLen; omega, rfl, rfl⟩⟩, ⟨cellsP_len _, .inr ⟨w.heap.size + 1 + 1, 8, _, rfl, by omega, HB.out.2.2, Nat.le_refl _, by unfold maxLen; omega, rfl, rfl⟩⟩⟩, below3 w _ _ _⟩

end Go.Proofs.Ytkkjcdilpbofmaa
