/-
  MixStains, of the model and of the program.
-/
import Derived.Test.YtfppnaknnijobabTri
import Derived.Test.YtfppnaknnijobabCopyP
namespace Go.Proofs.Ytfppnaknnijobab
open Go.RowKit
set_option linter.unusedVariables false
set_option linter.unusedSimpArgs false

def mix1 (p a b : Int) : Int := (p * a + (100 - p) * b) / 100
def mixOkB (s t : Tr) (p : Int) : Bool := stainB s && stainB t && inB p 0 100
def mixT (s t : Tr) (p : Int) : Tr := if mixOkB s t p = true then ⟨mix1 p s.x t.x, mix1 p s.y t.y, mix1 p s.z t.z⟩ else ⟨0, 0, 0⟩
def MixIs (m : Tr) (b : Bool) (w : World) (e : Ending) (w' : World) : Prop := e = .returned (.tuple #[m.val, .bool b]) ∧ Below w.heap.size w w'
theorem blk3m (w : World) (o0 o1 o2 : Obj) : (((w.alloc o0).alloc o1).alloc o2).heap[w.heap.size + 1 + 1]? = some o2 := by
  have h2 := heap_alloc_new ((w.alloc o0).alloc o1) o2
  have s2 : ((w.alloc o0).alloc o1).heap.size = w.heap.size + 1 + 1 := by simp
  rw [s2] at h2
  exact h2
theorem part_bd {p a : Int} (h1 : 0 ≤ p) (h2 : p ≤ 100) (h3 : 0 ≤ a) (h4 : a ≤ 1000) : 0 ≤ p * a ∧ p * a ≤ 100000 := by
  have x := Int.mul_nonneg h1 h3
  have y := Int.mul_le_mul h2 h4 h3 (by omega : (0 : Int) ≤ 100)
  omega
theorem stain_bd {s : Tr} (h : stainB s = true) : (0 ≤ s.x ∧ s.x ≤ 1000) ∧ (0 ≤ s.y ∧ s.y ≤ 1000) ∧ (0 ≤ s.z ∧ s.z ≤ 1000) := by
  unfold stainB triB at h
  simp only [Bool.and_eq_true, inB_iff] at h
  omega
theorem mix_ok {s t : Tr} {p : Int} (h1 : stainB s = true) (h2 : stainB t = true) (h3 : inB p 0 100 = true) : mixT s t p = ⟨mix1 p s.x t.x, mix1 p s.y t.y, mix1 p s.z t.z⟩ ∧ mixOkB s t p = true := by
  have : mixOkB s t p = true := by unfold mixOkB; rw [h1, h2, h3]; rfl
  exact ⟨if_pos this, this⟩
theorem mix_no {s t : Tr} {p : Int} (h : (stainB s && stainB t && inB p 0 100) = false) : mixT s t p = ⟨0, 0, 0⟩ ∧ mixOkB s t p = false := by
  have h2 : mixOkB s t p = false := h
  exact ⟨if_neg (by rw [h2]; simp), h2⟩
theorem put3 {W : World} {B : Nat} {T : TypeId} (K : W.heap[B]? = some (.cells #[.int .i64 0, .int .i64 0, .int .i64 0] T)) (x y z : Value) :
    (((W.setCell ⟨B, 0, none⟩ x).setCell ⟨B, 1, none⟩ y).setCell ⟨B, 2, none⟩ z).cell? ⟨B, 0, none⟩ = some x ∧ (((W.setCell ⟨B, 0, none⟩ x).setCell ⟨B, 1, none⟩ y).setCell ⟨B, 2, none⟩ z).cell? ⟨B, 1, none⟩ = some y ∧ (((W.setCell ⟨B, 0, none⟩ x).setCell ⟨B, 1, none⟩ y).setCell ⟨B, 2, none⟩ z).cell? ⟨B, 2, none⟩ = some z := by
  have m0 := heap_setCell_self (k := 0) K x
  have m1 := heap_setCell_self (k := 1) m0 y
  have m2 := heap_setCell_self (k := 2) m1 z
  exact ⟨(cell_of_cells (k := 0) m2).trans rfl, (cell_of_cells (k := 1) m2).trans rfl, (cell_of_cells (k := 2) m2).trans rfl⟩
/-- What the walk is told of one part: the two products, their sum, the quotient. -/
theorem mix_part {p a b : Int} (h1 : 0 ≤ p) (h2 : p ≤ 100) (h3 : 0 ≤ a ∧ a ≤ 1000) (h4 : 0 ≤ b ∧ b ≤ 1000) : IntKind.i64.wrap (p * a) = p * a ∧ IntKind.i64.wrap ((100 - p) * b) = (100 - p) * b ∧ IntKind.i64.wrap (p * a + (100 - p) * b) = p * a + (100 - p) * b ∧ 0 ≤ p * a + (100 - p) * b ∧ IntKind.i64.wrap (mix1 p a b) = mix1 p a b ∧ (p * a + (100 - p) * b) / 100 = mix1 p a b ∧ Int.tdiv (p * a + (100 - p) * b) 100 = mix1 p a b ∧ IntKind.i64.wrap (100 - p) = 100 - p := by
  have x := part_bd h1 h2 h3.1 h3.2
  have y := part_bd (show 0 ≤ 100 - p by omega) (by omega) h4.1 h4.2
  have z : Int.tdiv (p * a + (100 - p) * b) 100 = mix1 p a b := Int.tdiv_eq_ediv_of_nonneg (by omega)
  have u : 0 ≤ mix1 p a b ∧ mix1 p a b ≤ 2000 := by unfold mix1; omega
  exact ⟨IntWalk.i64_in _ (by omega), IntWalk.i64_in _ (by omega), IntWalk.i64_in _ (by omega), by omega, IntWalk.i64_in _ (by omega), rfl, z, IntWalk.i64_in _ (by omega)⟩

end Go.Proofs.Ytfppnaknnijobab
