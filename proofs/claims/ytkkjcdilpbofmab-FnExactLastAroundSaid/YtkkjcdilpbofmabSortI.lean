/-
  slices.Sort and slices.Contains at []int, by the library's contracts.
-/
import Derived.Test.YtkkjcdilpbofmabShelf
import Derived.Test.YtkkjcdilpbofmabAro
namespace Go.Proofs.Ytkkjcdilpbofmab
open Go.RowKit
set_option linter.unusedVariables false
set_option linter.unusedSimpArgs false

theorem Ints.block {w : World} {B g c : Nat} {xs : List Int} (h : Ints w B (.slice (some ⟨g, 0, none⟩) xs.length c) xs) : ∃ cur, B ≤ g ∧ w.heap[g]? = some (.cells cur 3 (0, 0)) ∧ xs.length ≤ c ∧ c ≤ maxLen ∧ cur.size = c ∧ cur.toList.take xs.length = xs.map fun x => .int .i64 x := by
  rcases h.2 with ⟨hv, _⟩ | ⟨g', cap, cur, hv, hb, hg, hc, hm, hs, ht⟩
  · cases hv
  · injection hv with e1 e2 e3
    injection e1 with e1
    injection e1 with e1
    subst e1; subst e3
    exact ⟨cur, hb, hg, hc, hm, by simpa using hs, by simpa using ht⟩
theorem heap_putRow {w : World} {g : Nat} {cur : Array Value} {T : TypeId} {fr : Nat × Nat} (d : Array Int) (h : w.heap[g]? = some (.cells cur T fr)) : (Go.Sort.putRow (Value.int .i64) w g 0 d).heap[g]? = some (.cells (Go.Sort.putCells (Value.int .i64) 0 d cur) T fr) := by
  unfold Go.Sort.putRow Go.Sort.mapBlock
  rw [Array.getElem?_modify, if_pos rfl, h]
  rfl
theorem heap_putRow_ne {w : World} {g k : Nat} (d : Array Int) (h : k ≠ g) : (Go.Sort.putRow (Value.int .i64) w g 0 d).heap[k]? = w.heap[k]? := by
  unfold Go.Sort.putRow Go.Sort.mapBlock
  rw [Array.getElem?_modify, if_neg (fun e => h e.symm)]
theorem size_putRow (w : World) (g : Nat) (d : Array Int) : (Go.Sort.putRow (Value.int .i64) w g 0 d).heap.size = w.heap.size := by
  unfold Go.Sort.putRow Go.Sort.mapBlock
  simp

set_option maxRecDepth 100000 in
theorem sortInts {w : World} {B g c : Nat} {xs : List Int} (h : Ints w B (.slice (some ⟨g, 0, none⟩) xs.length c) xs) (hB : B ≤ w.heap.size) (hlen : xs.length ≤ 1048576) :
    Calls Try.prog 117 #[.slice (some ⟨g, 0, none⟩) xs.length c] w fun e w' => e = .returned (.tuple #[]) ∧ Ints w' B (.slice (some ⟨g, 0, none⟩) xs.length c) (xs.mergeSort fun x y => decide (x ≤ y)) ∧ Below B w w' := by
  obtain ⟨cur, hb, hg, hc, hm, hs, ht⟩ := h.block
  have hH : Go.Sort.Holds (Value.int .i64) w g 0 xs.toArray := fun j hj => by
    have hj' : j < xs.length := by simpa using hj
    obtain ⟨h1, h2, _⟩ := h.at_ hj'
    rw [Nat.zero_add]
    refine ⟨?_, h2⟩
    rw [h1, ← atZ_get hj']
    simp [hj']
  refine (Any.slices_Sort_int Try.lays189 g 0 c xs w hH (lt_of_block hg) (by omega)).mono ?_
  rintro e w' ⟨rfl, n, os, rfl⟩
  have hl : (xs.mergeSort fun x y => decide (x ≤ y)).length = xs.length := List.length_mergeSort _
  refine ⟨rfl, ?_, ?_⟩
  · have hblk : (Go.Sort.grow (Go.Sort.putRow (Value.int .i64) (Go.Sort.ahead w n) g 0 (xs.mergeSort fun x y => decide (x ≤ y)).toArray) os).heap[g]? = some (.cells (Go.Sort.putCells (Value.int .i64) 0 (xs.mergeSort fun x y => decide (x ≤ y)).toArray cur) 3 (0, 0)) := by
      unfold Go.Sort.grow
      show (_ ++ os)[g]? = _
      rw [Array.getElem?_append_left (by rw [size_putRow]; exact lt_of_block hg)]
      exact heap_putRow _ hg
    unfold Ints
    rw [hl]
    refine ⟨by simp [hl], .inr ⟨g, c, _, rfl, hb, hblk, hc, hm, by simp [Go.Sort.putCells, hs], ?_⟩⟩
    rw [Nat.mul_one]
    generalize (xs.mergeSort fun x y => decide (x ≤ y)) = ys at *
    apply List.ext_getElem?
    intro j
    by_cases hj : j < xs.length
    · have hjc : j < cur.size := by omega
      simp [Go.Sort.putCells, List.getElem?_take, hj, hl, hjc]
    · rw [List.getElem?_eq_none (by simp; omega), List.getElem?_eq_none (by simp; omega)]
  · refine ⟨rfl, rfl, rfl, by simp [size_putRow, Go.Sort.ahead], fun k hk => ?_⟩
    unfold Go.Sort.grow
    show (_ ++ os)[k]? = _
    rw [Array.getElem?_append_left (by rw [size_putRow]; show k < w.heap.size; omega)]
    exact heap_putRow_ne _ (by omega)
theorem containsI {w : World} {B g c : Nat} {xs : List Int} (x : Int) (h : Ints w B (.slice (some ⟨g, 0, none⟩) xs.length c) xs) (hlen : xs.length ≤ 1048576) :
    Calls Try.prog 116 #[.slice (some ⟨g, 0, none⟩) xs.length c, .int .i64 x] w fun e w' => e = .returned (.bool (xs.contains x)) ∧ w' = w := by
  have := Any.slices_Contains_int Try.lays107 g 0 xs.length c xs x w (Nat.le_refl _) (by omega) (fun j hj => by
    rw [Nat.zero_add, (h.at_ hj).1]; rfl)
  rwa [List.take_length] at this
end Go.Proofs.Ytkkjcdilpbofmab
