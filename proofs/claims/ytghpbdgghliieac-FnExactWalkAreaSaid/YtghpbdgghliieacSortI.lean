/-
  slices.Sort and slices.Contains at []int, by the library's contracts.
-/
import Derived.Test.YtghpbdgghliieacShelf
import Derived.Sort.Row
import Derived.Test.YtghpbdgghliieacAro
namespace Go.Proofs.Ytghpbdgghliieac
open Go.RowKit
set_option linter.unusedVariables false
set_option linter.unusedSimpArgs false

theorem Ints.block {w : World} {B g c : Nat} {xs : List Int} (h : Ints w B (.slice (some ⟨g, 0, none⟩) xs.length c) xs) : ∃ cur, B ≤ g ∧ w.heap[g]? = some (.cells cur 3 (0, 0)) ∧ xs.length ≤ c ∧ c ≤ maxLen ∧ cur.size = c ∧ cur.toList.take xs.length = xs.map fun x => .int .i64 x := by
  rcases h.2 with ⟨hv, _⟩ | ⟨g', cap, cur, hv, hb, hg, hc, hm, hs, ht⟩
  · cases hv
  · injection hv with e1 e2 e3
    injection e1 with e1
    injection e1 with e1
    subst e1; subst e3
    exact ⟨cur, hb, hg, hc, hm, by simpa using hs, by simpa using ht⟩
theorem heap_putRow {w : World} {g : Nat} {cur : Array Value} {T : TypeId} {fr : Nat × Nat} (d : Array Int) (h : w.heap[g]? = some (.cells cur T fr)) : (Go.Sort.putRow (Value.int .i64) w g 0 d).heap[g]? = some (.cells (Go.Sort.putCells (Value.int .i64) 0 d cur) T fr) := by
  unfold Go.Sort.putRow Go.Sort.mapBlock
  rw [Array.getElem?_modify, if_pos rfl, h]
  rfl
theorem heap_putRow_ne {w : World} {g k : Nat} (d : Array Int) (h : k ≠ g) : (Go.Sort.putRow (Value.int .i64) w g 0 d).heap[k]? = w.heap[k]? := by
  unfold Go.Sort.putRow Go.Sort.mapBlock
  rw [Array.getElem?_modify, if_neg (fun e => h e.symm)]
theorem size_putRow (w : World) (g : Nat) (d : Array Int) : (Go.Sort.putRow (Value.int .i64) w g 0 d).heap.size = w.heap.size := by
  unfold Go.Sort.putRow Go.Sort.mapBlock
  simp

theorem containsI {w : World} {B g c : Nat} {xs : List Int} (x : Int) (h : Ints w B (.slice (some ⟨g, 0, none⟩) xs.length c) xs) (hlen : xs.length ≤ 1048576) :
    Calls Try.prog 71 #[.slice (some ⟨g, 0, none⟩) xs.length c, .int .i64 x] w fun e w' => e = .returned (.bool (xs.contains x)) ∧ w' = w := by
  have := Any.slices_Contains_int Try.lays107 g 0 xs.length c xs x w (Nat.le_refl _) (by omega) (fun j hj => by
    rw [Nat.zero_add, (h.at_ hj).1]; rfl)
  rwa [List.take_length] at this
end Go.Proofs.Ytghpbdgghliieac
