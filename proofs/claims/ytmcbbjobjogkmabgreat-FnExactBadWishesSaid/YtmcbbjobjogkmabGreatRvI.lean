/-
  slices.Reverse at []int, by the library's contract.
-/
import Derived.Test.YtmcbbjobjogkmabGreatShelf2
import Derived.Test.YtmcbbjobjogkmabGreatG3
namespace Go.Proofs.YtmcbbjobjogkmabGreat
open Go.RowKit
set_option linter.unusedVariables false
set_option linter.unusedSimpArgs false

set_option maxRecDepth 100000 in
theorem reverseInts {w : World} {B g c : Nat} {xs : List Int} (h : Ints w B (.slice (some ⟨g, 0, none⟩) xs.length c) xs) (hB : B ≤ w.heap.size) (hlen : xs.length ≤ 1048576) :
    Calls Tryz.prog 48 #[.slice (some ⟨g, 0, none⟩) xs.length c] w fun e w' => e = .returned (.tuple #[]) ∧ Ints w' B (.slice (some ⟨g, 0, none⟩) xs.length c) xs.reverse ∧ Below B w w' := by
  obtain ⟨cur, hb, hg, hc, hm, hs, ht⟩ := h.block
  have hH : Go.Sort.Holds (Value.int .i64) w g 0 xs.toArray := fun j hj => by
    have hj' : j < xs.length := by simpa using hj
    obtain ⟨h1, h2, _⟩ := h.at_ hj'
    rw [Nat.zero_add]
    refine ⟨?_, h2⟩
    rw [h1, ← atZ_get hj']
    simp [hj']
  refine (Any.slices_Reverse_int Tryz.lays112 g 0 c xs w hH (by omega)).mono ?_
  rintro e w' ⟨rfl, n, rfl⟩
  have hl : xs.reverse.length = xs.length := List.length_reverse
  refine ⟨rfl, ?_, ?_⟩
  · have hblk : (Go.Sort.putRow (Value.int .i64) (Go.Sort.ahead w n) g 0 xs.reverse.toArray).heap[g]? = some (.cells (Go.Sort.putCells (Value.int .i64) 0 xs.reverse.toArray cur) 3 (0, 0)) := heap_putRow _ hg
    unfold Ints
    rw [hl]
    refine ⟨by simp [hl], .inr ⟨g, c, _, rfl, hb, hblk, hc, hm, by simp [Go.Sort.putCells, hs], ?_⟩⟩
    rw [Nat.mul_one]
    generalize xs.reverse = ys at *
    apply List.ext_getElem?
    intro j
    by_cases hj : j < xs.length
    · have hjc : j < cur.size := by omega
      simp [Go.Sort.putCells, List.getElem?_take, hj, hl, hjc]
    · rw [List.getElem?_eq_none (by simp; omega), List.getElem?_eq_none (by simp; omega)]
  · refine ⟨rfl, rfl, rfl, by simp [size_putRow, Go.Sort.ahead], fun k hk => ?_⟩
    exact heap_putRow_ne _ (by omega)
end Go.Proofs.YtmcbbjobjogkmabGreat
