/-
  The laws' helpers that mark: markNodeS, markLeadS, markWindow.
-/
import Derived.Test.YtfppnaknnijobabLawW
namespace Go.Proofs.Ytfppnaknnijobab
open Go.RowKit
set_option linter.unusedVariables false
set_option linter.unusedSimpArgs false

/-- n pairs of ints. -/
def PairsIn (C : Array Value) (n : Nat) : Prop := C.size = n * 2 ∧ ∀ j, j < n → ∃ p q : Int, C[j * 2]? = some (.int .i64 p) ∧ C[j * 2 + 1]? = some (.int .i64 q)
theorem PairsIn.set_ {C : Array Value} {n k : Nat} (h : PairsIn C n) (hk : k < n) (a b : Int) : PairsIn ((C.setIfInBounds (k * 2) (.int .i64 a)).setIfInBounds (k * 2 + 1) (.int .i64 b)) n := by
  obtain ⟨hs, ha⟩ := h
  refine ⟨by simpa using hs, fun j hj => ?_⟩
  by_cases hjk : j = k
  · subst hjk
    refine ⟨a, b, ?_, ?_⟩
    · rw [Array.getElem?_setIfInBounds_ne (by omega), Array.getElem?_setIfInBounds_self_of_lt (by omega)]
    · rw [Array.getElem?_setIfInBounds_self_of_lt (by simp; omega)]
  · obtain ⟨p, q, h1, h2⟩ := ha j hj
    refine ⟨p, q, ?_, ?_⟩
    · rw [Array.getElem?_setIfInBounds_ne (by omega), Array.getElem?_setIfInBounds_ne (by omega)]; exact h1
    · rw [Array.getElem?_setIfInBounds_ne (by omega), Array.getElem?_setIfInBounds_ne (by omega)]; exact h2
theorem grown_set {w wr : World} {g j : Nat} {x : Value} (a : w.grownBy wr (some g)) : w.grownBy (wr.setCell ⟨g, j, none⟩ x) (some g) := by
  refine ⟨a.os, a.tape, a.output, ?_, fun i hi hne => ?_⟩
  · rw [heap_setCell_size]; exact a.size
  · rw [Below.heap_setCell _ _ _ _ (fun e => hne (by rw [e])), a.block i hi hne]

/-- An int is returned; at most one block has turned: the slice's own. -/
def Marked (v : Value) (B m : Nat) (xs : List Nd) (w : World) (e : Ending) (w' : World) : Prop :=
  e = .returned (.int .i64 (m : Int)) ∧ ∃ row, w.grownBy w' row ∧ ∀ g, row = some g → B ≤ g ∧ g < w.heap.size ∧ 0 < xs.length ∧ ∃ c, v = .slice (some ⟨g, 0, none⟩) xs.length c

end Go.Proofs.Ytfppnaknnijobab
