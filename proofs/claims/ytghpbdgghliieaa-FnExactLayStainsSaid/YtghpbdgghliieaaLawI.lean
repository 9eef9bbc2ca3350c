/-
  What the laws' helpers eqIntS, markIntS, heldIntS return.
-/
import Derived.Test.YtghpbdgghliieaaInts
import Derived.LoopTactic
import Derived.Outline
import Derived.Deep.QuietTactic
import Derived.BigQuiet
import Derived.Deep.Draws
namespace Go.Proofs.Ytghpbdgghliieaa
open Go.RowKit
set_option linter.unusedVariables false
set_option linter.unusedSimpArgs false

/-- The n marks from k on. -/
def marksI (k n : Nat) : List Int := (List.range n).map fun i => ((k + i : Nat) : Int)
theorem marksI_length (k n : Nat) : (marksI k n).length = n := by simp [marksI]
theorem marksI_set (k0 k : Nat) (fs : List Int) (h : k < fs.length) : (marksI k0 k ++ fs.drop k).set k ((k0 + k : Nat) : Int) = marksI k0 (k + 1) ++ fs.drop (k + 1) := by
  rw [List.set_append_right _ _ (by rw [marksI_length]; exact Nat.le_refl _), marksI_length, Nat.sub_self, List.drop_eq_getElem_cons h, List.set_cons_zero]
  simp [marksI, List.range_succ]
theorem marksI_get (k0 n j : Nat) (h : j < n) : (marksI k0 n)[j]'(by rw [marksI_length]; exact h) = ((k0 + j : Nat) : Int) := by simp [marksI]

end Go.Proofs.Ytghpbdgghliieaa
