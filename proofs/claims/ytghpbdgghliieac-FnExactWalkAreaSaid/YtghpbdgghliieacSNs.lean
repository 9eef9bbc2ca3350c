/-
  StraightNodes, of the model and of the program.
-/
import Derived.Test.YtghpbdgghliieacStr
namespace Go.Proofs.Ytghpbdgghliieac
open Go.RowKit
set_option linter.unusedVariables false
set_option linter.unusedSimpArgs false

/-- The numbers before n at which p holds. -/
def fltL (p : Int → Bool) : Nat → List Int
  | 0 => []
  | n + 1 => if p n = true then fltL p n ++ [(n : Int)] else fltL p n
theorem fltL_len (p : Int → Bool) : ∀ n, (fltL p n).length ≤ n
  | 0 => Nat.le_refl _
  | n + 1 => by
    have := fltL_len p n
    unfold fltL
    split
    · simp; omega
    · omega
theorem fltL_none (p : Int → Bool) (h : ∀ k, p k = false) : ∀ n, fltL p n = []
  | 0 => rfl
  | n + 1 => by
    unfold fltL
    rw [h, fltL_none p h n]
    simp
theorem strB_has {ns ls : List Nd} {k : Int} (h : strB ns ls k = true) : hasB ns ls k = true := by
  by_cases h2 : (atsI ns ls k).length = 2
  · obtain ⟨_, _, _, _, _, _, _, hh, _⟩ := str_two h2; exact hh
  · rw [str_no h2] at h; cases h
def strsI (ns ls : List Nd) : List Int := fltL (strB ns ls) ns.length
theorem strsI_len (ns ls : List Nd) : (strsI ns ls).length ≤ 20 := by
  by_cases h : winB ns ls = true
  · have := fltL_len (strB ns ls) ns.length
    have := ((winB_iff ns ls).1 h).1.1.2
    unfold strsI; omega
  · unfold strsI
    rw [fltL_none _ (fun k => by
      by_cases hk : strB ns ls k = true
      · obtain ⟨_, _, _, hw, _⟩ := hasB_nat (strB_has hk); exact absurd hw h
      · simpa using hk)]
    simp

end Go.Proofs.Ytghpbdgghliieac
