/-
  AroundNode, of the model and of the program.
-/
import Derived.Test.YtghpbdgghliieacAroN
import Derived.Test.YtghpbdgghliieacAppI
namespace Go.Proofs.Ytghpbdgghliieac
open Go.RowKit
set_option linter.unusedVariables false
set_option linter.unusedSimpArgs false

def aroI (ns ls : List Nd) (k : Int) : List Int := if hasB ns ls k = true then aroL ns ls k.toNat (2 * ls.length) else []
theorem hasB_natF {ns ls : List Nd} {k : Int} (hh : hasB ns ls k = true) : ∃ q : Nat, k = q ∧ q < ns.length ∧ winB ns ls = true := by
  unfold hasB at hh
  simp only [Bool.and_eq_true] at hh
  have h2 := (idxB_iff _ _).1 hh.2
  exact ⟨k.toNat, by omega, by omega, hh.1⟩
theorem aro_len {ns ls : List Nd} (hw : winB ns ls = true) (k : Nat) : (aroL ns ls k (2 * ls.length)).length = (fromL ls k (2 * ls.length)).length := by
  rw [aro_sort]; exact sortL_len _ _ _ rfl
theorem aroI_len (ns ls : List Nd) (k : Int) : (aroI ns ls k).length ≤ 20 := by
  unfold aroI
  split
  · rename_i h
    obtain ⟨q, rfl, hq, hw⟩ := hasB_natF h
    have := from_le hw ((q : Int)).toNat
    rw [aro_len hw]; omega
  · simp

end Go.Proofs.Ytghpbdgghliieac
