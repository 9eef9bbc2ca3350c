/-
  EndNodes, of the model and of the program.
-/
import Derived.Test.YtghpbdgghliieacAro
import Derived.Test.YtghpbdgghliieacSNs
namespace Go.Proofs.Ytghpbdgghliieac
open Go.RowKit
set_option linter.unusedVariables false
set_option linter.unusedSimpArgs false

theorem insL_len (lt : Int → Int → Bool) (d : Int) (l : List Int) : (insL lt d l).length = l.length + 1 := insM_len lt d l _ (Nat.le_refl _)
/-- As many darts begin at a node as leads end there. -/
theorem aro_deg {ns ls : List Nd} (hw : winB ns ls = true) (k : Nat) : ∀ n, n ≤ ls.length → (aroL ns ls k (2 * n)).length = (atL ls k n).length
  | 0, _ => rfl
  | n + 1, h => by
    have ih := aro_deg hw k n (by omega)
    obtain ⟨p, q, e, hpq, _⟩ := leadOkB_spec (((winB_iff ns ls).1 hw).2.2 n (by omega)).1
    have d0 : dF ls (2 * n) = p := by
      unfold dF
      rw [if_neg (by omega), show 2 * n / 2 = n by omega, e]
    have d1 : dF ls (2 * n + 1) = q := by
      unfold dF
      rw [if_pos (by omega), show (2 * n + 1) / 2 = n by omega, e]
    have ea : atL ls k (n + 1) = if (atN ls n).x = k ∨ (atN ls n).y = k then atL ls k n ++ [(n : Int)] else atL ls k n := rfl
    have e1 : aroL ns ls k (2 * n + 1 + 1) = if dF ls (2 * n + 1) = k then insL (ltD ns ls k) ((2 * n + 1 : Nat) : Int) (aroL ns ls k (2 * n + 1)) else aroL ns ls k (2 * n + 1) := rfl
    have e0 : aroL ns ls k (2 * n + 1) = if dF ls (2 * n) = k then insL (ltD ns ls k) ((2 * n : Nat) : Int) (aroL ns ls k (2 * n)) else aroL ns ls k (2 * n) := rfl
    rw [show 2 * (n + 1) = 2 * n + 1 + 1 by omega, e1, e0, ea, d0, d1, e]
    by_cases hp : (p : Int) = k
    · have hq : ¬ (q : Int) = k := by omega
      rw [if_neg hq, if_pos hp, if_pos (.inl hp), insL_len, ih]; simp
    · by_cases hq : (q : Int) = k
      · rw [if_pos hq, if_neg hp, if_pos (.inr hq), insL_len, ih]; simp
      · rw [if_neg hq, if_neg hp, if_neg (fun h => h.elim hp hq), ih]

def endB (ns ls : List Nd) (k : Int) : Bool := decide (degI ns ls k = 1)
def endsI (ns ls : List Nd) : List Int := fltL (endB ns ls) ns.length
theorem endB_has {ns ls : List Nd} {k : Int} (h : endB ns ls k = true) : hasB ns ls k = true := by
  unfold endB degI at h
  by_cases hh : hasB ns ls k = true
  · exact hh
  · rw [if_neg hh] at h; simp at h
theorem endsI_none {ns ls : List Nd} (h : ¬ winB ns ls = true) : endsI ns ls = [] := fltL_none _ (fun k => by
  by_cases hk : endB ns ls k = true
  · obtain ⟨_, _, _, hw, _⟩ := hasB_nat (endB_has hk); exact absurd hw h
  · simpa using hk) _
theorem endsI_len (ns ls : List Nd) : (endsI ns ls).length ≤ 20 := by
  by_cases h : winB ns ls = true
  · have := fltL_len (endB ns ls) ns.length
    have := ((winB_iff ns ls).1 h).1.1.2
    unfold endsI; omega
  · rw [endsI_none h]; simp
theorem endB_aro {ns ls : List Nd} {k : Nat} (hw : winB ns ls = true) (hk : k < ns.length) : endB ns ls k = decide ((aroL ns ls k (2 * ls.length)).length = 1) := by
  have hh : hasB ns ls k = true := by
    unfold hasB
    rw [hw, (idxB_iff _ _).2 (by omega)]; rfl
  unfold endB degI atsI
  rw [if_pos hh, if_pos hh, aro_deg hw k _ (Nat.le_refl _), decide_eq_decide]
  omega

end Go.Proofs.Ytghpbdgghliieac
