/-
  Darts around a node, plainly: those that begin there, each put in from the end.
-/
import Derived.Test.YtfppnaknnijobabDart
import Derived.Test.YtfppnaknnijobabSeq
namespace Go.Proofs.Ytfppnaknnijobab
open Go.RowKit
set_option linter.unusedVariables false
set_option linter.unusedSimpArgs false

/-- d is put into l at place m or ahead of it: behind the first one from there back that lt does not tell after d. -/
def insM (lt : Int → Int → Bool) (d : Int) (l : List Int) : Nat → List Int
  | 0 => d :: l
  | m + 1 => if lt d (atZ l m) = true then insM lt d l m else l.take (m + 1) ++ d :: l.drop (m + 1)
def insL (lt : Int → Int → Bool) (d : Int) (l : List Int) : List Int := insM lt d l l.length
theorem insM_len (lt : Int → Int → Bool) (d : Int) (l : List Int) : ∀ m, m ≤ l.length → (insM lt d l m).length = l.length + 1
  | 0, _ => rfl
  | m + 1, h => by
    unfold insM
    split
    · exact insM_len lt d l m (by omega)
    · simp; omega
theorem insM_mem (lt : Int → Int → Bool) (d : Int) (l : List Int) : ∀ m x, x ∈ insM lt d l m → x = d ∨ x ∈ l
  | 0, x, h => by simpa [insM] using h
  | m + 1, x, h => by
    unfold insM at h
    split at h
    · exact insM_mem lt d l m x h
    · simp only [List.mem_append, List.mem_cons] at h
      rcases h with h | h | h
      · exact .inr (List.mem_of_mem_take h)
      · exact .inl h
      · exact .inr (List.mem_of_mem_drop h)
/-- The list while d is put in: place m is open. -/
def openL (l : List Int) (y : Int) (m : Nat) : List Int := l.take m ++ y :: l.drop m
theorem openL_len (l : List Int) (y : Int) (m : Nat) (h : m ≤ l.length) : (openL l y m).length = l.length + 1 := by simp [openL]; omega
theorem openL_full (l : List Int) (y : Int) : openL l y l.length = l ++ [y] := by simp [openL]
theorem openL_at (l : List Int) (y : Int) (m : Nat) (h : m < l.length) : atZ (openL l y (m + 1)) m = atZ l m := by
  unfold atZ openL
  simp [List.getD, List.getElem?_append, List.getElem?_take, h]
  rw [if_pos (by omega)]
  rfl
theorem openL_set (l : List Int) (y d : Int) (m : Nat) (h : m ≤ l.length) : (openL l y m).set m d = openL l d m := by
  unfold openL
  rw [List.set_append_right _ _ (by simp; omega)]
  simp [Nat.min_eq_left h]
theorem openL_down (l : List Int) (y : Int) (m : Nat) (h : m < l.length) : openL l (atZ l m) (m + 1) = openL l (atZ l m) m := by
  unfold openL
  rw [List.take_succ_eq_append_getElem h, atZ_get h, List.append_assoc, List.drop_eq_getElem_cons h, atZ_get h]
  rfl
theorem insM_zero (lt : Int → Int → Bool) (d : Int) (l : List Int) : insM lt d l 0 = openL l d 0 := by simp [insM, openL]
theorem insM_stop (lt : Int → Int → Bool) (d : Int) (l : List Int) (m : Nat) (h : lt d (atZ l m) = false) : insM lt d l (m + 1) = openL l d (m + 1) := by
  unfold insM openL
  rw [h]; simp
theorem insM_on (lt : Int → Int → Bool) (d : Int) (l : List Int) (m : Nat) (h : lt d (atZ l m) = true) : insM lt d l (m + 1) = insM lt d l m := by
  rw [insM, if_pos h]

/-- Whether dart d comes ahead of dart x around node k. -/
def ltD (ns ls : List Nd) (k : Nat) (d x : Int) : Bool := beforeB (atN ns k) (atI ns (dT ls d.toNat)) (atI ns (dT ls x.toNat))
def aroL (ns ls : List Nd) (k : Nat) : Nat → List Int
  | 0 => []
  | n + 1 => if dF ls n = k then insL (ltD ns ls k) n (aroL ns ls k n) else aroL ns ls k n
theorem aroL_len (ns ls : List Nd) (k : Nat) : ∀ n, (aroL ns ls k n).length ≤ n
  | 0 => Nat.le_refl _
  | n + 1 => by
    have := aroL_len ns ls k n
    unfold aroL
    split
    · unfold insL; rw [insM_len _ _ _ _ (Nat.le_refl _)]; omega
    · omega
theorem aroL_mem (ns ls : List Nd) (k : Nat) : ∀ n x, x ∈ aroL ns ls k n → ∃ d : Nat, x = d ∧ d < n ∧ dF ls d = k
  | 0, x, h => by simp [aroL] at h
  | n + 1, x, h => by
    unfold aroL at h
    split at h
    · rename_i hk
      rcases insM_mem _ _ _ _ _ h with h | h
      · exact ⟨n, h, by omega, hk⟩
      · obtain ⟨d, e, hd, hf⟩ := aroL_mem ns ls k n x h
        exact ⟨d, e, by omega, hf⟩
    · obtain ⟨d, e, hd, hf⟩ := aroL_mem ns ls k n x h
      exact ⟨d, e, by omega, hf⟩
/-- Both ends of a dart of a valid window are places of nodes. -/
theorem dart_nat {ns ls : List Nd} {d : Nat} (hw : winB ns ls = true) (hd : d < 2 * ls.length) : ∃ a b : Nat, dF ls d = a ∧ dT ls d = b ∧ a < ns.length ∧ b < ns.length ∧ a ≠ b := by
  obtain ⟨p, q, e, hpq, hp, hq, _⟩ := leadOkB_spec (((winB_iff ns ls).1 hw).2.2 (d / 2) (by omega)).1
  unfold dF dT
  rw [e]
  by_cases h : d % 2 = 1
  · rw [if_pos h, if_pos h]; exact ⟨q, p, rfl, rfl, hq, hp, by omega⟩
  · rw [if_neg h, if_neg h]; exact ⟨p, q, rfl, rfl, hp, hq, by omega⟩
theorem aroL_at {ns ls : List Nd} {k n m : Nat} (hm : m < (aroL ns ls k n).length) : ∃ d : Nat, atZ (aroL ns ls k n) m = d ∧ d < n ∧ dF ls d = k := by
  have : atZ (aroL ns ls k n) m ∈ aroL ns ls k n := by rw [← atZ_get hm]; exact List.getElem_mem hm
  exact aroL_mem ns ls k n _ this
end Go.Proofs.Ytfppnaknnijobab
