/-
  Leads, plainly. (A lead is a pair as a node is: x is From, y is To.)
-/
import Derived.Test.YtfppnaknnijobabPairs
namespace Go.Proofs.Ytfppnaknnijobab
open Go.RowKit
set_option linter.unusedVariables false
set_option linter.unusedSimpArgs false

def idxB (n : Nat) (i : Int) : Bool := decide (0 ≤ i) && decide (i < (n : Int))
theorem idxB_iff (n : Nat) (i : Int) : idxB n i = true ↔ 0 ≤ i ∧ i < (n : Int) := by simp [idxB]
theorem idxB_in (n : Nat) (i : Int) : inB i 0 ((n : Int) - 1) = idxB n i := by
  rw [Bool.eq_iff_iff, inB_iff, idxB_iff]; omega

def leadOkB (xs : List Nd) (l : Nd) : Bool :=
  idxB xs.length l.x && idxB xs.length l.y && decide (l.x < l.y) && (okB (atI xs l.x) && okB (atI xs l.y)) && decide (atI xs l.x ≠ atI xs l.y)

theorem leadOkB_spec {xs : List Nd} {l : Nd} (h : leadOkB xs l = true) : ∃ i j : Nat, l = ⟨i, j⟩ ∧ i < j ∧ i < xs.length ∧ j < xs.length ∧ okB (atN xs i) = true ∧ okB (atN xs j) = true := by
  unfold leadOkB at h
  simp only [Bool.and_eq_true, idxB_iff, decide_eq_true_eq] at h
  obtain ⟨⟨⟨⟨h1, h2⟩, h3⟩, h4, h5⟩, h6⟩ := h
  obtain ⟨x, y⟩ := l
  simp only at h1 h2 h3 h4 h5
  obtain ⟨i, rfl⟩ : ∃ i : Nat, x = i := ⟨x.toNat, by omega⟩
  obtain ⟨j, rfl⟩ : ∃ j : Nat, y = j := ⟨y.toNat, by omega⟩
  exact ⟨i, j, rfl, by omega, by omega, by omega, h4, h5⟩

def otherI (l : Nd) (k : Int) : Int := if k = l.x then l.y else if k = l.y then l.x else -1
def shareB (l m : Nd) : Bool := decide (l.x = m.x) || decide (l.x = m.y) || decide (l.y = m.x) || decide (l.y = m.y)
def onLeadB (xs : List Nd) (l : Nd) (n : Nd) : Bool := leadOkB xs l && (decide (n = atI xs l.x) || decide (n = atI xs l.y) || betweenB (atI xs l.x) (atI xs l.y) n)

def sgnI (n : Int) : Int := if n < 0 then -1 else if 0 < n then 1 else 0
/-- Two lines between ends cross, one ends in the middle of the other, or they are the same. -/
def meetB (a b u v : Nd) : Bool :=
  (betweenB a b u || betweenB a b v || betweenB u v a || betweenB u v b) || (decide (a = u) && decide (b = v) || decide (a = v) && decide (b = u)) ||
  (!(decide (a = u) || decide (a = v) || decide (b = u) || decide (b = v)) && (decide (sgnI (turnI a b u) * sgnI (turnI a b v) < 0) && decide (sgnI (turnI u v a) * sgnI (turnI u v b) < 0)))
def crossB (xs : List Nd) (l m : Nd) : Bool := leadOkB xs l && leadOkB xs m && meetB (atI xs l.x) (atI xs l.y) (atI xs m.x) (atI xs m.y)

theorem sgn_mul (p q : Int) : sgnI p * sgnI q < 0 ↔ p * q < 0 := by
  rcases Int.lt_trichotomy p 0 with h | rfl | h
  · rcases Int.lt_trichotomy q 0 with k | rfl | k
    · have h1 : 0 < p * q := Int.mul_pos_of_neg_of_neg h k
      have e1 : sgnI p = -1 := by unfold sgnI; rw [if_pos h]
      have e2 : sgnI q = -1 := by unfold sgnI; rw [if_pos k]
      rw [e1, e2]; omega
    · simp [sgnI]
    · have h1 : p * q < 0 := Int.mul_neg_of_neg_of_pos h k
      have e1 : sgnI p = -1 := by unfold sgnI; rw [if_pos h]
      have e2 : sgnI q = 1 := by unfold sgnI; rw [if_neg (by omega), if_pos k]
      rw [e1, e2]; omega
  · simp [sgnI]
  · rcases Int.lt_trichotomy q 0 with k | rfl | k
    · have h1 : p * q < 0 := Int.mul_neg_of_pos_of_neg h k
      have e1 : sgnI p = 1 := by unfold sgnI; rw [if_neg (by omega), if_pos h]
      have e2 : sgnI q = -1 := by unfold sgnI; rw [if_pos k]
      rw [e1, e2]; omega
    · simp [sgnI]
    · have h1 : 0 < p * q := Int.mul_pos h k
      have e1 : sgnI p = 1 := by unfold sgnI; rw [if_neg (by omega), if_pos h]
      have e2 : sgnI q = 1 := by unfold sgnI; rw [if_neg (by omega), if_pos k]
      rw [e1, e2]; omega

theorem turn_aa (a b : Nd) : turnI a b a = 0 := by unfold turnI; simp
theorem turn_ab (a b : Nd) : turnI a b b = 0 := by unfold turnI; rw [Int.mul_comm]; omega

def sepB (a b u v : Nd) : Bool := decide (turnI a b u * turnI a b v < 0)
theorem sep_iff (a b u v : Nd) : sepB a b u v = true ↔ turnI a b u * turnI a b v < 0 := by simp [sepB]
/-- The program's way to ask the same. -/
theorem meet_prog (a b u v : Nd) : meetB a b u v =
    ((decide (a = u) && decide (b = v) || decide (a = v) && decide (b = u)) || ((betweenB a b u || betweenB a b v) || (betweenB u v a || betweenB u v b) || (sepB a b u v && sepB u v a b))) := by
  unfold meetB sepB
  simp only [sgn_mul]
  by_cases h : (decide (a = u) || decide (a = v) || decide (b = u) || decide (b = v)) = true
  · have hz : turnI a b u * turnI a b v = 0 := by
      simp only [Bool.or_eq_true, decide_eq_true_eq] at h
      rcases h with ((rfl | rfl) | rfl) | rfl
      · rw [turn_aa]; simp
      · rw [turn_aa]; simp
      · rw [turn_ab]; simp
      · rw [turn_ab]; simp
    rw [h, hz]
    simp only [Bool.not_true, Bool.false_and, Bool.or_false, Int.lt_irrefl, decide_false]
    cases (decide (a = u) && decide (b = v) || decide (a = v) && decide (b = u)) <;> cases betweenB a b u <;> cases betweenB a b v <;> cases betweenB u v a <;> cases betweenB u v b <;> rfl
  · have h' : (decide (a = u) || decide (a = v) || decide (b = u) || decide (b = v)) = false := by simpa using h
    rw [h']
    cases (decide (a = u) && decide (b = v) || decide (a = v) && decide (b = u)) <;> cases betweenB a b u <;> cases betweenB a b v <;> cases betweenB u v a <;> cases betweenB u v b <;> simp
end Go.Proofs.Ytfppnaknnijobab
