/-
  Lists of recipes and their average, plainly.
-/
import Derived.Test.YtfppnaknnijobabQdL
namespace Go.Proofs.Ytfppnaknnijobab
open Go.RowKit
set_option linter.unusedVariables false
set_option linter.unusedSimpArgs false

def recsA (xs : List Qd) : Bool := xs.all recB
def recsB (xs : List Qd) : Bool := recsA xs && decide (xs.length ≤ 20)
theorem recsA_iff (xs : List Qd) : recsA xs = true ↔ ∀ k, k < xs.length → recB (atQ xs k) = true := by
  unfold recsA
  rw [List.all_eq_true]
  constructor
  · intro h k hk
    rw [← atQ_get hk]
    exact h _ (List.getElem_mem hk)
  · intro h n hn
    obtain ⟨k, hk, rfl⟩ := List.getElem_of_mem hn
    rw [atQ_get hk]
    exact h k hk
theorem recsB_iff (xs : List Qd) : recsB xs = true ↔ (∀ k, k < xs.length → recB (atQ xs k) = true) ∧ xs.length ≤ 20 := by
  unfold recsB
  rw [Bool.and_eq_true, recsA_iff, decide_eq_true_iff]
theorem recsA_no {xs : List Qd} {k : Nat} (hk : k < xs.length) (h : recB (atQ xs k) = false) : recsA xs = false := by
  by_cases hr : recsA xs = true
  · have := (recsA_iff xs).1 hr k hk
    rw [h] at this
    cases this
  · simpa using hr
theorem recsB_no {xs : List Qd} {k : Nat} (hk : k < xs.length) (h : recB (atQ xs k) = false) : recsB xs = false := by
  unfold recsB
  rw [recsA_no hk h]
  rfl
theorem recsB_long {xs : List Qd} (h : 20 < xs.length) : recsB xs = false := by
  unfold recsB
  rw [decide_eq_false (by omega), Bool.and_false]
/-- The sums of the first n: of the ash, of the lime, of the metal. -/
def sY (xs : List Qd) : Nat → Int
  | 0 => 0
  | n + 1 => sY xs n + (atQ xs n).y
def sZ (xs : List Qd) : Nat → Int
  | 0 => 0
  | n + 1 => sZ xs n + (atQ xs n).z
def sU (xs : List Qd) : Nat → Int
  | 0 => 0
  | n + 1 => sU xs n + (atQ xs n).u
theorem rec_bd {q : Qd} (h : recB q = true) : (0 ≤ q.y ∧ q.y ≤ 1000) ∧ (0 ≤ q.z ∧ q.z ≤ 1000) ∧ (0 ≤ q.u ∧ q.u ≤ 1000) := by
  unfold recB at h
  simp only [Bool.and_eq_true] at h
  have := (qdB_iff q).1 h.1
  exact ⟨this.2.1, this.2.2.1, this.2.2.2⟩
theorem sYZU_bd {xs : List Qd} (h : ∀ k, k < xs.length → recB (atQ xs k) = true) : ∀ n, n ≤ xs.length → (0 ≤ sY xs n ∧ sY xs n ≤ 1000 * n) ∧ (0 ≤ sZ xs n ∧ sZ xs n ≤ 1000 * n) ∧ (0 ≤ sU xs n ∧ sU xs n ≤ 1000 * n)
  | 0, _ => by simp [sY, sZ, sU]
  | n + 1, hn => by
    have ih := sYZU_bd h n (by omega)
    have := rec_bd (h n (by omega))
    unfold sY sZ sU
    omega
noncomputable def avgOk (xs : List Qd) : Bool := recsB xs && !decide (xs.length = 0)
noncomputable def avgQ (xs : List Qd) : Qd :=
  if avgOk xs = true then ⟨1000 - sY xs xs.length / xs.length - sZ xs xs.length / xs.length - sU xs xs.length / xs.length, sY xs xs.length / xs.length, sZ xs xs.length / xs.length, sU xs xs.length / xs.length⟩ else ⟨0, 0, 0, 0⟩
/-- A recipe and a bool are returned. -/
def QdOk (q : Qd) (b : Bool) (w : World) (e : Ending) (w' : World) : Prop := e = .returned (.tuple #[q.val, .bool b]) ∧ Below w.heap.size w w'
end Go.Proofs.Ytfppnaknnijobab
