/-
  What the program's WindowOk returns (its leads, and all of it).
-/
import Derived.Test.YtfppnaknnijobabWinI
namespace Go.Proofs.Ytfppnaknnijobab
open Go.RowKit
set_option linter.unusedVariables false
set_option linter.unusedSimpArgs false

/-- Some node other than the ends of l is on it, as the program asks. -/
def underB (ns : List Nd) (l : Nd) : Bool := decide (∃ i : Nat, i < ns.length ∧ (otherI l i < 0 ∧ onLeadB ns l (atN ns i) = true))
theorem underB_iff (ns : List Nd) (l : Nd) : underB ns l = true ↔ ∃ i : Nat, i < ns.length ∧ (otherI l i < 0 ∧ onLeadB ns l (atN ns i) = true) := by unfold underB; simp
/-- l crosses one of the first k leads. -/
def crossesB (ns ls : List Nd) (l : Nd) (k : Nat) : Bool := decide (∃ i, i < k ∧ crossB ns l (atN ls i) = true)
theorem crossesB_iff (ns ls : List Nd) (l : Nd) (k : Nat) : crossesB ns ls l k = true ↔ ∃ i, i < k ∧ crossB ns l (atN ls i) = true := by unfold crossesB; simp

/-- A boxed drawing (or window) and a boxed lead. -/
theorem held_pl (w : World) (vn vl : Value) (l : Nd) (T U : TypeId) : Held w ((w.alloc (.cells #[vn, vl] T)).alloc (.cells #[.int .i64 l.x, .int .i64 l.y] U)) [(w.heap.size + 1, 0, .int .i64 l.x), (w.heap.size + 1, 1, .int .i64 l.y), (w.heap.size, 0, vn), (w.heap.size, 1, vl)] :=
  (held_pair w vn vl T).new2 (w.heap.size + 1) (by simp) [.int .i64 l.x, .int .i64 l.y] U

theorem other_neg {ns : List Nd} {l : Nd} (h : leadOkB ns l = true) (i : Nat) : otherI l i < 0 ↔ (i : Int) ≠ l.x ∧ (i : Int) ≠ l.y := by
  obtain ⟨a, b, rfl, _⟩ := leadOkB_spec h
  unfold otherI
  simp only
  by_cases h1 : (i : Int) = a
  · rw [if_pos h1]; omega
  · rw [if_neg h1]
    by_cases h2 : (i : Int) = b
    · rw [if_pos h2]; omega
    · rw [if_neg h2]; omega

theorem leads_no {ns ls : List Nd} {k : Nat} (hk : k < ls.length) (h : leadOkB ns (atN ls k) = false ∨ (leadOkB ns (atN ls k) = true ∧ underB ns (atN ls k) = true) ∨ crossesB ns ls (atN ls k) k = true) : ¬ LeadsOk ns ls ls.length := fun w => by
  obtain ⟨h1, h2, h3⟩ := w k hk
  rcases h with h | ⟨hv, h⟩ | h
  · rw [h] at h1; cases h1
  · obtain ⟨i, hi, ho, hon⟩ := (underB_iff _ _).1 h
    obtain ⟨hx, hy⟩ := (other_neg hv i).1 ho
    rw [h3 i hi hx hy] at hon
    cases hon
  · obtain ⟨i, hi, hc⟩ := (crossesB_iff _ _ _ _).1 h
    rw [cross_comm, h2 i hi] at hc
    cases hc
theorem leads_next {ns ls : List Nd} {k : Nat} (h : LeadsOk ns ls k) (h1 : leadOkB ns (atN ls k) = true) (h2 : underB ns (atN ls k) = false) (h3 : crossesB ns ls (atN ls k) k = false) : LeadsOk ns ls (k + 1) := by
  refine h.succ h1 (fun i hi => ?_) (fun i hi hx hy => ?_)
  · cases hc : crossB ns (atN ls i) (atN ls k)
    · rfl
    · rw [cross_comm] at hc
      have : crossesB ns ls (atN ls k) k = true := (crossesB_iff _ _ _ _).2 ⟨i, hi, hc⟩
      rw [h3] at this
      cases this
  · cases hc : onLeadB ns (atN ls k) (atN ns i)
    · rfl
    · have : underB ns (atN ls k) = true := (underB_iff _ _).2 ⟨i, hi, (other_neg h1 i).2 ⟨hx, hy⟩, hc⟩
      rw [h2] at this
      cases this

end Go.Proofs.Ytfppnaknnijobab
