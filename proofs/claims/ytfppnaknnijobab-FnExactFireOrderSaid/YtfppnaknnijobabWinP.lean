/-
  Windows, plainly.
-/
import Derived.Test.YtfppnaknnijobabLeadP
namespace Go.Proofs.Ytfppnaknnijobab
open Go.RowKit
set_option linter.unusedVariables false
set_option linter.unusedSimpArgs false

/-- The first n nodes are on the board, no two at one place. -/
def NodesOk (ns : List Nd) (n : Nat) : Prop := ∀ k, k < n → okB (atN ns k) = true ∧ ∀ i, i < k → atN ns i ≠ atN ns k
/-- The first n leads are valid, none crosses one before it, and no further node is on one. -/
def LeadsOk (ns ls : List Nd) (n : Nat) : Prop := ∀ k, k < n → leadOkB ns (atN ls k) = true ∧ (∀ i, i < k → crossB ns (atN ls i) (atN ls k) = false) ∧
  ∀ i : Nat, i < ns.length → (i : Int) ≠ (atN ls k).x → (i : Int) ≠ (atN ls k).y → onLeadB ns (atN ls k) (atN ns i) = false
instance (ns : List Nd) (n : Nat) : Decidable (NodesOk ns n) := by unfold NodesOk; infer_instance
instance (ns ls : List Nd) (n : Nat) : Decidable (LeadsOk ns ls n) := by unfold LeadsOk; infer_instance
def WinOk (ns ls : List Nd) : Prop := ((1 ≤ ns.length ∧ ns.length ≤ 12) ∧ ls.length ≤ 20) ∧ NodesOk ns ns.length ∧ LeadsOk ns ls ls.length
instance (ns ls : List Nd) : Decidable (WinOk ns ls) := by unfold WinOk; infer_instance
def winB (ns ls : List Nd) : Bool := decide (WinOk ns ls)

theorem NodesOk.zero (ns : List Nd) : NodesOk ns 0 := fun k hk => by omega
theorem NodesOk.succ {ns : List Nd} {n : Nat} (h : NodesOk ns n) (h1 : okB (atN ns n) = true) (h2 : ∀ i, i < n → atN ns i ≠ atN ns n) : NodesOk ns (n + 1) := fun k hk => by
  by_cases e : k = n
  · subst e; exact ⟨h1, h2⟩
  · exact h k (by omega)
theorem LeadsOk.zero (ns ls : List Nd) : LeadsOk ns ls 0 := fun k hk => by omega
theorem LeadsOk.succ {ns ls : List Nd} {n : Nat} (h : LeadsOk ns ls n) (h1 : leadOkB ns (atN ls n) = true) (h2 : ∀ i, i < n → crossB ns (atN ls i) (atN ls n) = false)
    (h3 : ∀ i : Nat, i < ns.length → (i : Int) ≠ (atN ls n).x → (i : Int) ≠ (atN ls n).y → onLeadB ns (atN ls n) (atN ns i) = false) : LeadsOk ns ls (n + 1) := fun k hk => by
  by_cases e : k = n
  · subst e; exact ⟨h1, h2, h3⟩
  · exact h k (by omega)

theorem winB_no {ns ls : List Nd} (h : ¬ WinOk ns ls) : winB ns ls = false := decide_eq_false h
theorem winB_yes {ns ls : List Nd} (h : WinOk ns ls) : winB ns ls = true := decide_eq_true h
theorem winB_iff (ns ls : List Nd) : winB ns ls = true ↔ WinOk ns ls := by unfold winB; simp
theorem winB_size {ns ls : List Nd} (h : ¬ ((1 ≤ ns.length ∧ ns.length ≤ 12) ∧ ls.length ≤ 20)) : winB ns ls = false := winB_no fun k => h k.1
theorem winB_node {ns ls : List Nd} {k : Nat} (hk : k < ns.length) (h : okB (atN ns k) = false) : winB ns ls = false :=
  winB_no fun w => by have := (w.2.1 k hk).1; rw [h] at this; cases this
theorem winB_twice {ns ls : List Nd} {k i : Nat} (hk : k < ns.length) (hi : i < k) (h : atN ns i = atN ns k) : winB ns ls = false :=
  winB_no fun w => (w.2.1 k hk).2 i hi h
theorem winB_lead {ns ls : List Nd} {k : Nat} (hk : k < ls.length) (h : leadOkB ns (atN ls k) = false) : winB ns ls = false :=
  winB_no fun w => by have := (w.2.2 k hk).1; rw [h] at this; cases this
theorem winB_cross {ns ls : List Nd} {k i : Nat} (hk : k < ls.length) (hi : i < k) (h : crossB ns (atN ls i) (atN ls k) = true) : winB ns ls = false :=
  winB_no fun w => by have := (w.2.2 k hk).2.1 i hi; rw [h] at this; cases this
theorem winB_on {ns ls : List Nd} {k i : Nat} (hk : k < ls.length) (hi : i < ns.length) (hx : (i : Int) ≠ (atN ls k).x) (hy : (i : Int) ≠ (atN ls k).y) (h : onLeadB ns (atN ls k) (atN ns i) = true) : winB ns ls = false :=
  winB_no fun w => by have := (w.2.2 k hk).2.2 i hi hx hy; rw [h] at this; cases this

theorem between_comm (a b c : Nd) : betweenB a b c = betweenB b a c := by
  have h1 : turnI b a c = -turnI a b c := by unfold turnI; grind
  have e1 : decide (turnI a b c = 0) = decide (turnI b a c = 0) := by rw [decide_eq_decide, h1]; omega
  have e2 : decide (a ≠ b) = decide (b ≠ a) := by rw [decide_eq_decide]; exact ne_comm
  unfold betweenB
  rw [e1, e2, Int.min_comm a.x b.x, Int.max_comm a.x b.x, Int.min_comm a.y b.y, Int.max_comm a.y b.y]
  cases okB a <;> cases okB b <;> cases okB c <;> cases decide (b ≠ a) <;> cases decide (b ≠ c) <;> cases decide (a ≠ c) <;> rfl

/-- It doesn't matter which of two lines is asked first. -/
theorem meet_comm (a b u v : Nd) : meetB a b u v = meetB u v a b := by
  have d1 : decide (a = u) = decide (u = a) := by rw [decide_eq_decide]; exact eq_comm
  have d2 : decide (b = v) = decide (v = b) := by rw [decide_eq_decide]; exact eq_comm
  have d3 : decide (a = v) = decide (v = a) := by rw [decide_eq_decide]; exact eq_comm
  have d4 : decide (b = u) = decide (u = b) := by rw [decide_eq_decide]; exact eq_comm
  rw [meet_prog, meet_prog, d1, d2, d3, d4]
  cases decide (u = a) <;> cases decide (v = b) <;> cases decide (v = a) <;> cases decide (u = b) <;> cases betweenB a b u <;> cases betweenB a b v <;> cases betweenB u v a <;> cases betweenB u v b <;> cases sepB a b u v <;> cases sepB u v a b <;> rfl
theorem cross_comm (xs : List Nd) (l m : Nd) : crossB xs l m = crossB xs m l := by
  unfold crossB
  rw [meet_comm]
  cases leadOkB xs l <;> cases leadOkB xs m <;> rfl
end Go.Proofs.Ytfppnaknnijobab
