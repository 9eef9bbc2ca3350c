/-
  What the program's WindowOk returns.
-/
import Derived.Test.YtfppnaknnijobabImplLead
import Derived.Test.YtfppnaknnijobabWinP
import Derived.LoopTactic
import Derived.Outline
import Derived.Deep.QuietTactic
import Derived.BigQuiet
namespace Go.Proofs.Ytfppnaknnijobab
open Go.RowKit
set_option linter.unusedVariables false
set_option linter.unusedSimpArgs false

theorem held_plus {w W : World} {fs gs : List (Nat × Nat × Value)} (h : Held w W fs) (hc : Cs W gs) (hb : Bs W.heap.size gs) : Held w W (fs ++ gs) :=
  ⟨h.1.append hc, h.2.1.append hb, h.2.2⟩

/-- A boxed pair of slices. -/
theorem held_pair (w : World) (vn vl : Value) (T : TypeId) : Held w (w.alloc (.cells #[vn, vl] T)) [(w.heap.size, 0, vn), (w.heap.size, 1, vl)] := (Held.none_ w).new2 w.heap.size rfl [vn, vl] T

def ValIs (v : Value) (w : World) (e : Ending) (w' : World) : Prop := e = .returned v ∧ Below w.heap.size w w'

theorem prs_take {w : World} {A : Option Addr} {c : Nat} {xs : List Nd} (h : Prs w (.slice A xs.length c) xs) {k : Nat} (hk : k ≤ xs.length) : Prs w (.slice A k c) (xs.take k) := by
  obtain ⟨A', c', he, hl, hc, hx⟩ := h
  injection he with he1 he2 he3
  subst he1
  subst he3
  have hlen : (xs.take k).length = k := by rw [List.length_take]; omega
  refine ⟨A, c, by rw [hlen], by rw [hlen]; omega, hc, fun h0 => ?_⟩
  rw [hlen] at h0
  obtain ⟨b, o, rfl, hb, hcs⟩ := hx (by omega)
  refine ⟨b, o, rfl, hb, fun j hj => ?_⟩
  rw [hlen] at hj
  have e : atN (xs.take k) j = atN xs j := by unfold atN; simp [List.getD, List.getElem?_take, hj]
  rw [e]
  exact hcs j (by omega)
theorem atN_take {xs : List Nd} {k j : Nat} (hj : j < k) : atN (xs.take k) j = atN xs j := by unfold atN; simp [List.getD, List.getElem?_take, hj]
theorem prs_cap {w : World} {A : Option Addr} {n c : Nat} {xs : List Nd} (h : Prs w (.slice A n c) xs) : n = xs.length ∧ xs.length ≤ c ∧ c ≤ 9223372036854775807 := by
  obtain ⟨A', c', he, hl, hc, hx⟩ := h
  injection he with he1 he2 he3
  subst he3
  unfold maxLen at hc
  exact ⟨he2, hl, by omega⟩

/-- Is n among the first k? -/
def inFirst (ns : List Nd) (k : Nat) (n : Nd) : Bool := decide (∃ i, i < k ∧ atN ns i = n)
theorem inFirst_iff (ns : List Nd) (k : Nat) (n : Nd) : inFirst ns k n = true ↔ ∃ i, i < k ∧ atN ns i = n := by unfold inFirst; simp

theorem nodesOk_no {ns : List Nd} {k : Nat} (hk : k < ns.length) (h : okB (atN ns k) = false ∨ inFirst ns k (atN ns k) = true) : ¬ NodesOk ns ns.length := fun w => by
  obtain ⟨h1, h2⟩ := w k hk
  rcases h with h | h
  · rw [h] at h1; cases h1
  · rw [inFirst_iff] at h
    obtain ⟨i, hi, e⟩ := h
    exact h2 i hi e
theorem nodesOk_next {ns : List Nd} {k : Nat} (h : NodesOk ns k) (h1 : okB (atN ns k) = true) (h2 : inFirst ns k (atN ns k) = false) : NodesOk ns (k + 1) :=
  h.succ h1 fun i hi e => by
    have : inFirst ns k (atN ns k) = true := (inFirst_iff _ _ _).2 ⟨i, hi, e⟩
    rw [h2] at this
    cases this

end Go.Proofs.Ytfppnaknnijobab
