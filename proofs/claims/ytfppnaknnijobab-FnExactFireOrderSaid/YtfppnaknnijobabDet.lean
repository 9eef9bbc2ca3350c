/-
  A region that draws its order, each of whose operations yields one value in every world that meets S and leaves a world that meets S: it may be walked in the order of the text, whatever order is drawn.
-/
import Derived.Test.YtfppnaknnijobabHeld
import Derived.Deep.RegionHeld3
namespace Go.Proofs.Ytfppnaknnijobab
open Go.RowKit
set_option linter.unusedVariables false
set_option linter.unusedSimpArgs false

section
variable {P : Program} {ops : Array Oper} {Q : Exit → Act → World → Prop} {md : Region.Mode} {S : World → Prop}

/-- What an operation comes to: the value v, and a world that meets S. -/
def DetRes (P : Program) (S : World → Prop) (v : Value) : Result Next → Prop
  | .ok (.value u) w' => u = v ∧ S w'
  | .ok .skip w' => v = undef ∧ S w'
  | .ok (.enter f args) w' => Calls P f args w' fun e w'' => e = .returned v ∧ S w''
  | _ => False

theorem detRes_value {v : Value} {r : Result Next} {w' : World} (h : r = .ok (.value v) w') (hS : S w') : DetRes P S v r := by subst h; exact ⟨rfl, hS⟩
theorem detRes_call {v : Value} {r : Result Next} {w' : World} {f : FuncId} {args : Array Value} (h : r = .ok (.enter f args) w') (hc : Calls P f args w' fun e w'' => e = .returned v ∧ S w'') : DetRes P S v r := by subst h; exact hc

def Det (P : Program) (ops : Array Oper) (S : World → Prop) (o : Oper) (v : Value) (a : Act) : Prop :=
  (Region.wanted o (yielded ops a.tmps) = true ∧ ∀ w, S w → DetRes P S v ((execOp a.eval o).run P w)) ∨ (Region.wanted o (yielded ops a.tmps) = false ∧ v = undef)

theorem Det.of_same {o : Oper} {v : Value} {a a' : Act} (hy : Det P ops S o v a) (he : execOp a'.eval o = execOp a.eval o)
    (hw : Region.wanted o (yielded ops a'.tmps) = Region.wanted o (yielded ops a.tmps)) : Det P ops S o v a' := by
  unfold Det at *
  rw [he, hw]
  exact hy

theorem Det.wpOp {i : Nat} {o : Oper} {v : Value} {a : Act} (hi : ops[i]? = some o) (hy : Det P ops S o v a)
    {K : Act → World → Prop} {w : World} (hS : S w) (h : ∀ w', S w' → K (a.put o.dst v) w') : wpOp P ops Q i K a w := by
  unfold Go.wpOp
  simp only [hi]
  rcases hy with ⟨hw, hv⟩ | ⟨hw, rfl⟩
  · simp only [hw, if_true]
    refine .inl ?_
    unfold Oper.wp
    have hd := hv w hS
    generalize (execOp a.eval o).run P w = r at *
    cases r with
    | ok n w' =>
      cases n <;> simp only [DetRes] at hd <;> simp only [Oper.upon]
      case value u => obtain ⟨rfl, h1⟩ := hd; exact h w' h1
      case skip => obtain ⟨rfl, h1⟩ := hd; exact h w' h1
      case enter f args => exact hd.mono fun e w'' he => by obtain ⟨rfl, h1⟩ := he; exact h w'' h1
    | halt x w' => simp [DetRes] at hd
  · simp only [hw, Bool.false_eq_true, if_false]; exact h w hS

/-- Whatever order is picked from here on, in every world that meets S. -/
def wpAnyD (P : Program) (md : Region.Mode) (ops : Array Oper) (Q : Exit → Act → World → Prop) (S : World → Prop) : Nat → Array Bool → Act → Prop
  | 0, listed, a => Region.ready md ops listed = [] ∧ ∀ w, S w → Q .normal a w
  | fuel + 1, listed, a => (Region.ready md ops listed = [] → ∀ w, S w → Q .normal a w) ∧
    ∀ i ∈ Region.ready md ops listed, ∃ o v, ops[i]? = some o ∧ Det P ops S o v a ∧ wpAnyD P md ops Q S fuel (listed.setIfInBounds i true) (a.put o.dst v)

theorem wpAny_of_det : ∀ (fuel : Nat) (listed : Array Bool) (a : Act) (w : World), wpAnyD P md ops Q S fuel listed a → S w → wpAny P md ops Q fuel listed a w
  | 0, _, _, _, h, hS => ⟨h.1, h.2 _ hS⟩
  | fuel + 1, _, _, _, h, hS => ⟨fun h0 => h.1 h0 _ hS, fun i hi => by
      obtain ⟨o, v, ho, hd, hn⟩ := h.2 i hi
      exact hd.wpOp ho hS fun w' hS' => wpAny_of_det fuel _ _ w' hn hS'⟩

theorem wpAnyD_first {i : Nat} {oi : Oper} {v : Value} (hi : ops[i]? = some oi) (hsel : ∀ (j : Nat) (o : Oper) cs b, ops[j]? = some o → o.op ≠ .select cs b) :
    ∀ (fuel : Nat) (listed : Array Bool) (a : Act),
      (∀ j oj, ops[j]? = some oj → j ≠ i → listed.getD j true = false → (∀ e ∈ oj.after, Region.binds md e = true → e.on ≠ i) → oi.apart ops oj = true) →
      i ∈ Region.ready md ops listed → Det P ops S oi v a →
      wpAnyD P md ops Q S fuel (listed.setIfInBounds i true) (a.put oi.dst v) → wpAnyD P md ops Q S (fuel + 1) listed a := by
  intro fuel
  induction fuel with
  | zero =>
    intro listed a _ hr hy H
    refine ⟨fun h => (by rw [h] at hr; cases hr), fun j hj => ?_⟩
    by_cases hji : j = i
    · subst hji; exact ⟨oi, v, hi, hy, H⟩
    · have := ready_mono hj hji
      rw [H.1] at this
      cases this
  | succ fuel ih =>
    intro listed a hfree hr hy H
    refine ⟨fun h => (by rw [h] at hr; cases hr), fun j hj => ?_⟩
    by_cases hji : j = i
    · subst hji; exact ⟨oi, v, hi, hy, H⟩
    · obtain ⟨oj, u, hoj, hdj, hnj⟩ := H.2 j (ready_mono hj hji)
      obtain ⟨hjun, oj', hoj', hall⟩ := mem_ready.1 hj
      obtain rfl : oj' = oj := by rw [hoj] at hoj'; exact (Option.some.inj hoj').symm
      have hnot : ∀ e ∈ oj'.after, Region.binds md e = true → e.on ≠ i := fun e he hb heq => by
        have h1 := hall e he hb
        have h0 := (mem_ready.1 hr).1
        rw [heq] at h1
        rcases Nat.lt_or_ge i listed.size with h' | h'
        · simp [h'] at h0 h1; rw [h0] at h1; cases h1
        · simp [Array.getElem?_eq_none h'] at h1
      obtain ⟨h1, h2, h3⟩ := Oper.apart_spec (hfree j oj' hoj hji hjun hnot)
      have hdj' : Det P ops S oj' u a := hdj.of_same (execOp_put oj' (fun cs b => hsel j oj' cs b hoj) a oi.dst v h1).symm (wanted_put oj' a oi.dst v h1).symm
      have hy' : Det P ops S oi v (a.put oj'.dst u) := hy.of_same (execOp_put oi (fun cs b => hsel i oi cs b hi) a oj'.dst u h3) (wanted_put oi a oj'.dst u h3)
      refine ⟨oj', u, hoj, hdj', ih (listed.setIfInBounds j true) (a.put oj'.dst u) (fun k ok hk hki hun hno => ?_) (ready_mono hr (Ne.symm hji)) hy' ?_⟩
      · refine hfree k ok hk hki ?_ hno
        by_cases hjk : j = k
        · subst hjk; exact hjun
        · rw [getD_set_ne true hjk] at hun; exact hun
      · rw [Array.setIfInBounds_comm _ _ hji, ← Act.put_comm a v u h2]
        exact hnj

/-- Take number i first. -/
theorem takeD {i : Nat} {oi : Oper} {v : Value} {fuel : Nat} {listed : Array Bool} {a : Act} (hi : ops[i]? = some oi)
    (hs : Region.noSelect ops = true) (hf : Region.free md ops listed i = true) (hr : (Region.ready md ops listed).contains i = true) (hy : Det P ops S oi v a)
    (h : wpAnyD P md ops Q S fuel (listed.setIfInBounds i true) (a.put oi.dst v)) : wpAnyD P md ops Q S (fuel + 1) listed a :=
  wpAnyD_first hi (Region.noSelect_spec hs) fuel listed a (Region.free_spec hi hf) (by simpa using hr) hy h

/-- The same, the operation found in the list. -/
theorem takeL {l rest : List Oper} {i : Nat} {oi : Oper} {v : Value} {fuel : Nat} {listed : Array Bool} {a : Act} (hi : l.drop i = oi :: rest)
    (hs : Region.noSelect l.toArray = true) (hf : Region.free md l.toArray listed i = true) (hr : (Region.ready md l.toArray listed).contains i = true) (hy : Det P l.toArray S oi v a)
    (h : wpAnyD P md l.toArray Q S fuel (listed.setIfInBounds i true) (a.put oi.dst v)) : wpAnyD P md l.toArray Q S (fuel + 1) listed a := by
  refine takeD (i := i) (oi := oi) (v := v) ?_ hs hf hr hy h
  have h1 : (l.drop i)[0]? = some oi := by rw [hi]; rfl
  rw [List.getElem?_drop] at h1
  simpa using h1

/-- The same, in the order of the text: the number follows from how many are left. -/
theorem takeT {l rest : List Oper} {oi : Oper} {v : Value} {fuel : Nat} {listed : Array Bool} {a : Act} (hi : l.drop (l.length - (fuel + 1)) = oi :: rest)
    (hs : Region.noSelect l.toArray = true) (hf : Region.free md l.toArray listed (l.length - (fuel + 1)) = true) (hr : (Region.ready md l.toArray listed).contains (l.length - (fuel + 1)) = true) (hy : Det P l.toArray S oi v a)
    (h : wpAnyD P md l.toArray Q S fuel (listed.setIfInBounds (l.length - (fuel + 1)) true) (a.put oi.dst v)) : wpAnyD P md l.toArray Q S (fuel + 1) listed a :=
  takeL hi hs hf hr hy h

theorem doneD {listed : Array Bool} {a : Act} (hr : Region.ready md ops listed = []) (h : ∀ w, S w → Q .normal a w) : wpAnyD P md ops Q S 0 listed a := ⟨hr, h⟩

theorem regionD (S : World → Prop) {id : Nat} {a : Act} {w : World} (hm : P.follows .mixedOrders = true) (hS : S w.drew)
    (h : wpAnyD P .any ops Q S ops.size (Array.replicate ops.size false) a) : (Code.region id ops true).wp P Q a w :=
  wp_region_any hm (wpAny_of_det _ _ _ _ h hS)
end
end Go.Proofs.Ytfppnaknnijobab
