/-
  A region that draws its order, walked in the order of the text as far as its operations yield one value in every world that meets G; the others (a call that hands back new memory) are branched over.
  G is a condition on worlds that stays when memory is made ('Stable'); what an operation hands back may be added to it.
-/
import Derived.Test.YtfppnaknnijobabHeld
import Derived.Deep.RegionHeld3
namespace Go.Proofs.Ytfppnaknnijobab
open Go.RowKit
set_option linter.unusedVariables false
set_option linter.unusedSimpArgs false

def Stable (G : World → Prop) : Prop := ∀ w w' : World, G w → Below w.heap.size w w' → G w'
theorem Stable.held (w : World) (fs : List (Nat × Nat × Value)) : Stable fun W => Held w W fs := fun _ _ h hb => h.step hb
theorem Stable.and {G R : World → Prop} (h : Stable G) (k : Stable R) : Stable fun W => G W ∧ R W := fun _ _ hh hb => ⟨h _ _ hh.1 hb, k _ _ hh.2 hb⟩

section
variable {P : Program} {ops : Array Oper} {Q : Exit → Act → World → Prop} {md : Region.Mode}

def DetR (P : Program) (v : Value) (w : World) : Result Next → Prop
  | .ok (.value u) w' => u = v ∧ Below w.heap.size w w'
  | .ok .skip w' => v = undef ∧ Below w.heap.size w w'
  | .ok (.enter f args) w' => Calls P f args w' fun e w'' => e = .returned v ∧ Below w.heap.size w w''
  | _ => False
def FreeR (P : Program) (R : Value → World → Prop) (w : World) : Result Next → Prop
  | .ok (.value u) w' => R u w' ∧ Below w.heap.size w w'
  | .ok (.enter f args) w' => Calls P f args w' fun e w'' => ∃ v, e = .returned v ∧ R v w'' ∧ Below w.heap.size w w''
  | _ => False

theorem detR_value {v : Value} {r : Result Next} {w w' : World} (h : r = .ok (.value v) w') (hb : Below w.heap.size w w') : DetR P v w r := by subst h; exact ⟨rfl, hb⟩
theorem detR_call {v : Value} {r : Result Next} {w w' : World} {f : FuncId} {args : Array Value} (h : r = .ok (.enter f args) w') (hc : Calls P f args w' fun e w'' => e = .returned v ∧ Below w.heap.size w w'') : DetR P v w r := by subst h; exact hc
theorem freeR_call {R : Value → World → Prop} {r : Result Next} {w w' : World} {f : FuncId} {args : Array Value} (h : r = .ok (.enter f args) w') (hc : Calls P f args w' fun e w'' => ∃ v, e = .returned v ∧ R v w'' ∧ Below w.heap.size w w'') : FreeR P R w r := by subst h; exact hc

def DetG (P : Program) (ops : Array Oper) (G : World → Prop) (o : Oper) (v : Value) (a : Act) : Prop :=
  (Region.wanted o (yielded ops a.tmps) = true ∧ ∀ w, G w → DetR P v w ((execOp a.eval o).run P w)) ∨ (Region.wanted o (yielded ops a.tmps) = false ∧ v = undef)

theorem DetG.of_same {G : World → Prop} {o : Oper} {v : Value} {a a' : Act} (hy : DetG P ops G o v a) (he : execOp a'.eval o = execOp a.eval o)
    (hw : Region.wanted o (yielded ops a'.tmps) = Region.wanted o (yielded ops a.tmps)) : DetG P ops G o v a' := by
  unfold DetG at *
  rw [he, hw]
  exact hy
theorem DetG.less {G G' : World → Prop} {o : Oper} {v : Value} {a : Act} (hy : DetG P ops G o v a) (h : ∀ x, G' x → G x) : DetG P ops G' o v a :=
  hy.imp (fun ⟨h1, h2⟩ => ⟨h1, fun w hw => h2 w (h w hw)⟩) id

theorem DetG.wpOp {G : World → Prop} {i : Nat} {o : Oper} {v : Value} {a : Act} (hi : ops[i]? = some o) (hy : DetG P ops G o v a) (hst : Stable G)
    {K : Act → World → Prop} {w : World} (hS : G w) (h : ∀ w', G w' → K (a.put o.dst v) w') : wpOp P ops Q i K a w := by
  unfold Go.wpOp
  simp only [hi]
  rcases hy with ⟨hw, hv⟩ | ⟨hw, rfl⟩
  · simp only [hw, if_true]
    refine .inl ?_
    unfold Oper.wp
    have hd := hv w hS
    generalize (execOp a.eval o).run P w = r at *
    cases r with
    | ok n w' =>
      cases n <;> simp only [DetR] at hd <;> simp only [Oper.upon]
      case value u => obtain ⟨rfl, h1⟩ := hd; exact h w' (hst _ _ hS h1)
      case skip => obtain ⟨rfl, h1⟩ := hd; exact h w' (hst _ _ hS h1)
      case enter f args => exact hd.mono fun e w'' he => by obtain ⟨rfl, h1⟩ := he; exact h w'' (hst _ _ hS h1)
    | halt x w' => simp [DetR] at hd
  · simp only [hw, Bool.false_eq_true, if_false]; exact h w hS

/-- Whatever order is picked from here on, in every world that meets G. -/
def wpAnyW (P : Program) (md : Region.Mode) (ops : Array Oper) (Q : Exit → Act → World → Prop) : Nat → Array Bool → Act → (World → Prop) → Prop
  | 0, listed, a, G => Region.ready md ops listed = [] ∧ ∀ w, G w → Q .normal a w
  | fuel + 1, listed, a, G => (Region.ready md ops listed = [] → ∀ w, G w → Q .normal a w) ∧
    ∀ i ∈ Region.ready md ops listed, ∀ w, G w → wpOp P ops Q i (fun a' w' => ∃ G' : World → Prop, Stable G' ∧ (∀ x, G' x → G x) ∧ G' w' ∧ wpAnyW P md ops Q fuel (listed.setIfInBounds i true) a' G') a w

theorem wpAny_of_w : ∀ (fuel : Nat) (listed : Array Bool) (a : Act) (w : World) (G : World → Prop), wpAnyW P md ops Q fuel listed a G → G w → wpAny P md ops Q fuel listed a w
  | 0, _, _, _, _, h, hS => ⟨h.1, h.2 _ hS⟩
  | fuel + 1, _, _, _, _, h, hS => ⟨fun h0 => h.1 h0 _ hS, fun i hi => wpOp_mono (fun a' w' ⟨G', _, _, h1, h2⟩ => wpAny_of_w fuel _ a' w' G' h2 h1) (h.2 i hi _ hS)⟩

/-- One operation 'oj' apart from 'oi': whether 'oi''s value is already in its temporary makes no difference to it. -/
theorem wpOp_putG {j : Nat} {oi oj : Oper} {v : Value} {G : World → Prop} (hj : ops[j]? = some oj) (hap : oi.apart ops oj = true)
    (hsi : ∀ cs b, oi.op ≠ .select cs b) (hsj : ∀ cs b, oj.op ≠ .select cs b)
    (hQ : ∀ c a w, Q (.panic c) (a.put oi.dst v) w → Q (.panic c) a w) {K : Act → World → Prop} {a : Act} {w : World}
    (hy : DetG P ops G oi v a) (h : wpOp P ops Q j K (a.put oi.dst v) w) :
    wpOp P ops Q j (fun a' w' => DetG P ops G oi v a' ∧ K (a'.put oi.dst v) w') a w := by
  obtain ⟨h1, h2, h3⟩ := Oper.apart_spec hap
  have keep : ∀ (a : Act), DetG P ops G oi v a → ∀ u, DetG P ops G oi v (a.put oj.dst u) := fun a hy u =>
    hy.of_same (execOp_put oi hsi a oj.dst u h3) (wanted_put oi a oj.dst u h3)
  have keepD : ∀ d, DetG P ops G oi v { a with defers := d :: a.defers } := fun d => hy.of_same rfl rfl
  unfold wpOp at *
  simp only [hj] at *
  rw [wanted_put oj a oi.dst v h1] at h
  split
  · rename_i hw
    simp only [hw, if_true] at h
    rcases h with h | ⟨hasks, hlets⟩
    case inr => exact .inr ⟨by unfold Oper.asks at *; rw [execOp_put oj hsj a oi.dst v h1] at hasks; exact hasks, hlets⟩
    refine .inl ?_
    unfold Oper.wp at *
    rw [execOp_put oj hsj a oi.dst v h1] at h
    generalize (execOp a.eval oj).run P w = r at *
    cases r with
    | ok n w' =>
      cases n <;> simp only [Oper.upon] at h ⊢
      case value u => exact ⟨keep a hy u, by rw [← Act.put_comm a v u h2]; exact h⟩
      case skip => exact ⟨keep a hy _, by rw [← Act.put_comm a v undef h2]; exact h⟩
      case defer d =>
        refine ⟨keep _ (keepD d) _, ?_⟩
        rw [← Act.put_comm _ v undef h2, ← Act.put_defers]
        exact h
      case enter f args =>
        refine Calls.mono h fun e w'' he => ?_
        cases e with
        | returned u => exact ⟨keep a hy u, by rw [← Act.put_comm a v u h2]; exact he⟩
        | panicked c => exact hQ _ _ _ he
        | outgrown => exact he
      case row row args => exact Rows.mono h fun u w'' he => ⟨keep a hy u, by rw [← Act.put_comm a v u h2]; exact he⟩
    | halt x w' =>
      cases x <;> simp only [Oper.upon] at h ⊢
      case panic u => exact hQ _ _ _ h
  · rename_i hw
    simp only [hw] at h
    exact ⟨keep a hy _, by rw [← Act.put_comm a v undef h2]; exact h⟩

theorem wpAnyW_first {i : Nat} {oi : Oper} {v : Value} (hi : ops[i]? = some oi) (hsel : ∀ (j : Nat) (o : Oper) cs b, ops[j]? = some o → o.op ≠ .select cs b)
    (hQ : ∀ c a w, Q (.panic c) (a.put oi.dst v) w → Q (.panic c) a w) :
    ∀ (fuel : Nat) (listed : Array Bool) (a : Act) (G : World → Prop), Stable G →
      (∀ j oj, ops[j]? = some oj → j ≠ i → listed.getD j true = false → (∀ e ∈ oj.after, Region.binds md e = true → e.on ≠ i) → oi.apart ops oj = true) →
      i ∈ Region.ready md ops listed → DetG P ops G oi v a →
      wpAnyW P md ops Q fuel (listed.setIfInBounds i true) (a.put oi.dst v) G → wpAnyW P md ops Q (fuel + 1) listed a G := by
  intro fuel
  induction fuel with
  | zero =>
    intro listed a G hst _ hr hy H
    refine ⟨fun h => (by rw [h] at hr; cases hr), fun j hj w hG => ?_⟩
    by_cases hji : j = i
    · subst hji; exact hy.wpOp hi hst hG fun w' hG' => ⟨G, hst, fun _ h => h, hG', H⟩
    · have := ready_mono hj hji
      rw [H.1] at this
      cases this
  | succ fuel ih =>
    intro listed a G hst hfree hr hy H
    refine ⟨fun h => (by rw [h] at hr; cases hr), fun j hj w hG => ?_⟩
    by_cases hji : j = i
    · subst hji; exact hy.wpOp hi hst hG fun w' hG' => ⟨G, hst, fun _ h => h, hG', H⟩
    · have h1 := H.2 j (ready_mono hj hji) w hG
      obtain ⟨hjun, oj, hoj, hall⟩ := mem_ready.1 hj
      have hnot : ∀ e ∈ oj.after, Region.binds md e = true → e.on ≠ i := fun e he hb heq => by
        have h1 := hall e he hb
        have h0 := (mem_ready.1 hr).1
        rw [heq] at h1
        rcases Nat.lt_or_ge i listed.size with h' | h'
        · simp [h'] at h0 h1; rw [h0] at h1; cases h1
        · simp [Array.getElem?_eq_none h'] at h1
      have h2 := wpOp_putG hoj (hfree j oj hoj hji hjun hnot) (fun cs b => hsel i oi cs b hi) (fun cs b => hsel j oj cs b hoj) hQ hy h1
      have hfree' : ∀ k ok, ops[k]? = some ok → k ≠ i → (listed.setIfInBounds j true).getD k true = false →
          (∀ e ∈ ok.after, Region.binds md e = true → e.on ≠ i) → oi.apart ops ok = true := fun k ok hk hki hun hno => by
        refine hfree k ok hk hki ?_ hno
        by_cases hjk : j = k
        · subst hjk; exact hjun
        · rw [getD_set_ne true hjk] at hun; exact hun
      refine wpOp_mono (fun a' w' ⟨hd, G', hst', hle, hG', hn⟩ => ⟨G', hst', hle, hG', ih (listed.setIfInBounds j true) a' G' hst' hfree' (ready_mono hr (Ne.symm hji)) (hd.less hle) ?_⟩) h2
      rw [Array.setIfInBounds_comm _ _ hji]
      exact hn

theorem get_of_drop {l rest : List Oper} {i : Nat} {oi : Oper} (hi : l.drop i = oi :: rest) : l.toArray[i]? = some oi := by
  have h1 : (l.drop i)[0]? = some oi := by rw [hi]; rfl
  rw [List.getElem?_drop] at h1
  simpa using h1

/-- Take number i first. -/
theorem takeW {l rest : List Oper} {i : Nat} {oi : Oper} {v : Value} {fuel : Nat} {listed : Array Bool} {a : Act} {G : World → Prop} (hst : Stable G) (hi : l.drop i = oi :: rest)
    (hs : Region.noSelect l.toArray = true) (hf : Region.free md l.toArray listed i = true) (hr : (Region.ready md l.toArray listed).contains i = true)
    (hQ : ∀ c a w, Q (.panic c) (a.put oi.dst v) w → Q (.panic c) a w) (hy : DetG P l.toArray G oi v a)
    (h : wpAnyW P md l.toArray Q fuel (listed.setIfInBounds i true) (a.put oi.dst v) G) : wpAnyW P md l.toArray Q (fuel + 1) listed a G :=
  wpAnyW_first (get_of_drop hi) (Region.noSelect_spec hs) hQ fuel listed a G hst (Region.free_spec (get_of_drop hi) hf) (by simpa using hr) hy h

/-- Only number i may come up: whatever it hands back is added to what is known. -/
theorem freeW {l rest : List Oper} {i : Nat} {oi : Oper} {fuel : Nat} {listed : Array Bool} {a : Act} {G : World → Prop} (R : Value → World → Prop) (hst : Stable G) (hR : ∀ v, Stable (R v)) (hi : l.drop i = oi :: rest)
    (hr : Region.ready md l.toArray listed = [i]) (hw : Region.wanted oi (yielded l.toArray a.tmps) = true) (hy : ∀ w, G w → FreeR P R w ((execOp a.eval oi).run P w))
    (h : ∀ v, wpAnyW P md l.toArray Q fuel (listed.setIfInBounds i true) (a.put oi.dst v) (fun x => G x ∧ R v x)) : wpAnyW P md l.toArray Q (fuel + 1) listed a G := by
  refine ⟨fun h0 => (by rw [hr] at h0; cases h0), fun j hj w hG => ?_⟩
  rw [hr] at hj
  obtain rfl : j = i := by simpa using hj
  unfold wpOp
  simp only [get_of_drop hi, hw, if_true]
  refine .inl ?_
  unfold Oper.wp
  have hd := hy w hG
  generalize (execOp a.eval oi).run P w = r at *
  cases r with
  | ok n w' =>
    cases n <;> simp only [FreeR] at hd <;> simp only [Oper.upon]
    case value u => exact ⟨_, hst.and (hR u), fun _ hx => hx.1, ⟨hst _ _ hG hd.2, hd.1⟩, h u⟩
    case enter f args => exact hd.mono fun e w'' he => by obtain ⟨u, rfl, h1, h2⟩ := he; exact ⟨_, hst.and (hR u), fun _ hx => hx.1, ⟨hst _ _ hG h2, h1⟩, h u⟩
  | halt x w' => simp [FreeR] at hd

theorem doneW {listed : Array Bool} {a : Act} {G : World → Prop} (hr : Region.ready md ops listed = []) (h : ∀ w, G w → Q .normal a w) : wpAnyW P md ops Q 0 listed a G := ⟨hr, h⟩

theorem regionW (G : World → Prop) {id : Nat} {a : Act} {w : World} (hm : P.follows .mixedOrders = true) (hS : G w.drew)
    (h : wpAnyW P .any ops Q ops.size (Array.replicate ops.size false) a G) : (Code.region id ops true).wp P Q a w :=
  wp_region_any hm (wpAny_of_w _ _ _ _ _ h hS)
end
end Go.Proofs.Ytfppnaknnijobab
