/-
  XDetW once more, where what is known may also turn (an append to memory of one's own): C is what stays throughout, G what is known now.
-/
import Derived.Test.YtmcbbjobjogkmabGreatG1
import Derived.Deep.AppendLies
namespace Go.Proofs.YtmcbbjobjogkmabGreat
open Go.RowKit
set_option linter.unusedVariables false
set_option linter.unusedSimpArgs false

section

variable {P : Program} {ops : Array Oper} {Q : Exit → Act → World → Prop} {md : Region.Mode} {C : World → Prop}

/-- Whatever order is picked from here on, in every world that meets G. -/
def wpAnyC (P : Program) (md : Region.Mode) (ops : Array Oper) (Q : Exit → Act → World → Prop) (C : World → Prop) : Nat → Array Bool → Act → (World → Prop) → Prop
  | 0, listed, a, G => Region.ready md ops listed = [] ∧ ∀ w, G w → Q .normal a w
  | fuel + 1, listed, a, G => (Region.ready md ops listed = [] → ∀ w, G w → Q .normal a w) ∧
    ∀ i ∈ Region.ready md ops listed, ∀ w, G w → wpOp P ops Q i (fun a' w' => ∃ G' : World → Prop, Stable G' ∧ (∀ x, G' x → C x) ∧ G' w' ∧ wpAnyC P md ops Q C fuel (listed.setIfInBounds i true) a' G') a w

theorem wpAny_of_c : ∀ (fuel : Nat) (listed : Array Bool) (a : Act) (w : World) (G : World → Prop), wpAnyC P md ops Q C fuel listed a G → G w → wpAny P md ops Q fuel listed a w
  | 0, _, _, _, _, h, hS => ⟨h.1, h.2 _ hS⟩
  | fuel + 1, _, _, _, _, h, hS => ⟨fun h0 => h.1 h0 _ hS, fun i hi => wpOp_mono (fun a' w' ⟨G', _, _, h1, h2⟩ => wpAny_of_c fuel _ a' w' G' h2 h1) (h.2 i hi _ hS)⟩

theorem wpAnyC_first {i : Nat} {oi : Oper} {v : Value} (hi : ops[i]? = some oi) (hsel : ∀ (j : Nat) (o : Oper) cs b, ops[j]? = some o → o.op ≠ .select cs b)
    (hQ : ∀ c a w, Q (.panic c) (a.put oi.dst v) w → Q (.panic c) a w) :
    ∀ (fuel : Nat) (listed : Array Bool) (a : Act) (G : World → Prop), Stable G → (∀ x, G x → C x) →
      (∀ j oj, ops[j]? = some oj → j ≠ i → listed.getD j true = false → (∀ e ∈ oj.after, Region.binds md e = true → e.on ≠ i) → oi.apart ops oj = true) →
      i ∈ Region.ready md ops listed → DetG P ops C oi v a →
      wpAnyC P md ops Q C fuel (listed.setIfInBounds i true) (a.put oi.dst v) G → wpAnyC P md ops Q C (fuel + 1) listed a G := by
  intro fuel
  induction fuel with
  | zero =>
    intro listed a G hst hGC _ hr hy H
    refine ⟨fun h => (by rw [h] at hr; cases hr), fun j hj w hG => ?_⟩
    by_cases hji : j = i
    · subst hji; exact (hy.less hGC).wpOp hi hst hG fun w' hG' => ⟨G, hst, hGC, hG', H⟩
    · have := ready_mono hj hji
      rw [H.1] at this
      cases this
  | succ fuel ih =>
    intro listed a G hst hGC hfree hr hy H
    refine ⟨fun h => (by rw [h] at hr; cases hr), fun j hj w hG => ?_⟩
    by_cases hji : j = i
    · subst hji; exact (hy.less hGC).wpOp hi hst hG fun w' hG' => ⟨G, hst, hGC, hG', H⟩
    · have h1 := H.2 j (ready_mono hj hji) w hG
      obtain ⟨hjun, oj, hoj, hall⟩ := mem_ready.1 hj
      have hnot : ∀ e ∈ oj.after, Region.binds md e = true → e.on ≠ i := fun e he hb heq => by
        have h1 := hall e he hb
        have h0 := (mem_ready.1 hr).1
        rw [heq] at h1
        rcases Nat.lt_or_ge i listed.size with h' | h'
        · simp [h'] at h0 h1; rw [h0] at h1; cases h1
        · simp [Array.getElem?_eq_none h'] at h1
      have h2 := wpOp_putG hoj (hfree j oj hoj hji hjun hnot) (fun cs b => hsel i oi cs b hi) (fun cs b => hsel j oj cs b hoj) hQ hy h1
      have hfree' : ∀ k ok, ops[k]? = some ok → k ≠ i → (listed.setIfInBounds j true).getD k true = false →
          (∀ e ∈ ok.after, Region.binds md e = true → e.on ≠ i) → oi.apart ops ok = true := fun k ok hk hki hun hno => by
        refine hfree k ok hk hki ?_ hno
        by_cases hjk : j = k
        · subst hjk; exact hjun
        · rw [getD_set_ne true hjk] at hun; exact hun
      refine wpOp_mono (fun a' w' ⟨hd, G', hst', hle, hG', hn⟩ => ⟨G', hst', hle, hG', ih (listed.setIfInBounds j true) a' G' hst' hle hfree' (ready_mono hr (Ne.symm hji)) hd ?_⟩) h2
      rw [Array.setIfInBounds_comm _ _ hji]
      exact hn

/-- Take number i first. -/
theorem takeC {l rest : List Oper} {i : Nat} {oi : Oper} {v : Value} {fuel : Nat} {listed : Array Bool} {a : Act} {G : World → Prop} (hst : Stable G) (hGC : ∀ x, G x → C x) (hi : l.drop i = oi :: rest)
    (hs : Region.noSelect l.toArray = true) (hf : Region.free md l.toArray listed i = true) (hr : (Region.ready md l.toArray listed).contains i = true)
    (hQ : ∀ c a w, Q (.panic c) (a.put oi.dst v) w → Q (.panic c) a w) (hy : DetG P l.toArray C oi v a)
    (h : wpAnyC P md l.toArray Q C fuel (listed.setIfInBounds i true) (a.put oi.dst v) G) : wpAnyC P md l.toArray Q C (fuel + 1) listed a G :=
  wpAnyC_first (get_of_drop hi) (Region.noSelect_spec hs) hQ fuel listed a G hst hGC (Region.free_spec (get_of_drop hi) hf) (by simpa using hr) hy h

/-- Only number i may come up: whatever it hands back is added to what is known. -/
theorem freeC {l rest : List Oper} {i : Nat} {oi : Oper} {fuel : Nat} {listed : Array Bool} {a : Act} {G : World → Prop} (R : Value → World → Prop) (hst : Stable G) (hGC : ∀ x, G x → C x) (hR : ∀ v, Stable (R v)) (hi : l.drop i = oi :: rest)
    (hr : Region.ready md l.toArray listed = [i]) (hw : Region.wanted oi (yielded l.toArray a.tmps) = true) (hy : ∀ w, G w → FreeR P R w ((execOp a.eval oi).run P w))
    (h : ∀ v, wpAnyC P md l.toArray Q C fuel (listed.setIfInBounds i true) (a.put oi.dst v) (fun x => G x ∧ R v x)) : wpAnyC P md l.toArray Q C (fuel + 1) listed a G := by
  refine ⟨fun h0 => (by rw [hr] at h0; cases h0), fun j hj w hG => ?_⟩
  rw [hr] at hj
  obtain rfl : j = i := by simpa using hj
  unfold wpOp
  simp only [get_of_drop hi, hw, if_true]
  refine .inl ?_
  unfold Oper.wp
  have hd := hy w hG
  generalize (execOp a.eval oi).run P w = r at *
  cases r with
  | ok n w' =>
    cases n <;> simp only [FreeR] at hd <;> simp only [Oper.upon]
    case value u => exact ⟨_, hst.and (hR u), fun _ hx => hGC _ hx.1, ⟨hst _ _ hG hd.2, hd.1⟩, h u⟩
    case enter f args => exact hd.mono fun e w'' he => by obtain ⟨u, rfl, h1, h2⟩ := he; exact ⟨_, hst.and (hR u), fun _ hx => hGC _ hx.1, ⟨hst _ _ hG h2, h1⟩, h u⟩
  | halt x w' => simp [FreeR] at hd

/-- Only number i may come up: behind it G2 is known in G's place. -/
theorem turnC {l rest : List Oper} {i : Nat} {oi : Oper} {fuel : Nat} {listed : Array Bool} {a : Act} {G : World → Prop} (G2 : Value → World → Prop) (hst2 : ∀ v, Stable (G2 v)) (hC : ∀ v x, G2 v x → C x) (hi : l.drop i = oi :: rest)
    (hr : Region.ready md l.toArray listed = [i]) (hw : Region.wanted oi (yielded l.toArray a.tmps) = true)
    (hy : ∀ (K : Act → World → Prop) w, G w → (∀ v w', G2 v w' → K (a.put oi.dst v) w') → oi.wp P a w K Q)
    (h : ∀ v, wpAnyC P md l.toArray Q C fuel (listed.setIfInBounds i true) (a.put oi.dst v) (G2 v)) : wpAnyC P md l.toArray Q C (fuel + 1) listed a G := by
  refine ⟨fun h0 => (by rw [hr] at h0; cases h0), fun j hj w hG => ?_⟩
  rw [hr] at hj
  obtain rfl : j = i := by simpa using hj
  unfold wpOp
  simp only [get_of_drop hi, hw, if_true]
  exact .inl (hy _ w hG fun v w' hg => ⟨G2 v, hst2 v, hC v, hg, h v⟩)

theorem doneC {listed : Array Bool} {a : Act} {G : World → Prop} (hr : Region.ready md ops listed = []) (h : ∀ w, G w → Q .normal a w) : wpAnyC P md ops Q C 0 listed a G := ⟨hr, h⟩

theorem regionC (G : World → Prop) {id : Nat} {a : Act} {w : World} (hm : P.follows .mixedOrders = true) (hS : G w.drew)
    (h : wpAnyC P .any ops Q C ops.size (Array.replicate ops.size false) a G) : (Code.region id ops true).wp P Q a w :=
  wp_region_any hm (wpAny_of_c _ _ _ _ _ h hS)

end

/-- What buildSlice hands back: a row of one cell. -/
def OneB (x v : Value) (W : World) : Prop := ∃ b, v = .slice (some ⟨b, 0, none⟩) 1 1 ∧ W.heap[b]? = some (.cells #[x] 3 (0, 0))

theorem stable_oneB (x v : Value) : Stable fun W => OneB x v W := fun _ _ ⟨b, h1, h2⟩ hb => ⟨b, h1, (hb.block b (lt_of_block h2)).trans h2⟩

theorem freeR_one {w : World} {r : Result Next} {x : Value} (h : r = .ok (.value (.slice (some ⟨w.heap.size, 0, none⟩) 1 1)) (w.alloc (.cells #[x] 3))) : FreeR Tryz.prog (OneB x) w r := by
  subst h
  exact ⟨⟨_, rfl, heap_alloc_new w _⟩, (Below.refl _ _).alloc (Nat.le_refl _) _⟩

/-- The row of one's own. -/
def RowK (B : Nat) (v : Value) (xs : List Int) (W : World) : Prop := Ints W B v xs ∧ B ≤ W.heap.size

theorem stable_rowK (B : Nat) (v : Value) (xs : List Int) : Stable fun W => RowK B v xs W := fun _ _ h hb => ⟨h.1.step hb, Nat.le_trans h.2 hb.size⟩

theorem appC {Q : Exit → Act → World → Prop} {md : Region.Mode} {l rest : List Oper} {i : Nat} {oi : Oper} {fuel : Nat} {listed : Array Bool} {a : Act} {w : World} {fs : List (Nat × Nat × Value)} {B : Nat} {v u : Value} {xs : List Int} {x : Int} (s y : Operand)
    (hi : l.drop i = oi :: rest) (hr : Region.ready md l.toArray listed = [i]) (hw : Region.wanted oi (yielded l.toArray a.tmps) = true)
    (ho : oi.op = .call { callee := .builtin .append, args := #[s, y], argTypes := #[27, 27] }) (hs : a.eval s = v) (hy : a.eval y = u) (hBs : Bs B fs) (hwB : w.heap.size ≤ B) (hlen : xs.length ≤ 1000000)
    (h : ∀ v', wpAnyC Tryz.prog md l.toArray Q (fun W => Held w W fs) fuel (listed.setIfInBounds i true) (a.put oi.dst v') (fun W => Held w W fs ∧ RowK B v' (xs ++ [x]) W)) :
    wpAnyC Tryz.prog md l.toArray Q (fun W => Held w W fs) (fuel + 1) listed a (fun W => (Held w W fs ∧ RowK B v xs W) ∧ OneB (.int .i64 x) u W) := by
  obtain ⟨i0, hi0, hz0, hz1, hz2⟩ := info_parts infoInt
  refine turnC (fun v' W => Held w W fs ∧ RowK B v' (xs ++ [x]) W) (fun v' => Stable.and (Stable.held _ _) (stable_rowK _ _ _)) (fun _ _ h => h.1) hi hr hw (fun K W hG hK => ?_) h
  obtain ⟨⟨hH, hI, hB⟩, b, rfl, hb⟩ := hG
  refine wp_append_lies W s y 27 ho B 3 i0 (.int .i64 0) 1 8 Tryz.underlying27 hi0 hz0 hz1 hz2 rfl (by decide) v xs.length (xs.map fun x => .int .i64 x) hs hI ⟨b, 0, none⟩ 1 1 [.int .i64 x] hy rfl (World.news_of_block hb) (by simp [Value.oneCell']) (by omega) (by unfold maxLen; omega) (by omega) hB _ rfl ?_
  intro g cap w' hown hgrow _ hlt
  refine hK _ w' ⟨hH.stepB hBs ((Below.refl B W).grown hgrow hB fun k e => (hI.own k e).1) hwB, Ints.more hown, Nat.le_trans hB hgrow.size⟩
end Go.Proofs.YtmcbbjobjogkmabGreat
