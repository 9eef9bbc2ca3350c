/-
  Several texts in one: a claim has at most 60 files.
-/
import Derived.Test.YtmcbbjobjogkmabGreatG10
import Derived.Test.YtmcbbjobjogkmabGreatG12
import Derived.Test.YtmcbbjobjogkmabGreatG9
import Derived.Test.YtmcbbjobjogkmabGreatBars

namespace Go.Proofs.YtmcbbjobjogkmabGreat
open Go.RowKit
set_option linter.unusedVariables false
set_option linter.unusedSimpArgs false

/-- All faces have colors below n, no two beside each other the same. -/
def Full (M : Nat → Nat → Bool) (N n : Nat) (ys : List Int) : Prop := ys.length = N ∧ ∀ i, i < N → (∃ c : Nat, atZ ys i = c ∧ c < n) ∧ ∀ j, j < N → M i j = true → atZ ys j ≠ atZ ys i

/-- The colors that are given are kept. -/
def Agr (N : Nat) (xs ys : List Int) : Prop := ∀ i, i < N → atZ xs i ≠ -1 → atZ ys i = atZ xs i

/-- What is given is in order. -/
def PrA (M : Nat → Nat → Bool) (N n : Nat) (xs : List Int) : Prop := ∀ i, i < N → atZ xs i ≠ -1 → (∃ c : Nat, atZ xs i = c ∧ c < n) ∧ ∀ j, j < N → M i j = true → atZ xs j ≠ atZ xs i

open Classical in
noncomputable def canB (M : Nat → Nat → Bool) (N n : Nat) (xs : List Int) : Bool := decide (∃ ys, Full M N n ys ∧ Agr N xs ys)

theorem canB_iff {M : Nat → Nat → Bool} {N n : Nat} {xs : List Int} : canB M N n xs = true ↔ ∃ ys, Full M N n ys ∧ Agr N xs ys := by unfold canB; simp

def openC (xs : List Int) : Nat := xs.countP fun x => x == -1

theorem atZ_setI {xs : List Int} {f i : Nat} (hf : f < xs.length) (x : Int) : atZ (xs.set f x) i = if i = f then x else atZ xs i := by
  unfold atZ
  simp only [List.getD_eq_getElem?_getD, List.getElem?_set]
  by_cases e : i = f
  · subst e; simp [hf]
  · rw [if_neg (fun h => e h.symm), if_neg e]

theorem openC_none {xs : List Int} (h : openC xs = 0) {i : Nat} (hi : i < xs.length) : atZ xs i ≠ -1 := by
  unfold openC at h
  rw [List.countP_eq_zero] at h
  have := h xs[i] (List.getElem_mem hi)
  rw [atZ_get hi] at this
  simpa using this

theorem openC_some {xs : List Int} {f : Nat} (hf : f < xs.length) (ho : atZ xs f = -1) {x : Int} (hx : x ≠ -1) : openC xs = openC (xs.set f x) + 1 := by
  unfold openC
  have h1 : xs = xs.take f ++ atZ xs f :: xs.drop (f + 1) := by
    rw [← atZ_get hf, ← List.drop_eq_getElem_cons hf, List.take_append_drop]
  have h2 : xs.set f x = xs.take f ++ x :: xs.drop (f + 1) := List.set_eq_take_append_cons_drop.trans (by rw [if_pos hf])
  rw [h2]
  conv => lhs; rw [h1]
  rw [List.countP_append, List.countP_append, List.countP_cons, List.countP_cons, ho]
  simp [hx]
  omega

theorem open_ex {xs : List Int} (h : openC xs ≠ 0) : ∃ i, i < xs.length ∧ atZ xs i = -1 := by
  unfold openC at h
  have : 0 < xs.countP fun x => x == -1 := by omega
  rw [List.countP_pos_iff] at this
  obtain ⟨a, ha, he⟩ := this
  obtain ⟨i, hi, rfl⟩ := List.getElem_of_mem ha
  exact ⟨i, hi, by rw [← atZ_get hi]; simpa using he⟩

theorem can_none {M : Nat → Nat → Bool} {N n : Nat} {xs : List Int} (hl : xs.length = N) (h : ∀ i, i < N → atZ xs i ≠ -1) (hp : PrA M N n xs) : canB M N n xs = true := canB_iff.2 ⟨xs, ⟨hl, fun i hi => hp i hi (h i hi)⟩, fun i hi _ => rfl⟩

theorem freeJ_iff {M : Nat → Nat → Bool} {N f c : Nat} {xs : List Int} : freeJ (rowM M N f) xs c = true ↔ ∀ h, h < N → M f h = true → atZ xs h ≠ (c : Int) := by
  unfold freeJ rowM
  rw [List.all_eq_true]
  constructor
  · intro h j hj hm e
    have := h (j : Int) ((fltN_mem _ _ _).2 ⟨j, rfl, hj, hm⟩)
    simp at this
    exact this e
  · intro h x hx
    obtain ⟨q, rfl, hq, hm⟩ := (fltN_mem _ _ _).1 hx
    have := h q hq hm
    simpa using this

section

variable {M : Nat → Nat → Bool} {N n f : Nat} {xs : List Int}

theorem can_of_set (hl : xs.length = N) (hf : f < N) (ho : atZ xs f = -1) {c : Nat} (h : canB M N n (xs.set f c) = true) : canB M N n xs = true := by
  obtain ⟨ys, h1, h2⟩ := canB_iff.1 h
  refine canB_iff.2 ⟨ys, h1, fun i hi hne => ?_⟩
  have hif : i ≠ f := fun e => hne (by rw [e]; exact ho)
  have := h2 i hi (by rw [atZ_setI (by omega), if_neg hif]; exact hne)
  rwa [atZ_setI (by omega), if_neg hif] at this

/-- Who fills all, gives f a color that is free, and goes on from there. -/
theorem can_next (hl : xs.length = N) (hf : f < N) {ys : List Int} (h1 : Full M N n ys) (h2 : Agr N xs ys) : ∃ c : Nat, atZ ys f = c ∧ c < n ∧ freeJ (rowM M N f) xs c = true ∧ canB M N n (xs.set f c) = true := by
  obtain ⟨⟨c, hc, hcn⟩, hd⟩ := h1.2 f hf
  refine ⟨c, hc, hcn, freeJ_iff.2 fun h hh hm e => ?_, canB_iff.2 ⟨ys, h1, fun i hi hne => ?_⟩⟩
  · have := h2 h hh (by rw [e]; omega)
    exact hd h hh hm (by rw [this, e, hc])
  · rw [atZ_setI (by omega)] at hne ⊢
    by_cases e : i = f
    · rw [if_pos e, e, hc]
    · rw [if_neg e] at hne ⊢
      exact h2 i hi hne

theorem can_step (hl : xs.length = N) (hf : f < N) (ho : atZ xs f = -1) : canB M N n xs = true ↔ ∃ c : Nat, c < n ∧ freeJ (rowM M N f) xs c = true ∧ canB M N n (xs.set f c) = true := by
  constructor
  · intro h
    obtain ⟨ys, h1, h2⟩ := canB_iff.1 h
    obtain ⟨c, _, h3, h4, h5⟩ := can_next hl hf h1 h2
    exact ⟨c, h3, h4, h5⟩
  · rintro ⟨c, _, _, h⟩
    exact can_of_set hl hf ho h

theorem PrA.set_ (hsym : ∀ i j, M i j = M j i) (hirr : ∀ i, M i i = false) (hl : xs.length = N) (h : PrA M N n xs) (hf : f < N) {c : Nat} (hc : c < n) (hfr : freeJ (rowM M N f) xs c = true) : PrA M N n (xs.set f c) := by
  intro i hi hne
  rw [atZ_setI (by omega)] at hne ⊢
  have hfr2 := freeJ_iff.1 hfr
  by_cases e : i = f
  · rw [if_pos e]
    refine ⟨⟨c, rfl, hc⟩, fun j hj hm => ?_⟩
    rw [atZ_setI (by omega)]
    by_cases e2 : j = f
    · rw [e, e2, hirr] at hm; cases hm
    · rw [if_neg e2]
      exact hfr2 j hj (by rw [← e]; exact hm)
  · rw [if_neg e] at hne ⊢
    refine ⟨(h i hi hne).1, fun j hj hm => ?_⟩
    rw [atZ_setI (by omega)]
    by_cases e2 : j = f
    · rw [if_pos e2]
      exact fun e3 => hfr2 i hi (by rw [hsym, ← e2]; exact hm) e3.symm
    · rw [if_neg e2]
      exact (h i hi hne).2 j hj hm

end

/-- Each open face, in order, gets the least color with which the others can be filled. -/
noncomputable def finC (M : Nat → Nat → Bool) (N n : Nat) (xs : List Int) (f : Nat) : Int := firstI (fun c => freeJ (rowM M N f) xs c && canB M N n (xs.set f (c : Int))) n

noncomputable def finK (M : Nat → Nat → Bool) (N n : Nat) (xs : List Int) : Nat → List Int
  | 0 => xs
  | k + 1 => if atZ (finK M N n xs k) k = -1 then (finK M N n xs k).set k (finC M N n (finK M N n xs k) k) else finK M N n xs k

section

variable {M : Nat → Nat → Bool} {N n : Nat} {xs : List Int}

theorem finK_set {k : Nat} (h : atZ (finK M N n xs k) k = -1) : finK M N n xs (k + 1) = (finK M N n xs k).set k (finC M N n (finK M N n xs k) k) := if_pos h

theorem finK_keep {k : Nat} (h : atZ (finK M N n xs k) k ≠ -1) : finK M N n xs (k + 1) = finK M N n xs k := if_neg h

theorem finK_len : ∀ k, (finK M N n xs k).length = xs.length
  | 0 => rfl
  | k + 1 => by
    by_cases h : atZ (finK M N n xs k) k = -1
    · rw [finK_set h, List.length_set, finK_len k]
    · rw [finK_keep h, finK_len k]

theorem finC_is {f : Nat} (hl : xs.length = N) (hf : f < N) (ho : atZ xs f = -1) (h : canB M N n xs = true) : ∃ c : Nat, finC M N n xs f = c ∧ c < n ∧ freeJ (rowM M N f) xs c = true ∧ canB M N n (xs.set f (c : Int)) = true ∧ ∀ j, j < c → (freeJ (rowM M N f) xs j && canB M N n (xs.set f (j : Int))) = false := by
  unfold finC
  rcases firstI_cases (fun c => freeJ (rowM M N f) xs c && canB M N n (xs.set f (c : Int))) n with ⟨_, h2⟩ | ⟨m, h1, h2, h3, h4⟩
  · obtain ⟨c, hc, h5, h6⟩ := (can_step hl hf ho).1 h
    have := h2 c hc
    simp only [h5, h6] at this
    cases this
  · simp only [Bool.and_eq_true] at h3
    exact ⟨m, h1, h2, h3.1, h3.2, h4⟩

structure FinI (M : Nat → Nat → Bool) (N n : Nat) (xs : List Int) (k : Nat) : Prop where
  can : canB M N n (finK M N n xs k) = true
  prA : PrA M N n (finK M N n xs k)
  done : ∀ i, i < k → atZ (finK M N n xs k) i ≠ -1
  rest : ∀ i, (k ≤ i ∨ atZ xs i ≠ -1) → atZ (finK M N n xs k) i = atZ xs i

theorem finI (hsym : ∀ i j, M i j = M j i) (hirr : ∀ i, M i i = false) (hl : xs.length = N) (hc : canB M N n xs = true) (hp : PrA M N n xs) : ∀ k, k ≤ N → FinI M N n xs k
  | 0, _ => ⟨hc, hp, fun i hi => by omega, fun i _ => rfl⟩
  | k + 1, hk => by
    obtain ⟨h1, h2, h3, h4⟩ := finI hsym hirr hl hc hp k (by omega)
    have hlk : (finK M N n xs k).length = N := by rw [finK_len, hl]
    by_cases h : atZ (finK M N n xs k) k = -1
    · obtain ⟨c, hcc, hcn, hfr, hcan, _⟩ := finC_is hlk (by omega) h h1
      have e := finK_set h
      rw [hcc] at e
      refine ⟨by rw [e]; exact hcan, by rw [e]; exact h2.set_ hsym hirr hlk (by omega) hcn hfr, fun i hi => ?_, fun i hi => ?_⟩
      · rw [e, atZ_setI (by omega)]
        by_cases e2 : i = k
        · rw [if_pos e2]; omega
        · rw [if_neg e2]; exact h3 i (by omega)
      · rw [e, atZ_setI (by omega)]
        by_cases e2 : i = k
        · subst e2
          rcases hi with hi | hi
          · omega
          · exact absurd ((h4 i (.inl (Nat.le_refl _))).symm.trans h) hi
        · rw [if_neg e2]
          exact h4 i (hi.imp (fun h => by omega) id)
    · refine ⟨by rw [finK_keep h]; exact h1, by rw [finK_keep h]; exact h2, fun i hi => ?_, fun i hi => ?_⟩
      · rw [finK_keep h]
        by_cases e2 : i = k
        · rw [e2]; exact h
        · exact h3 i (by omega)
      · rw [finK_keep h]
        exact h4 i (hi.imp (fun h => by omega) id)

/-- What has been fixed stays. -/
theorem finK_stay {i : Nat} (hi : i < xs.length) : ∀ d k, i < k → atZ (finK M N n xs (k + d)) i = atZ (finK M N n xs k) i
  | 0, k, h => rfl
  | d + 1, k, h => by
    rw [← finK_stay hi d k h]
    show atZ (finK M N n xs (k + d + 1)) i = _
    by_cases e : atZ (finK M N n xs (k + d)) (k + d) = -1
    · rw [finK_set e]
      by_cases hk : k + d < (finK M N n xs (k + d)).length
      · rw [atZ_setI hk, if_neg (by omega)]
      · rw [List.set_eq_of_length_le (by omega)]
    · rw [finK_keep e]

end

/-- The first of all ways that keep what is given, with a head. -/
def LexM (M : Nat → Nat → Bool) (N n : Nat) (gs L : List Int) (m : Nat) : Prop :=
  Full M N n L ∧ Agr N gs L ∧ ∀ ys, Full M N n ys → Agr N gs ys → (∀ i, i < m → atZ ys i = atZ L i) → ∀ k, k < N → (∀ i, i < k → atZ ys i = atZ L i) → atZ L k ≤ atZ ys k

theorem LexM.unique {M : Nat → Nat → Bool} {N n : Nat} {gs L K : List Int} (hL : LexM M N n gs L 0) (hK : LexM M N n gs K 0) : L = K := by
  have h : ∀ k, k ≤ N → ∀ i, i < k → atZ L i = atZ K i := by
    intro k
    induction k with
    | zero => exact fun _ i hi => by omega
    | succ k ih =>
      intro hk i hi
      have ih := ih (by omega)
      by_cases e : i = k
      · subst e
        have h1 := hL.2.2 K hK.1 hK.2.1 (fun j hj => by omega) i (by omega) fun j hj => (ih j hj).symm
        have h2 := hK.2.2 L hL.1 hL.2.1 (fun j hj => by omega) i (by omega) fun j hj => ih j hj
        omega
      · exact ih i (by omega)
  refine List.ext_getElem (by rw [hL.1.1, hK.1.1]) fun i h1 h2 => ?_
  rw [atZ_get h1, atZ_get h2]
  exact h N (Nat.le_refl _) i (by rw [← hL.1.1]; exact h1)

theorem finK_lex {M : Nat → Nat → Bool} {N n : Nat} {xs : List Int} (hsym : ∀ i j, M i j = M j i) (hirr : ∀ i, M i i = false) (hl : xs.length = N) (hc : canB M N n xs = true) (hp : PrA M N n xs) : LexM M N n xs (finK M N n xs N) 0 := by
  have hN := finI hsym hirr hl hc hp N (Nat.le_refl _)
  refine ⟨⟨by rw [finK_len, hl], fun i hi => hN.prA i hi (hN.done i hi)⟩, fun i hi hne => hN.rest i (.inr hne), fun ys h1 h2 _ k hk hpre => ?_⟩
  have hI := finI hsym hirr hl hc hp k (by omega)
  have hlk : (finK M N n xs k).length = N := by rw [finK_len, hl]
  have hs : atZ (finK M N n xs N) k = atZ (finK M N n xs (k + 1)) k := by
    have := finK_stay (M := M) (N := N) (n := n) (xs := xs) (i := k) (by omega) (N - (k + 1)) (k + 1) (by omega)
    rwa [show k + 1 + (N - (k + 1)) = N by omega] at this
  have hagr : Agr N (finK M N n xs k) ys := fun i hi hne => by
    by_cases e : i < k
    · rw [hpre i e]
      have := finK_stay (M := M) (N := N) (n := n) (xs := xs) (i := i) (by omega) (N - k) k e
      rwa [show k + (N - k) = N by omega] at this
    · rw [hI.rest i (.inl (by omega))] at hne ⊢
      exact h2 i hi hne
  by_cases h : atZ (finK M N n xs k) k = -1
  · obtain ⟨c, hcc, hcn, hfr, hcan, hmin⟩ := finC_is hlk hk h hI.can
    obtain ⟨d, hd, hdn, hfd, hcd⟩ := can_next hlk hk h1 hagr
    rw [hs, finK_set h, atZ_setI (by omega), if_pos rfl, hcc, hd]
    refine Classical.byContradiction fun hlt => ?_
    have := hmin d (by omega)
    rw [hfd, hcd] at this
    cases this
  · rw [hs, finK_keep h, hagr k hk h]
    exact Int.le_refl _

/-- May x stand at place k behind the head? -/
def okx (M : Nat → Nat → Bool) (gs hs : List Int) (k x : Nat) : Bool := (decide (atZ gs k < 0) || decide (atZ gs k = (x : Int))) && freC M hs k x

/-- The first way to go on from a head, d places long. -/
def srch (M : Nat → Nat → Bool) (gs : List Int) (n : Nat) : Nat → List Int → Option (List Int)
  | 0, hs => some hs
  | d + 1, hs => (List.range n).findSome? fun x => if okx M gs hs hs.length x = true then srch M gs n d (hs ++ [(x : Int)]) else none

/-- No color below x at place k leads to an end. -/
def NoB (M : Nat → Nat → Bool) (gs : List Int) (n d : Nat) (hs : List Int) (x : Nat) : Prop := ∀ q, q < x → okx M gs hs hs.length q = true → srch M gs n d (hs ++ [(q : Int)]) = none

theorem NoB.zero (M : Nat → Nat → Bool) (gs : List Int) (n d : Nat) (hs : List Int) : NoB M gs n d hs 0 := fun q hq => by omega

theorem NoB.bad {M : Nat → Nat → Bool} {gs : List Int} {n d x : Nat} {hs : List Int} (h : NoB M gs n d hs x) (hb : okx M gs hs hs.length x = false) : NoB M gs n d hs (x + 1) := fun q hq ho => by
  by_cases e : q = x
  · subst e; rw [hb] at ho; cases ho
  · exact h q (by omega) ho

theorem NoB.none_ {M : Nat → Nat → Bool} {gs : List Int} {n d x : Nat} {hs : List Int} (h : NoB M gs n d hs x) (hb : srch M gs n d (hs ++ [(x : Int)]) = none) : NoB M gs n d hs (x + 1) := fun q hq ho => by
  by_cases e : q = x
  · subst e; exact hb
  · exact h q (by omega) ho

theorem srch_hit {M : Nat → Nat → Bool} {gs : List Int} {n d x : Nat} {hs L : List Int} (h : NoB M gs n d hs x) (hx : x < n) (ho : okx M gs hs hs.length x = true) (hs2 : srch M gs n d (hs ++ [(x : Int)]) = some L) : srch M gs n (d + 1) hs = some L := by
  show (List.range n).findSome? _ = some L
  rw [List.findSome?_eq_some_iff]
  refine ⟨List.range x, x, (List.range (n - x - 1)).map (fun i => x + 1 + i), ?_, ?_, ?_⟩
  · refine List.ext_getElem (by simp; omega) fun i h1 h2 => ?_
    simp [List.getElem_append, List.getElem_cons]
    split <;> omega
  · rw [if_pos ho, hs2]
  · intro q hq
    rw [List.mem_range] at hq
    by_cases e : okx M gs hs hs.length q = true
    · rw [if_pos e]; exact h q hq e
    · rw [if_neg e]

theorem srch_miss {M : Nat → Nat → Bool} {gs : List Int} {n d : Nat} {hs : List Int} (h : NoB M gs n d hs n) : srch M gs n (d + 1) hs = none := by
  show (List.range n).findSome? _ = none
  rw [List.findSome?_eq_none_iff]
  intro q hq
  rw [List.mem_range] at hq
  by_cases e : okx M gs hs hs.length q = true
  · rw [if_pos e]; exact h q hq e
  · rw [if_neg e]

theorem srch_cases {M : Nat → Nat → Bool} {gs : List Int} {n d : Nat} {hs : List Int} : (∃ L x, x < n ∧ NoB M gs n d hs x ∧ okx M gs hs hs.length x = true ∧ srch M gs n d (hs ++ [(x : Int)]) = some L ∧ srch M gs n (d + 1) hs = some L) ∨ (NoB M gs n d hs n ∧ srch M gs n (d + 1) hs = none) := by
  have key : ∀ x, x ≤ n → NoB M gs n d hs x ∨ ∃ L x, x < n ∧ NoB M gs n d hs x ∧ okx M gs hs hs.length x = true ∧ srch M gs n d (hs ++ [(x : Int)]) = some L := by
    intro x
    induction x with
    | zero => exact fun _ => .inl (NoB.zero _ _ _ _ _)
    | succ x ih =>
      intro hx
      rcases ih (by omega) with h | h
      · cases e : okx M gs hs hs.length x
        · exact .inl (h.bad e)
        · cases e2 : srch M gs n d (hs ++ [(x : Int)]) with
          | none => exact .inl (h.none_ e2)
          | some L => exact .inr ⟨L, x, by omega, h, e, e2⟩
      · exact .inr h
  rcases key n (Nat.le_refl _) with h | ⟨L, x, h1, h2, h3, h4⟩
  · exact .inr ⟨h, srch_miss h⟩
  · exact .inl ⟨L, x, h1, h2, h3, h4, srch_hit h2 h1 h3 h4⟩

def FullH (M : Nat → Nat → Bool) (n : Nat) (gs hs : List Int) : Prop := ∀ i, i < hs.length → (∃ c : Nat, atZ hs i = c ∧ c < n) ∧ (atZ gs i ≠ -1 → atZ hs i = atZ gs i) ∧ ∀ j, j < i → M i j = true → atZ hs j ≠ atZ hs i

theorem atZ_new {xs : List Int} {x : Int} : atZ (xs ++ [x]) xs.length = x := by unfold atZ; simp [List.getD]

theorem FullH.snoc {M : Nat → Nat → Bool} {n x : Nat} {gs hs : List Int} (hg : ∀ i, i < gs.length → -1 ≤ atZ gs i) (hk : hs.length < gs.length) (h : FullH M n gs hs) (hx : x < n) (ho : okx M gs hs hs.length x = true) : FullH M n gs (hs ++ [(x : Int)]) := by
  intro i hi
  simp at hi
  unfold okx at ho
  simp only [Bool.and_eq_true, Bool.or_eq_true, decide_eq_true_eq] at ho
  by_cases e : i < hs.length
  · rw [atZ_more e]
    refine ⟨(h i e).1, (h i e).2.1, fun j hj hm => ?_⟩
    rw [atZ_more (by omega)]
    exact (h i e).2.2 j hj hm
  · obtain rfl : i = hs.length := by omega
    rw [atZ_new]
    refine ⟨⟨x, rfl, hx⟩, fun hne => ?_, fun j hj hm => ?_⟩
    · have := hg _ hk
      rcases ho.1 with h1 | h1 <;> omega
    · rw [atZ_more hj]
      exact freC_iff.1 ho.2 j hj hm

theorem srch_is {M : Nat → Nat → Bool} {N n : Nat} {gs : List Int} (hsym : ∀ i j, M i j = M j i) (hirr : ∀ i, M i i = false) (hgl : gs.length = N) (hg : ∀ i, i < N → -1 ≤ atZ gs i) : ∀ d hs, hs.length + d = N → FullH M n gs hs →
    (∀ L, srch M gs n d hs = some L → LexM M N n gs L hs.length ∧ ∀ i, i < hs.length → atZ L i = atZ hs i) ∧ (srch M gs n d hs = none → ∀ ys, Full M N n ys → Agr N gs ys → (∀ i, i < hs.length → atZ ys i = atZ hs i) → False)
  | 0, hs, hl, hF => by
    refine ⟨fun L hL => ?_, fun h => by cases h⟩
    injection hL with hL
    subst hL
    refine ⟨⟨⟨by omega, fun i hi => ⟨(hF i (by omega)).1, fun j hj hm => ?_⟩⟩, fun i hi hne => (hF i (by omega)).2.1 hne, fun ys _ _ hp k hk _ => by rw [hp k (by omega)]; exact Int.le_refl _⟩, fun i _ => rfl⟩
    rcases Nat.lt_trichotomy j i with h1 | h1 | h1
    · exact (hF i (by omega)).2.2 j h1 hm
    · rw [h1, hirr] at hm; cases hm
    · exact fun e => (hF j (by omega)).2.2 i h1 (by rw [hsym]; exact hm) e.symm
  | d + 1, hs, hl, hF => by
    have ih := fun (x : Nat) (hx : x < n) (ho : okx M gs hs hs.length x = true) => srch_is (n := n) hsym hirr hgl hg d (hs ++ [(x : Int)]) (by simp; omega) (hF.snoc (fun i hi => hg i (by omega)) (by omega) hx ho)
    -- whoever goes on from the head has a color at its end that may stand there
    have hcol : ∀ ys, Full M N n ys → Agr N gs ys → (∀ i, i < hs.length → atZ ys i = atZ hs i) → ∃ x : Nat, atZ ys hs.length = x ∧ x < n ∧ okx M gs hs hs.length x = true ∧ ∀ i, i < (hs ++ [(x : Int)]).length → atZ ys i = atZ (hs ++ [(x : Int)]) i := by
      intro ys h1 h2 hp
      obtain ⟨⟨c, hc, hcn⟩, hd⟩ := h1.2 hs.length (by omega)
      refine ⟨c, hc, hcn, ?_, fun i hi => ?_⟩
      · unfold okx
        simp only [Bool.and_eq_true, Bool.or_eq_true, decide_eq_true_eq]
        refine ⟨?_, freC_iff.2 fun i hi hm e => hd i (by omega) hm (by rw [hp i hi, e, hc])⟩
        by_cases e : atZ gs hs.length = -1
        · exact .inl (by omega)
        · exact .inr (by rw [← h2 hs.length (by omega) e, hc])
      · simp at hi
        by_cases e : i < hs.length
        · rw [atZ_more e]; exact hp i e
        · obtain rfl : i = hs.length := by omega
          rw [atZ_new, hc]
    rcases srch_cases (M := M) (gs := gs) (n := n) (d := d) (hs := hs) with ⟨L, x, hx, hno, ho, hL, hR⟩ | ⟨hno, hR⟩
    · refine ⟨fun L2 h2 => ?_, fun h => by rw [hR] at h; cases h⟩
      rw [hR] at h2
      injection h2 with h2
      subst h2
      obtain ⟨⟨i1, i2, i3⟩, i4⟩ := (ih x hx ho).1 _ hL
      refine ⟨⟨i1, i2, fun ys h1 h2 hp k hk hpre => ?_⟩, fun i hi => by rw [i4 i (by simp; omega), atZ_more hi]⟩
      have hLx : atZ L hs.length = x := by rw [i4 hs.length (by simp), atZ_new]
      obtain ⟨y, hy, hyn, hyo, hyp⟩ := hcol ys h1 h2 fun i hi => by rw [hp i hi, i4 i (by simp; omega), atZ_more hi]
      by_cases e : y = x
      · subst e
        refine i3 ys h1 h2 (fun i hi => ?_) k hk hpre
        rw [hyp i hi, i4 i hi]
      · by_cases ek : k < hs.length
        · rw [hp k ek]; exact Int.le_refl _
        · by_cases ek2 : k = hs.length
          · subst ek2
            rw [hLx, hy]
            refine Classical.byContradiction fun hlt => ?_
            exact (ih y hyn hyo).2 (hno y (by omega) hyo) ys h1 h2 hyp
          · have := hpre hs.length (by omega)
            rw [hLx, hy] at this
            omega
    · refine ⟨fun L h => (by rw [hR] at h; cases h), fun _ ys h1 h2 hp => ?_⟩
      obtain ⟨y, hy, hyn, hyo, hyp⟩ := hcol ys h1 h2 hp
      exact (ih y hyn hyo).2 (hno y hyn hyo) ys h1 h2 hyp

/-- The search from the empty head finds what finish fills in. -/
theorem srch_fin {M : Nat → Nat → Bool} {N n : Nat} {gs : List Int} (hsym : ∀ i j, M i j = M j i) (hirr : ∀ i, M i i = false) (hgl : gs.length = N) (hg : ∀ i, i < N → -1 ≤ atZ gs i) (hp : PrA M N n gs) : srch M gs n N [] = if canB M N n gs = true then some (finK M N n gs N) else none := by
  have h := srch_is (n := n) hsym hirr hgl hg N [] (by simp) fun i hi => by simp at hi
  cases e : srch M gs n N [] with
  | none =>
    rw [if_neg]
    intro hc
    obtain ⟨ys, h1, h2⟩ := canB_iff.1 hc
    exact h.2 e ys h1 h2 fun i hi => by simp at hi
  | some L =>
    obtain ⟨h1, -⟩ := h.1 L e
    have hc : canB M N n gs = true := canB_iff.2 ⟨L, h1.1, h1.2.1⟩
    rw [if_pos hc]
    exact congrArg some (LexM.unique h1 (finK_lex hsym hirr hgl hc hp))

/-- Where what is given is not in order, nothing is found. -/
theorem srch_not {M : Nat → Nat → Bool} {N n : Nat} {gs : List Int} (hsym : ∀ i j, M i j = M j i) (hirr : ∀ i, M i i = false) (hgl : gs.length = N) (hg : ∀ i, i < N → -1 ≤ atZ gs i) (hp : canB M N n gs = false) : srch M gs n N [] = none := by
  have h := srch_is (n := n) hsym hirr hgl hg N [] (by simp) fun i hi => by simp at hi
  cases e : srch M gs n N [] with
  | none => rfl
  | some L =>
    obtain ⟨h1, -⟩ := h.1 L e
    rw [canB_iff.2 ⟨L, h1.1, h1.2.1⟩] at hp
    cases hp

theorem can_prA {M : Nat → Nat → Bool} {N n : Nat} {gs : List Int} (hsym : ∀ i j, M i j = M j i) (hirr : ∀ i, M i i = false) (h : canB M N n gs = true) : ∀ i, i < N → atZ gs i ≠ -1 → (∃ c : Nat, atZ gs i = c ∧ c < n) ∧ ∀ j, j < N → M i j = true → atZ gs j ≠ -1 → atZ gs j ≠ atZ gs i := by
  obtain ⟨ys, h1, h2⟩ := canB_iff.1 h
  intro i hi hne
  obtain ⟨⟨c, hc, hcn⟩, hd⟩ := h1.2 i hi
  refine ⟨⟨c, by rw [← h2 i hi hne, hc], hcn⟩, fun j hj hm hne2 => ?_⟩
  rw [← h2 j hj hne2, ← h2 i hi hne]
  exact hd j hj hm
end Go.Proofs.YtmcbbjobjogkmabGreat

namespace Go.Proofs.YtmcbbjobjogkmabGreat
open Go.RowKit
set_option linter.unusedVariables false
set_option linter.unusedSimpArgs false

/-- No face is open, or t is one. -/
def TgtP (xs : List Int) (N k : Nat) (t : Int) : Prop := (t = -1 ∧ ∀ i, i < k → atZ xs i ≠ -1) ∨ ∃ f : Nat, t = f ∧ f < N ∧ atZ xs f = -1

theorem TgtP.skip {xs : List Int} {N k : Nat} {t : Int} (h : TgtP xs N k t) (ho : atZ xs k ≠ -1) : TgtP xs N (k + 1) t := by
  rcases h with ⟨h1, h2⟩ | h
  · refine .inl ⟨h1, fun i hi => ?_⟩
    by_cases e : i = k
    · rw [e]; exact ho
    · exact h2 i (by omega)
  · exact .inr h

set_option maxRecDepth 100000 in
set_option maxHeartbeats 4000000 in
theorem implTight (M : Nat → Nat → Bool) (N n : Nat) (hN : N ≤ 13) (hn : n ≤ 6) (ab ac : Option Addr) (cb cc Z : Nat) (us : List Value) (GR : List (List Int)) (hGN : GR.length = N) (hAT : ∀ k, k < N → atR GR k = rowM M N k) (xs : List Int) (w : World) (hlen : xs.length = N)
    (hc : Cls w Z (.slice ab N cb) (.slice ac N cc) us GR xs) :
    Calls Tryz.prog 79 #[.agg #[.slice ab N cb, .slice ac N cc, .int .i64 n]] w (fun e w' => (∃ t : Int, e = .returned (.int .i64 t) ∧ TgtP xs N N t) ∧ Below w.heap.size w w') := by
  have HC := Lib.hid hc; clear hc
  have HCH := Lib.hid (fun k (hk : k < N) w h1 h2 => implChoices (.slice ab N cb) (.slice ac N cc) us GR xs n k Z Z w h1 h2 (by rw [hGN]; exact hk) (fun j hj => by rw [hAT _ hk] at hj ⊢; rw [hlen]; exact rowM_lt hj) (by omega) (by rw [hAT _ hk]; have := fltN_len (fun h => M k h) N; unfold rowM; omega) (by omega) (by omega))
  have HLN := Lib.hid (fun k => fltN_len (freeJ (atR GR k) xs) n)
  unfold IntsNew chL at HCH
  have HL := Lib.hid hlen; clear hlen
  have H0 := Lib.hid (heldC w (.slice ab N cb) (.slice ac N cc) (.int .i64 n) 65)
  have e0 : IntKind.i64.wrap ((n : Int) + 1) = (n : Int) + 1 := IntWalk.i64_in _ (by omega)
  go_enter Tryz.func79, Tryz.ntmps79
  obtain ⟨x0, x1, x2, _⟩ := H0.out.1
  go_wp2_with fail
  clear x0 x1 x2
  obtain ⟨x0, x1, x2, _⟩ := H0.out.1
  refine regionD (S := fun W => Held _ W [(w.heap.size, 0, .slice ab N cb), (w.heap.size, 1, .slice ac N cc), (w.heap.size, 2, .int .i64 (n))]) (by kernel_rfl) H0.out.drew ?_
  iterate 5 (refine takeT (v := ?_) rfl (by kernel_rfl) (by kernel_rfl) (by kernel_rfl) ?_ ?_; rotate_left; (first | (refine Or.inr ⟨by rfl, ?_⟩; with_reducible rfl) | (refine Or.inl ⟨by rfl, fun W hS => detRes_value (w' := W) ?_ hS⟩; obtain ⟨x0, x1, x2, _⟩ := hS.1; go_simp; first | done | with_reducible rfl) | fail); (simp only [Act.put, List.setIfInBounds_toArray, List.set_cons_zero, List.set_cons_succ]))
  refine doneD (by kernel_rfl) fun wH1 HS => ?_
  have H1 := Lib.hid HS; clear HS
  try clear x0 x1 x2
  obtain ⟨x0, x1, x2, _⟩ := H1.out.1
  go_wp2_with fail
  clear x0 x1 x2
  go_loopw [3, 4, 14] (fun vt vf i wr => ∃ (k : Nat) (t F : Int), k ≤ N ∧ i = .int .i64 k ∧ vt = .int .i64 t ∧ vf = .int .i64 F ∧ TgtP xs N k t ∧ (t = -1 → F = (n : Int) + 1) ∧ 0 ≤ F ∧ F ≤ (n : Int) + 1 ∧ Held w wr [(w.heap.size, 0, .slice ab N cb), (w.heap.size, 1, .slice ac N cc), (w.heap.size, 2, .int .i64 n)]) (fun _ _ i _ => N - (intOf i).toNat)
  case atStart => exact ⟨0, -1, (n : Int) + 1, Nat.zero_le _, rfl, rfl, rfl, .inl ⟨rfl, fun i hi => by omega⟩, fun _ => rfl, by omega, Int.le_refl _, H1.out⟩
  case round =>
    clear H0 H1
    obtain ⟨k, t, F, hk, rfl, rfl, rfl, ht, hf1, hf2, hf3, hh⟩ := hrel
    have HT := Lib.hid ht; clear ht
    have HF := Lib.hid hf1; clear hf1
    have H1 := Lib.hid hh; clear hh
    by_cases hlt : k < N
    · have p1 : (0 : Int) ≤ k := by omega
      have p2 : (k : Int) < (N : Int) := by omega
      have HC1 := Lib.hid (HC.out.step H1.out.below)
      obtain ⟨gc, cc2, hvc⟩ := HC1.out.cols.some_ (by rw [HL.out]; omega)
      rw [HL.out] at hvc
      simp only [Value.slice.injEq] at hvc
      obtain ⟨rfl, -, rfl⟩ := hvc
      obtain ⟨z0, z1, z2, -, -⟩ := HC1.out.cols.at_ (j := k) (by rw [HL.out]; exact hlt)
      obtain ⟨x0, x1, x2, _⟩ := H1.out.1
      by_cases ho : atZ xs k = -1
      · have HO := Lib.hid ho
        rw [ho] at z0
        clear ho
        go_wp2_with fail
        refine (HCH.out k hlt _ HC1.out.rows HC1.out.cols).mono ?_
        rintro e w2 ⟨vL, rfl, hL, hb⟩
        have H2 := Lib.hid (H1.out.step hb)
        obtain ⟨aL, cL, rfl, -⟩ := hL.form
        have hll := HLN.out k
        clear hb hL x0 x1 x2
        generalize (fltN (freeJ (atR GR k) xs) n).length = q at *
        have HN1 := Lib.hid (show TgtP xs N (k + 1) k from .inr ⟨k, rfl, hlt, HO.out⟩)
        by_cases hq : (q : Int) < F
        · go_wp2_with fail
          exact ⟨⟨k + 1, k, q, by omega, by go_num, rfl, rfl, HN1.out, fun e => by omega, by omega, by omega, H2.out⟩, by simp [intOf]; omega⟩
        · have ht1 : t ≠ -1 := fun e => by have := HF.out e; omega
          have HN2 := Lib.hid (show TgtP xs N (k + 1) t from by
            rcases HT.out with ⟨h1, _⟩ | h
            · exact absurd h1 ht1
            · exact .inr h)
          go_wp2_with fail
          exact ⟨⟨k + 1, t, F, by omega, by go_num, rfl, rfl, HN2.out, HF.out, by omega, by omega, H2.out⟩, by simp [intOf]; omega⟩
      · have e1 : (atZ xs k != -1) = true := by simp [ho]
        have e2 : decide (atZ xs k = -1) = false := by simp [ho]
        have HN2 := Lib.hid (HT.out.skip ho)
        clear ho
        generalize atZ xs k = z at *
        go_wp2_with fail
        exact ⟨⟨k + 1, t, F, by omega, by go_num, rfl, rfl, HN2.out, HF.out, by omega, by omega, H1.out⟩, by simp [intOf]; omega⟩
    · obtain rfl : k = N := by omega
      go_wp2_with fail
      go_ret
      exact ⟨⟨t, rfl, HT.out⟩, H1.out.below⟩

/-- What a color that is tried leads to. -/
def TryB (M : Nat → Nat → Bool) (N n f : Nat) (xs L : List Int) (j : Nat) : Prop := ∀ i, i < j → canB M N n (xs.set f (atZ L i)) = false

theorem can_hit {M : Nat → Nat → Bool} {N n f q : Nat} {xs : List Int} (hl : xs.length = N) (hf : f < N) (ho : atZ xs f = -1) (h : canB M N n (xs.set f (q : Int)) = true) : canB M N n xs = true := can_of_set hl hf ho h

theorem can_miss {M : Nat → Nat → Bool} {N n f : Nat} {xs : List Int} (hl : xs.length = N) (hf : f < N) (ho : atZ xs f = -1) (h : TryB M N n f xs (chL (rowM M N f) xs n) (chL (rowM M N f) xs n).length) : canB M N n xs = false := by
  cases e : canB M N n xs
  · rfl
  · obtain ⟨c, hc, hfr, hcan⟩ := (can_step hl hf ho).1 e
    have hm : (c : Int) ∈ chL (rowM M N f) xs n := (fltN_mem _ _ _).2 ⟨c, rfl, hc, hfr⟩
    obtain ⟨i, hi, he⟩ := List.getElem_of_mem hm
    rw [atZ_get hi] at he
    have := h i hi
    rw [he, hcan] at this
    cases this

theorem chL_at {M : Nat → Nat → Bool} {N n f j : Nat} {xs : List Int} (hj : j < (chL (rowM M N f) xs n).length) : ∃ q : Nat, atZ (chL (rowM M N f) xs n) j = q ∧ q < n ∧ freeJ (rowM M N f) xs q = true := by
  obtain ⟨q, h1, h2, h3⟩ := (fltN_mem _ _ _).1 (show atZ (chL (rowM M N f) xs n) j ∈ chL (rowM M N f) xs n from by rw [← atZ_get hj]; exact List.getElem_mem hj)
  exact ⟨q, h1, h2, h3⟩

set_option maxRecDepth 100000 in
set_option maxHeartbeats 8000000 in
theorem implCanS (M : Nat → Nat → Bool) (hsym : ∀ i j, M i j = M j i) (hirr : ∀ i, M i i = false) (N n : Nat) (hN : N ≤ 13) (hn : n ≤ 6) (ab : Option Addr) (gc cb cc Z : Nat) (us : List Value) (GR : List (List Int)) (hGN : GR.length = N) (hAT : ∀ k, k < N → atR GR k = rowM M N k) (xs : List Int) (w : World) (hlen : xs.length = N) (hpa : PrA M N n xs)
    (hc : Cls w Z (.slice ab N cb) (.slice (some ⟨gc, 0, none⟩) N cc) us GR xs)
    (HIH : Hid (∀ (f q : Nat) (w : World), f < N → atZ xs f = -1 → PrA M N n (xs.set f (q : Int)) → Cls w Z (.slice ab N cb) (.slice (some ⟨gc, 0, none⟩) N cc) us GR (xs.set f (q : Int)) → Calls Tryz.prog 61 #[.agg #[.slice ab N cb, .slice (some ⟨gc, 0, none⟩) N cc, .int .i64 n]] w (fun e w' => e = .returned (.bool (canB M N n (xs.set f (q : Int)))) ∧ Cls w' Z (.slice ab N cb) (.slice (some ⟨gc, 0, none⟩) N cc) us GR (xs.set f (q : Int)) ∧ Turn gc (gc + 1) w w'))) :
    Calls Tryz.prog 61 #[.agg #[.slice ab N cb, .slice (some ⟨gc, 0, none⟩) N cc, .int .i64 n]] w (fun e w' => e = .returned (.bool (canB M N n xs)) ∧ Cls w' Z (.slice ab N cb) (.slice (some ⟨gc, 0, none⟩) N cc) us GR xs ∧ Turn gc (gc + 1) w w') := by
  have HTG := Lib.hid (fun w h => implTight M N n hN hn ab (some ⟨gc, 0, none⟩) cb cc Z us GR hGN hAT xs w hlen h)
  have HCH := Lib.hid (fun k (hk : k < N) w h1 h2 => implChoices (.slice ab N cb) (.slice (some ⟨gc, 0, none⟩) N cc) us GR xs n k Z Z w h1 h2 (by rw [hGN]; exact hk) (fun j hj => by rw [hAT _ hk] at hj ⊢; rw [hlen]; exact rowM_lt hj) (by omega) (by rw [hAT _ hk]; have := fltN_len (fun h => M k h) N; unfold rowM; omega) (by omega) (by omega))
  have HCH := Lib.hid (fun k (hk : k < N) w h1 h2 => (show Calls Tryz.prog 62 #[.agg #[.slice ab N cb, .slice (some ⟨gc, 0, none⟩) N cc, .int .i64 n], .int .i64 k] w (IntsNew (chL (rowM M N k) xs n) w) from by rw [← hAT k hk]; exact HCH.out k hk w h1 h2))
  unfold IntsNew at HCH
  have HC := Lib.hid hc; clear hc
  have HNO := Lib.hid (fun h => can_none (M := M) (n := n) hlen h hpa)
  have HHIT := Lib.hid (fun (f q : Nat) hf ho h => can_hit (M := M) (n := n) (q := q) hlen (f := f) hf ho h)
  have HMIS := Lib.hid (fun (f : Nat) hf ho h => can_miss (M := M) (n := n) hlen (f := f) hf ho h)
  have HPA := Lib.hid (fun (f c : Nat) hf hc hfr => hpa.set_ (f := f) (c := c) hsym hirr hlen hf hc hfr)
  have HLNN := Lib.hid (fun f => (show (chL (rowM M N f) xs n).length ≤ 6 from Nat.le_trans (fltN_len _ _) hn))
  have HLAT := Lib.hid (fun f j h => chL_at (M := M) (N := N) (n := n) (f := f) (xs := xs) (j := j) h)
  have HL := Lib.hid hlen; clear hlen hpa
  have H0 := Lib.hid (heldC w (.slice ab N cb) (.slice (some ⟨gc, 0, none⟩) N cc) (.int .i64 n) 65)
  have HTR := Lib.hid (fun f (L : List Int) => (show TryB M N n f xs L 0 from fun i hi => by omega))
  have HTS := Lib.hid (fun f (L : List Int) j (h : TryB M N n f xs L j) (h2 : canB M N n (xs.set f (atZ L j)) = false) => (show TryB M N n f xs L (j + 1) from fun i hi => by
    by_cases e : i = j
    · rw [e]; exact h2
    · exact h i (by omega)))
  go_enter Tryz.func61, Tryz.ntmps61
  obtain ⟨x0, x1, x2, _⟩ := H0.out.1
  go_wp2_with fail
  refine (HTG.out _ (HC.out.step H0.out.below)).mono ?_
  rintro e w1 ⟨⟨t, rfl, htg⟩, hb⟩
  have H1 := Lib.hid (H0.out.step hb)
  clear hb x0 x1 x2 HTG
  rcases htg with ⟨rfl, hall⟩ | ⟨f, rfl, hf, hof⟩
  · have HR := Lib.hid (HNO.out hall)
    go_wp2_with fail
    go_ret
    exact ⟨by rw [HR.out]; rfl, HC.out.step H1.out.below, Turn.of_below H1.out.below⟩
  · have HO := Lib.hid hof; clear hof
    have p1 : (0 : Int) ≤ f := by omega
    have p2 : (f : Int) < (N : Int) := by omega
    obtain ⟨x0, x1, x2, _⟩ := H1.out.1
    go_wp2_with fail
    have HC1 := Lib.hid (HC.out.step H1.out.below)
    refine (HCH.out f hf _ HC1.out.rows HC1.out.cols).mono ?_
    rintro e w2 ⟨vL, rfl, hL, hb⟩
    have H2 := Lib.hid (H1.out.step hb)
    have HC2 := Lib.hid (HC1.out.step hb)
    have hgc := (HC1.out.cols.own gc rfl).2
    have hgw := (HC.out.cols.own gc rfl).2
    obtain ⟨aL, cL, rfl, -⟩ := hL.form
    have HL2 := Lib.hid (hL.mono (b' := gc + 1) (by omega))
    have hs2 := H2.out.2.1.1
    have hll := HLNN.out f
    have HM2 := Lib.hid (HMIS.out f hf HO.out)
    have HA2 := Lib.hid (HLAT.out f)
    clear hb hL x0 x1 x2 H0 H1 HC1 hgc
    generalize chL (rowM M N f) xs n = L at *
    go_wp2_with fail
    go_loopw [15] (fun vi wr => ∃ j : Nat, j ≤ L.length ∧ vi = .int .i64 j ∧ TryB M N n f xs L j ∧ Cls wr Z (.slice ab N cb) (.slice (some ⟨gc, 0, none⟩) N cc) us GR xs ∧ Ints wr (gc + 1) (.slice aL L.length cL) L ∧ Cs wr [(w.heap.size, 0, .slice ab N cb), (w.heap.size, 1, .slice (some ⟨gc, 0, none⟩) N cc), (w.heap.size, 2, .int .i64 n)] ∧ w.heap.size < wr.heap.size ∧ Turn gc (gc + 1) w wr) (fun vi _ => L.length - (intOf vi).toNat)
    case atStart => exact ⟨0, Nat.zero_le _, rfl, HTR.out f L, HC2.out, HL2.out, H2.out.1, hs2, Turn.of_below H2.out.below⟩
    case round =>
      clear HC2 HL2 H2 hs2
      obtain ⟨j, hj, rfl, htr, hcl, hil, hcs, hsz, htt⟩ := hrel
      have HTJ := Lib.hid htr; clear htr
      have HC2 := Lib.hid hcl; clear hcl
      have HLI := Lib.hid hil; clear hil
      have HCS := Lib.hid hcs; clear hcs
      have HT := Lib.hid htt; clear htt
      obtain ⟨x0, x1, x2, -⟩ := HCS.out
      obtain ⟨t0, t1, t2, -, -⟩ := HC2.out.cols.at_ (j := f) (by rw [HL.out]; exact hf)
      by_cases hlt : j < L.length
      · have q1 : (0 : Int) ≤ j := by omega
        have q2 : (j : Int) < (L.length : Int) := by omega
        obtain ⟨q, hq, hqn, hfr⟩ := HA2.out j hlt
        obtain ⟨gl, cl2, hvl⟩ := HLI.out.some_ (by omega)
        simp only [Value.slice.injEq] at hvl
        obtain ⟨rfl, -, rfl⟩ := hvl
        obtain ⟨z0, -, z1, -, -⟩ := HLI.out.at_ hlt
        rw [hq] at z0
        have HTQ := Lib.hid (HTS.out f L j HTJ.out)
        rw [hq] at HTQ
        clear hq
        have HC5 := Lib.hid (HC2.out.setC (k := f) HL.out.symm (q : Int))
        have HCA := Lib.hid (HIH.out f q _ hf HO.out (HPA.out f q hf hqn hfr) HC5.out)
        have HTS1 := Lib.hid (Turn.set (g := gc) (k := f) wr (.int .i64 q))
        have HHQ := Lib.hid (HHIT.out f q hf HO.out)
        have HSET := Lib.hid (show (xs.set f (q : Int)).set f (-1) = xs from by
          rw [List.set_set]
          have hfl : f < xs.length := by rw [HL.out]; exact hf
          have := List.set_getElem_self hfl
          rwa [atZ_get hfl, HO.out] at this)
        have HSL := Lib.hid (show N = (xs.set f (q : Int)).length from by rw [List.length_set, HL.out])
        clear HC5 hqn hfr
        generalize canB M N n (xs.set f (q : Int)) = cb' at *
        generalize xs.set f (q : Int) = ys at *
        cases cb'
        · have HTN := Lib.hid (HTQ.out rfl)
          go_wp2_with fail
          refine HCA.out.mono ?_
          rintro e w6 ⟨rfl, hc6, ht6⟩
          have HT6 := Lib.hid (HTS1.out.trans ht6)
          have HC6 := Lib.hid hc6
          clear hc6 ht6 t0 t1 t2 x0 x1 x2
          obtain ⟨t0, t1, t2, -, -⟩ := HC6.out.cols.at_ (j := f) (by rw [← HSL.out]; exact hf)
          have HCS6 := Lib.hid (show Cs w6 [(w.heap.size, 0, .slice ab N cb), (w.heap.size, 1, .slice (some ⟨gc, 0, none⟩) N cc), (w.heap.size, 2, .int .i64 n)] from HCS.out.turn HT6.out ⟨.inr (by omega), .inr (by omega), .inr (by omega), trivial⟩ ⟨hsz, hsz, hsz, trivial⟩)
          obtain ⟨x0, x1, x2, -⟩ := HCS6.out
          have HC7 := Lib.hid (HC6.out.setC (k := f) HSL.out (-1))
          rw [HSET.out] at HC7
          have HT7 := Lib.hid (HT6.out.trans (Turn.set (g := gc) (k := f) w6 (.int .i64 (-1))))
          go_wp2_with fail
          exact ⟨⟨j + 1, by omega, by go_num, HTN.out, HC7.out, HLI.out.turn HT7.out (fun b e => .inr (HLI.out.own b e).1), HCS.out.turn HT7.out ⟨.inr (by omega), .inr (by omega), .inr (by omega), trivial⟩ ⟨hsz, hsz, hsz, trivial⟩, Nat.lt_of_lt_of_le hsz HT7.out.size, HT.out.trans HT7.out⟩, by simp [intOf]; omega⟩
        · have HRT := Lib.hid (HHQ.out rfl)
          go_wp2_with fail
          refine HCA.out.mono ?_
          rintro e w6 ⟨rfl, hc6, ht6⟩
          have HT6 := Lib.hid (HTS1.out.trans ht6)
          have HC6 := Lib.hid hc6
          clear hc6 ht6 t0 t1 t2 x0 x1 x2
          obtain ⟨t0, t1, t2, -, -⟩ := HC6.out.cols.at_ (j := f) (by rw [← HSL.out]; exact hf)
          have HCS6 := Lib.hid (show Cs w6 [(w.heap.size, 0, .slice ab N cb), (w.heap.size, 1, .slice (some ⟨gc, 0, none⟩) N cc), (w.heap.size, 2, .int .i64 n)] from HCS.out.turn HT6.out ⟨.inr (by omega), .inr (by omega), .inr (by omega), trivial⟩ ⟨hsz, hsz, hsz, trivial⟩)
          obtain ⟨x0, x1, x2, -⟩ := HCS6.out
          have HC7 := Lib.hid (HC6.out.setC (k := f) HSL.out (-1))
          rw [HSET.out] at HC7
          have HT7 := Lib.hid (HT6.out.trans (Turn.set (g := gc) (k := f) w6 (.int .i64 (-1))))
          go_wp2_with fail
          go_ret
          exact ⟨by rw [HRT.out]; rfl, HC7.out, HT.out.trans HT7.out⟩
      · obtain rfl : j = L.length := by omega
        have HRF := Lib.hid (HM2.out HTJ.out)
        go_wp2_with fail
        go_ret
        exact ⟨by rw [HRF.out]; rfl, HC2.out, HT.out⟩

theorem implCanA (M : Nat → Nat → Bool) (hsym : ∀ i j, M i j = M j i) (hirr : ∀ i, M i i = false) (N n : Nat) (hN : N ≤ 13) (hn : n ≤ 6) (ab : Option Addr) (gc cb cc Z : Nat) (us : List Value) (GR : List (List Int)) (hGN : GR.length = N) (hAT : ∀ k, k < N → atR GR k = rowM M N k) (d : Nat) : ∀ (xs : List Int) (w : World), openC xs ≤ d → xs.length = N → PrA M N n xs → Cls w Z (.slice ab N cb) (.slice (some ⟨gc, 0, none⟩) N cc) us GR xs →
    Calls Tryz.prog 61 #[.agg #[.slice ab N cb, .slice (some ⟨gc, 0, none⟩) N cc, .int .i64 n]] w (fun e w' => e = .returned (.bool (canB M N n xs)) ∧ Cls w' Z (.slice ab N cb) (.slice (some ⟨gc, 0, none⟩) N cc) us GR xs ∧ Turn gc (gc + 1) w w') := by
  induction d with
  | zero => exact fun xs w ho hl hp hc => implCanS M hsym hirr N n hN hn ab gc cb cc Z us GR hGN hAT xs w hl hp hc (Lib.hid fun f q w hf hof _ _ => absurd hof (openC_none (by omega) (by omega)))
  | succ d ih => exact fun xs w ho hl hp hc => implCanS M hsym hirr N n hN hn ab gc cb cc Z us GR hGN hAT xs w hl hp hc (Lib.hid fun f q w hf hof h1 h2 => ih (xs.set f (q : Int)) w (by have := openC_some (x := (q : Int)) (show f < xs.length by omega) hof (by omega); omega) (by rw [List.length_set]; exact hl) h1 h2)

theorem openC_le (xs : List Int) : openC xs ≤ xs.length := List.countP_le_length

theorem least_asc {p : Nat → Bool} {n j q : Nat} (hj : j < (fltN p n).length) (hq : atZ (fltN p n) j = q) : ∀ i, i < q → p i = true → ∃ j', j' < j ∧ atZ (fltN p n) j' = i := by
  intro i hi hp
  have hqn : q < n := by
    obtain ⟨q', h1, h2, _⟩ := (fltN_mem _ _ _).1 (show atZ (fltN p n) j ∈ fltN p n from by rw [← atZ_get hj]; exact List.getElem_mem hj)
    omega
  have hm : (i : Int) ∈ fltN p n := (fltN_mem _ _ _).2 ⟨i, rfl, by omega, hp⟩
  obtain ⟨j', hj', he⟩ := List.getElem_of_mem hm
  rw [atZ_get hj'] at he
  refine ⟨j', ?_, he⟩
  rcases Nat.lt_trichotomy j' j with h | h | h
  · exact h
  · rw [h, hq] at he; omega
  · have := List.pairwise_iff_getElem.1 (fltN_asc p n) j j' hj hj' h
    rw [atZ_get hj, atZ_get hj', hq, he] at this
    omega

theorem finC_hit {M : Nat → Nat → Bool} {N n f j q : Nat} {xs : List Int} (hj : j < (chL (rowM M N f) xs n).length) (hq : atZ (chL (rowM M N f) xs n) j = q) (ht : TryB M N n f xs (chL (rowM M N f) xs n) j) (hc : canB M N n (xs.set f (q : Int)) = true) : finC M N n xs f = q := by
  obtain ⟨q', h1, h2, h3⟩ := chL_at hj
  obtain rfl : q = q' := by omega
  unfold finC
  refine firstI_at (fun i hi => ?_) (by simp [h3, hc]) n h2
  cases hfr : freeJ (rowM M N f) xs i
  · rfl
  · obtain ⟨j', hj', he⟩ := least_asc (p := freeJ (rowM M N f) xs) hj hq i hi hfr
    have := ht j' hj'
    rw [show atZ (chL (rowM M N f) xs n) j' = (i : Int) from he] at this
    rw [this]
    rfl

/-- What finish hands back. -/
noncomputable def finR (M : Nat → Nat → Bool) (N n : Nat) (xs : List Int) : List Int := if canB M N n xs = true then finK M N n xs N else []

theorem finR_yes {M : Nat → Nat → Bool} {N n : Nat} {xs : List Int} (h : canB M N n xs = true) : finR M N n xs = finK M N n xs N := if_pos h

theorem finR_no {M : Nat → Nat → Bool} {N n : Nat} {xs : List Int} (h : canB M N n xs = false) : finR M N n xs = [] := if_neg (by rw [h]; simp)

set_option maxRecDepth 100000 in
set_option maxHeartbeats 8000000 in
theorem implFinish (M : Nat → Nat → Bool) (hsym : ∀ i j, M i j = M j i) (hirr : ∀ i, M i i = false) (N n : Nat) (hN : N ≤ 13) (hn : n ≤ 6) (ab : Option Addr) (gc cb cc Z : Nat) (us : List Value) (GR : List (List Int)) (hGN : GR.length = N) (hAT : ∀ k, k < N → atR GR k = rowM M N k) (xs : List Int) (w : World) (hlen : xs.length = N) (hpa : PrA M N n xs)
    (hc : Cls w Z (.slice ab N cb) (.slice (some ⟨gc, 0, none⟩) N cc) us GR xs) :
    Calls Tryz.prog 37 #[.agg #[.slice ab N cb, .slice (some ⟨gc, 0, none⟩) N cc, .int .i64 n]] w (fun e w' => (∃ v, e = .returned (.tuple #[v, .bool (canB M N n xs)]) ∧ Ints w' Z v (finR M N n xs)) ∧ Turn gc (gc + 1) w w') := by
  have HCN := Lib.hid (fun ys w h1 h2 h3 => implCanA M hsym hirr N n hN hn ab gc cb cc Z us GR hGN hAT N ys w (by rw [← h1]; exact openC_le ys) h1 h2 h3)
  have HCH := Lib.hid (fun (ys : List Int) (hy : ys.length = N) k (hk : k < N) w h1 h2 => implChoices (.slice ab N cb) (.slice (some ⟨gc, 0, none⟩) N cc) us GR ys n k Z Z w h1 h2 (by rw [hGN]; exact hk) (fun j hj => by rw [hAT _ hk] at hj ⊢; rw [hy]; exact rowM_lt hj) (by omega) (by rw [hAT _ hk]; have := fltN_len (fun h => M k h) N; unfold rowM; omega) (by omega) (by omega))
  have HCH := Lib.hid (fun (ys : List Int) (hy : ys.length = N) k (hk : k < N) w (h1 : FaceV w Z (.slice ab N cb) us GR) (h2 : Ints w Z (.slice (some ⟨gc, 0, none⟩) ys.length cc) ys) => (show Calls Tryz.prog 62 #[.agg #[.slice ab N cb, .slice (some ⟨gc, 0, none⟩) N cc, .int .i64 n], .int .i64 k] w (IntsNew (chL (rowM M N k) ys n) w) from by rw [← hAT k hk]; exact HCH.out ys hy k hk w h1 (by rw [hy] at h2; exact h2)))
  unfold IntsNew at HCH
  have HC := Lib.hid hc; clear hc
  have HFI := Lib.hid (fun h => finI (n := n) hsym hirr hlen h hpa)
  have HLK := Lib.hid (fun k => (show (finK M N n xs k).length = N from by rw [finK_len, hlen]))
  have HLNN := Lib.hid (fun (ys : List Int) f => (show (chL (rowM M N f) ys n).length ≤ 6 from Nat.le_trans (fltN_len _ _) hn))
  have HLAT := Lib.hid (fun (ys : List Int) f j h => chL_at (M := M) (N := N) (n := n) (f := f) (xs := ys) (j := j) h)
  have H0 := Lib.hid (heldC w (.slice ab N cb) (.slice (some ⟨gc, 0, none⟩) N cc) (.int .i64 n) 65)
  have HTR := Lib.hid (fun (ys : List Int) f (L : List Int) => (show TryB M N n f ys L 0 from fun i hi => by omega))
  have HTS := Lib.hid (fun (ys : List Int) f (L : List Int) j (h : TryB M N n f ys L j) (h2 : canB M N n (ys.set f (atZ L j)) = false) => (show TryB M N n f ys L (j + 1) from fun i hi => by
    by_cases e : i = j
    · rw [e]; exact h2
    · exact h i (by omega)))
  have HFZ := Lib.hid (show finK M N n xs 0 = xs from rfl)
  have hgw := (HC.out.cols.own gc rfl).2
  have HX := Lib.hid (HCN.out xs w hlen hpa)
  go_enter Tryz.func37, Tryz.ntmps37
  obtain ⟨x0, x1, x2, _⟩ := H0.out.1
  go_wp2_with fail
  have HX0 := Lib.hid (HCN.out xs _ hlen hpa (HC.out.step H0.out.below))
  cases hcan : canB M N n xs
  · rw [hcan] at HX0
    refine HX0.out.mono ?_
    rintro e w1 ⟨rfl, hc1, ht1⟩
    have HT1 := Lib.hid ((Turn.of_below (Lo := gc) (Hi := gc + 1) H0.out.below).trans ht1)
    go_wp2_with fail
    exact bodyPost_ret (v := .tuple #[.slice none 0 0, .bool false]) (by simp [results, Tryz.results37, go_sem]) rfl ⟨⟨_, by rw [hcan], by rw [finR_no hcan]; exact Ints.nil _ _⟩, HT1.out⟩
  · rw [hcan] at HX0
    refine HX0.out.mono ?_
    rintro e w1 ⟨rfl, hc1, ht1⟩
    have HT1 := Lib.hid ((Turn.of_below (Lo := gc) (Hi := gc + 1) H0.out.below).trans ht1)
    have HC1 := Lib.hid hc1
    have hs0 := H0.out.2.1.1
    have HCS1 := Lib.hid (show Cs w1 [(w.heap.size, 0, .slice ab N cb), (w.heap.size, 1, .slice (some ⟨gc, 0, none⟩) N cc), (w.heap.size, 2, .int .i64 n)] from H0.out.1.turn ht1 ⟨.inr (by omega), .inr (by omega), .inr (by omega), trivial⟩ ⟨hs0, hs0, hs0, trivial⟩)
    have hs1 := Nat.lt_of_lt_of_le hs0 ht1.size
    have HFC := Lib.hid (HFI.out hcan)
    clear hc1 ht1 x0 x1 x2 H0 HX HX0 hs0
    obtain ⟨x0, x1, x2, -⟩ := HCS1.out
    go_wp2_with fail
    go_loopw [13] (fun vi wr => ∃ k : Nat, k ≤ N ∧ vi = .int .i64 k ∧ Cls wr Z (.slice ab N cb) (.slice (some ⟨gc, 0, none⟩) N cc) us GR (finK M N n xs k) ∧ Cs wr [(w.heap.size, 0, .slice ab N cb), (w.heap.size, 1, .slice (some ⟨gc, 0, none⟩) N cc), (w.heap.size, 2, .int .i64 n)] ∧ w.heap.size < wr.heap.size ∧ Turn gc (gc + 1) w wr) (fun vi _ => N - (intOf vi).toNat)
    case atStart => exact ⟨0, Nat.zero_le _, rfl, by rw [HFZ.out]; exact HC1.out, HCS1.out, hs1, HT1.out⟩
    case round =>
      clear HC1 HCS1 HT1 x0 x1 x2
      obtain ⟨k, hk, rfl, hcl, hcs, hsz, htt⟩ := hrel
      have HC2 := Lib.hid hcl; clear hcl
      have HCS := Lib.hid hcs; clear hcs
      have HT := Lib.hid htt; clear htt
      obtain ⟨x0, x1, x2, -⟩ := HCS.out
      by_cases hlt : k < N
      · have HFK := Lib.hid (HFC.out k hk)
        have p1 : (0 : Int) ≤ k := by omega
        have p2 : (k : Int) < (N : Int) := by omega
        have HLk := Lib.hid (HLK.out k)
        obtain ⟨t0, t1, t2, -, -⟩ := HC2.out.cols.at_ (j := k) (by rw [HLk.out]; exact hlt)
        have HKS := Lib.hid (fun h => finK_set (M := M) (N := N) (n := n) (xs := xs) (k := k) h)
        have HKK := Lib.hid (fun h => finK_keep (M := M) (N := N) (n := n) (xs := xs) (k := k) h)
        have HHIT := Lib.hid (fun j q hj hq ht hc => finC_hit (M := M) (N := N) (n := n) (f := k) (j := j) (q := q) (xs := finK M N n xs k) hj hq ht hc)
        have HMIS := Lib.hid (fun ho h => can_miss (M := M) (n := n) (xs := finK M N n xs k) HLk.out (f := k) hlt ho h)
        have HPA := Lib.hid (fun (c : Nat) hc hfr => HFK.out.prA.set_ (f := k) (c := c) hsym hirr HLk.out hlt hc hfr)
        have HCANK := Lib.hid (HFK.out.can)
        generalize finK M N n xs k = K0 at *
        by_cases ho : atZ K0 k = -1
        · have HO := Lib.hid ho
          rw [ho] at t0
          have HK1 := Lib.hid (HKS.out ho)
          clear ho
          go_wp2_with fail
          refine (HCH.out K0 HLk.out k hlt _ HC2.out.rows (by rw [HLk.out]; exact HC2.out.cols)).mono ?_
          rintro e w2 ⟨vL, rfl, hL, hb⟩
          have HC3 := Lib.hid (HC2.out.step hb)
          have hgc := (HC2.out.cols.own gc rfl).2
          obtain ⟨aL, cL, rfl, -⟩ := hL.form
          have HL2 := Lib.hid (hL.mono (b' := gc + 1) (by omega))
          have HCS2 := Lib.hid (show Cs w2 [(w.heap.size, 0, .slice ab N cb), (w.heap.size, 1, .slice (some ⟨gc, 0, none⟩) N cc), (w.heap.size, 2, .int .i64 n)] from HCS.out.turn (Turn.of_below (Lo := gc) (Hi := gc + 1) hb) ⟨.inr (by omega), .inr (by omega), .inr (by omega), trivial⟩ ⟨hsz, hsz, hsz, trivial⟩)
          have HT2 := Lib.hid (HT.out.trans (Turn.of_below (Lo := gc) (Hi := gc + 1) hb))
          have hsz2 := Nat.lt_of_lt_of_le hsz hb.size
          have hll := HLNN.out K0 k
          have HM2 := Lib.hid (HMIS.out HO.out)
          have HA2 := Lib.hid (HLAT.out K0 k)
          clear hb hL x0 x1 x2 t0 t1 t2 HMIS hgc hsz
          generalize chL (rowM M N k) K0 n = L at *
          obtain ⟨x0, x1, x2, -⟩ := HCS2.out
          go_wp2_with fail
          clear x0 x1 x2
          go_loopw [26] (fun vj wr => ∃ (j : Nat) (y : Int), j ≤ L.length ∧ vj = .int .i64 j ∧ TryB M N n k K0 L j ∧ Cls wr Z (.slice ab N cb) (.slice (some ⟨gc, 0, none⟩) N cc) us GR (K0.set k y) ∧ Ints wr (gc + 1) (.slice aL L.length cL) L ∧ Cs wr [(w.heap.size, 0, .slice ab N cb), (w.heap.size, 1, .slice (some ⟨gc, 0, none⟩) N cc), (w.heap.size, 2, .int .i64 n)] ∧ w.heap.size < wr.heap.size ∧ Turn gc (gc + 1) w wr) (fun vj _ => L.length - (intOf vj).toNat)
          case atStart =>
            have e1 : K0.set k (-1) = K0 := by
              have hfl : k < K0.length := by rw [HLk.out]; exact hlt
              have := List.set_getElem_self hfl
              rwa [atZ_get hfl, HO.out] at this
            exact ⟨0, -1, Nat.zero_le _, rfl, HTR.out K0 k L, by rw [e1]; exact HC3.out, HL2.out, HCS2.out, hsz2, HT2.out⟩
          case round =>
            clear HC3 HL2 HCS2 HT2 hsz2
            obtain ⟨j, y, hj, rfl, htr, hcl, hil, hcs, hsz, htt⟩ := hrel
            have HTJ := Lib.hid htr; clear htr
            have HC3 := Lib.hid hcl; clear hcl
            have HLI := Lib.hid hil; clear hil
            have HCS3 := Lib.hid hcs; clear hcs
            have HT3 := Lib.hid htt; clear htt
            have HSL := Lib.hid (show N = (K0.set k y).length from by rw [List.length_set, HLk.out])
            obtain ⟨x0, x1, x2, -⟩ := HCS3.out
            obtain ⟨t0, t1, t2, -, -⟩ := HC3.out.cols.at_ (j := k) (by rw [← HSL.out]; exact hlt)
            by_cases hlj : j < L.length
            · have q1 : (0 : Int) ≤ j := by omega
              have q2 : (j : Int) < (L.length : Int) := by omega
              obtain ⟨q, hq, hqn, hfr⟩ := HA2.out j hlj
              obtain ⟨gl, cl2, hvl⟩ := HLI.out.some_ (by omega)
              simp only [Value.slice.injEq] at hvl
              obtain ⟨rfl, -, rfl⟩ := hvl
              obtain ⟨z0, -, z1, -, -⟩ := HLI.out.at_ hlj
              rw [hq] at z0
              have HTQ := Lib.hid (HTS.out K0 k L j HTJ.out)
              rw [hq] at HTQ
              have HHQ := Lib.hid (HHIT.out j q hlj hq HTJ.out)
              clear hq
              have HC5 := Lib.hid (HC3.out.setC (k := k) HSL.out (q : Int))
              rw [List.set_set] at HC5
              have HCA := Lib.hid (HCN.out (K0.set k (q : Int)) _ (by rw [List.length_set, HLk.out]) (HPA.out q hqn hfr) HC5.out)
              have HTS1 := Lib.hid (Turn.set (g := gc) (k := k) wr (.int .i64 q))
              clear HC5 hqn hfr
              generalize hcb : canB M N n (K0.set k (q : Int)) = cb' at *
              cases cb'
              · have HTN := Lib.hid (HTQ.out rfl)
                go_wp2_with fail
                refine HCA.out.mono ?_
                rintro e w6 ⟨rfl, hc6, ht6⟩
                have HT6 := Lib.hid (HTS1.out.trans ht6)
                have HC6 := Lib.hid hc6
                clear hc6 ht6 t0 t1 t2 x0 x1 x2
                go_wp2_with fail
                exact ⟨⟨j + 1, q, by omega, by go_num, HTN.out, HC6.out, HLI.out.turn HT6.out (fun b e => .inr (HLI.out.own b e).1), HCS3.out.turn HT6.out ⟨.inr (by omega), .inr (by omega), .inr (by omega), trivial⟩ ⟨hsz, hsz, hsz, trivial⟩, Nat.lt_of_lt_of_le hsz HT6.out.size, HT3.out.trans HT6.out⟩, by simp [intOf]; omega⟩
              · have HKQ := Lib.hid (show finK M N n xs (k + 1) = K0.set k (q : Int) from by rw [HK1.out, HHQ.out rfl])
                go_wp2_with fail
                refine HCA.out.mono ?_
                rintro e w6 ⟨rfl, hc6, ht6⟩
                have HT6 := Lib.hid (HTS1.out.trans ht6)
                have HC6 := Lib.hid hc6
                clear hc6 ht6 t0 t1 t2 x0 x1 x2
                go_wp2_with fail
                exact ⟨⟨k + 1, by omega, by go_num, by rw [HKQ.out]; exact HC6.out, HCS3.out.turn HT6.out ⟨.inr (by omega), .inr (by omega), .inr (by omega), trivial⟩ ⟨hsz, hsz, hsz, trivial⟩, Nat.lt_of_lt_of_le hsz HT6.out.size, HT3.out.trans HT6.out⟩, by simp [intOf]; omega⟩
            · obtain rfl : j = L.length := by omega
              have := HM2.out HTJ.out
              rw [HCANK.out] at this
              cases this
        · have e1 : (atZ K0 k != -1) = true := by simp [ho]
          have e2 : decide (atZ K0 k = -1) = false := by simp [ho]
          have HK1 := Lib.hid (HKK.out ho)
          clear ho
          generalize atZ K0 k = z at *
          go_wp2_with fail
          exact ⟨⟨k + 1, by omega, by go_num, by rw [HK1.out]; exact HC2.out, HCS.out, hsz, HT.out⟩, by simp [intOf]; omega⟩
      · obtain rfl : k = N := by omega
        go_wp2_with fail
        exact bodyPost_ret (v := .tuple #[.slice (some ⟨gc, 0, none⟩) k cc, .bool true]) (by simp [results, Tryz.results37, go_sem]) rfl ⟨⟨_, by rw [hcan], by rw [finR_yes hcan]; exact HC2.out.cols⟩, HT.out⟩
end Go.Proofs.YtmcbbjobjogkmabGreat

namespace Go.Proofs.YtmcbbjobjogkmabGreat
open Go.RowKit
set_option linter.unusedVariables false
set_option linter.unusedSimpArgs false

def SrchRet (r : Option (List Int)) (w : World) (e : Ending) (w' : World) : Prop := (∃ v, e = .returned (.tuple #[v, .bool r.isSome]) ∧ Ints w' w.heap.size v (r.getD [])) ∧ Below w.heap.size w w'

set_option maxRecDepth 100000 in
theorem specSrchZ (N n : Nat) (am : Option Addr) (cm : Nat) (vg : Value) (hs : List Int) (vx : Value) (B : Nat) (w : World) (hlen : hs.length = N) (hN : N ≤ 13) (hx : Ints w B vx hs) :
    Calls Tryz.prog 31 #[.slice am N cm, vg, .int .i64 n, vx] w (SrchRet (some hs) w) := by
  have HX := Lib.hid hx
  obtain ⟨ax, cx, rfl, -⟩ := hx.form
  obtain ⟨i0, hi, hz0, hz1, hz2⟩ := info_parts infoInt
  obtain ⟨v', w', hr, ho, hbb⟩ := run_append_seq (P := Tryz.prog) (ty := 27) (B := w.heap.size) Tryz.underlying27 hi hz0 hz1 hz2 (heap_alloc_new w (.cells #[] 3)) (Nat.le_refl _) ((HX.out.seq).step (below_alloc w (.cells #[] 3))) (by omega)
  subst hlen
  clear hx
  have HO := Lib.hid ho
  have HB := Lib.hid ((below_alloc w (.cells #[] 3)).trans (hbb.mono (by simp)))
  clear ho hbb
  go_enter Tryz.func31, Tryz.ntmps31
  go_wp2_with (at_builtin; (refine wpList_append_run rfl _ _ 27 rfl v' w' hr ?_))
  exact bodyPost_ret (v := .tuple #[v', .bool true]) (by simp [results, Tryz.results31, go_sem]) rfl ⟨⟨v', rfl, HO.out⟩, HB.out⟩

theorem okx_is {M : Nat → Nat → Bool} {gs hs : List Int} {k x : Nat} : okx M gs hs k x = ((decide (atZ gs k < 0) || decide (atZ gs k = (x : Int))) && freC M hs k x) := rfl

set_option maxRecDepth 100000 in
set_option maxHeartbeats 8000000 in
theorem specSrchS (M : Nat → Nat → Bool) (hsym : ∀ i j, M i j = M j i) (N n : Nat) (hN : N ≤ 13) (hn : n ≤ 6) (am : Option Addr) (cm : Nat) (g : Nat → Nat) (gs : List Int) (vg : Value) (hgl : gs.length = N) (d : Nat) (hs : List Int) (vx : Value) (B : Nat) (w : World) (hlen : hs.length + (d + 1) = N) (hm : MatG w 0 (.slice am N cm) g N N M) (hg : Seq w vg gs) (hx : Ints w B vx hs)
    (HIH : Hid (∀ (q : Nat) (vx : Value) (B : Nat) (w : World), (hs ++ [(q : Int)]).length + d = N → MatG w 0 (.slice am N cm) g N N M → Seq w vg gs → Ints w B vx (hs ++ [(q : Int)]) → Calls Tryz.prog 31 #[.slice am N cm, vg, .int .i64 n, vx] w (SrchRet (srch M gs n d (hs ++ [(q : Int)])) w))) :
    Calls Tryz.prog 31 #[.slice am N cm, vg, .int .i64 n, vx] w (SrchRet (srch M gs n (d + 1) hs) w) := by
  have HM := Lib.hid hm; clear hm
  have HG := Lib.hid hg
  have HSYM := Lib.hid hsym; clear hsym
  have HX := Lib.hid hx
  obtain ⟨ax, cx, rfl, -⟩ := hx.form
  obtain ⟨ag, cg, rfl⟩ := seq_form2 hg
  rw [hgl] at HG HIH ⊢
  clear hx hg
  have HGL := Lib.hid hgl; clear hgl
  have HHIT := Lib.hid (fun x L h1 h2 h3 h4 => srch_hit (M := M) (gs := gs) (n := n) (d := d) (x := x) (hs := hs) (L := L) h1 h2 h3 h4)
  have HMISS := Lib.hid (fun h => srch_miss (M := M) (gs := gs) (n := n) (d := d) (hs := hs) h)
  have HZERO := Lib.hid (NoB.zero M gs n d hs)
  have HBAD := Lib.hid (fun x (h : NoB M gs n d hs x) hb => h.bad hb)
  have HNONE := Lib.hid (fun x (h : NoB M gs n d hs x) hb => h.none_ hb)
  have HOKX := Lib.hid (fun x => okx_is (M := M) (gs := gs) (hs := hs) (k := hs.length) (x := x))
  unfold SrchRet at HIH ⊢
  generalize srch M gs n (d + 1) hs = R at *
  generalize hS : (fun x : Nat => srch M gs n d (hs ++ [(x : Int)])) = S at *
  have HSX := Lib.hid (fun x : Nat => (show srch M gs n d (hs ++ [(x : Int)]) = S x from by rw [← hS]))
  clear hS
  generalize NoB M gs n d hs = NB at *
  generalize hOK : okx M gs hs hs.length = OK at *
  clear hOK
  have HFR := Lib.hid (fun c => (show freC M hs hs.length c = freeK M hs hs.length c hs.length from rfl))
  generalize freC M hs hs.length = FC at *
  have HFS := Lib.hid (freeK_succ M hs)
  have HF0 := Lib.hid (fun k c => (show freeK M hs k c 0 = true from rfl))
  generalize freeK M hs = FK at *
  have HSEQ := Lib.hid HX.out.seq
  obtain ⟨k, hk⟩ : ∃ k, k = hs.length := ⟨_, rfl⟩
  have HK := Lib.hid hk
  have HLN := Lib.hid (show ∀ c : Int, (hs ++ [c]).length + d = N from fun c => by rw [List.length_append]; simp; omega)
  rw [← hk] at hlen HX HFR HOKX ⊢
  clear hk
  have hkN : k < N := by omega
  obtain ⟨gm, cm', hmv⟩ := HM.out.some_ (by omega)
  simp only [Value.slice.injEq] at hmv
  obtain ⟨rfl, -, rfl⟩ := hmv
  obtain ⟨i0, hi, hz0, hz1, hz2⟩ := info_parts infoInt
  have HI := Lib.hid (And.intro hi (And.intro hz0 (And.intro hz1 hz2))); clear hi hz0 hz1 hz2
  obtain ⟨bg, og, rfl, hbg, hcg⟩ := seq_at HG.out k (by rw [HGL.out]; exact hkN)
  have hg0 := hcg k (by rw [HGL.out]; exact hkN)
  clear hcg
  have HGC := Lib.hid (And.intro hbg hg0)
  clear hg0
  generalize atZ gs k = gv at *
  go_enter Tryz.func31, Tryz.ntmps31
  have hne : ((k : Int) == (N : Int)) = false := by rw [beq_eq_false_iff_ne]; omega
  have p7 : (0 : Int) ≤ k := by omega
  have p6 : (k : Int) < (N : Int) := by omega
  go_wp2_with fail
  go_loopw [11] (fun vc wr => ∃ q : Nat, q ≤ n ∧ vc = .int .i64 q ∧ NB q ∧ Below w.heap.size w wr) (fun vc _ => n - (intOf vc).toNat)
  case atStart => exact ⟨0, Nat.zero_le _, rfl, HZERO.out, Below.refl _ _⟩
  case round =>
    obtain ⟨q, hq, rfl, hnb, hb⟩ := hrel
    have HNB := Lib.hid hnb; clear hnb
    have HB := Lib.hid hb; clear hb
    by_cases hlt : q < n
    · have q1 : (q : Int) < (n : Int) := by omega
      have q0 : (0 : Int) ≤ q := by omega
      have HFQ := Lib.hid (HFR.out q)
      have HOQ := Lib.hid (HOKX.out q)
      have g0 := (HB.out.cell (p := ⟨bg, og + k, none⟩) HGC.out.1).trans HGC.out.2
      by_cases hgv : 0 ≤ gv ∧ gv ≠ (q : Int)
      · have HOF := Lib.hid (show OK q = false from by rw [HOQ.out]; simp; omega)
        have HN2 := Lib.hid (HBAD.out q HNB.out HOF.out)
        obtain ⟨g1, g2⟩ := hgv
        have e1 : (gv != (q : Int)) = true := by simp [g2]
        have e2 : decide (gv = (q : Int)) = false := by simp [g2]
        clear g2
        go_wp2_with fail
        exact ⟨⟨q + 1, by omega, by go_num, HN2.out, HB.out⟩, by simp [intOf]; omega⟩
      · have HOT := Lib.hid (show OK q = FC q from by
          rw [HOQ.out]
          have : (decide (gv < 0) || decide (gv = (q : Int))) = true := by simp; omega
          rw [this]; rfl)
        have hways : gv < 0 ∨ gv = (q : Int) := by omega
        clear hgv
        have hgen : (∃ t : Bool, (decide (gv ≥ 0)) = t ∧ (t = true → (gv != (q : Int)) = false)) := ⟨_, rfl, fun h => by simp at h; simp; omega⟩
        by_cases hg0 : gv < 0
        · have d1 : ¬ 0 ≤ gv := by omega
          clear hways hgen
          go_wp2_with fail
          go_loopw [12, 13] (fun vo vi wq => ∃ i : Nat, i ≤ k ∧ vi = .int .i64 i ∧ vo = .bool (FK k q i) ∧ wq = wr) (fun _ vi _ => k - (intOf vi).toNat)
          case atStart => exact ⟨0, Nat.zero_le _, rfl, by rw [HF0.out], rfl⟩
          case round =>
            obtain ⟨i, hi, rfl, rfl, rfl⟩ := hrel
            by_cases hik : i < k
            · have HMW := Lib.hid (HM.out.step HB.out)
              have hin : i < N := by omega
              obtain ⟨z0, hgk⟩ := HMW.out.cellRow hin
              obtain ⟨z1, z2, z3⟩ := HMW.out.cell hin hkN
              rw [HSYM.out i k] at z1
              have HOI := Lib.hid (HX.out.step HB.out)
              obtain ⟨gu, cu2, hu⟩ := HOI.out.some_ (by rw [← HK.out]; omega)
              rw [← HK.out] at hu
              simp only [Value.slice.injEq] at hu
              obtain ⟨rfl, -, rfl⟩ := hu
              obtain ⟨y0, -, y1, -, -⟩ := HOI.out.at_ (j := i) (by rw [← HK.out]; exact hik)
              unfold rowVal at z0
              have HFI := Lib.hid (HFS.out k q i)
              have p3 : (0 : Int) ≤ i := by omega
              have p4 : (i : Int) < (k : Int) := by omega
              have p5 : (i : Int) < (N : Int) := by omega
              generalize M k i = mk at *
              generalize atZ hs i = xi at *
              generalize FK k q i = fk at *
              cases fk
              · go_wp2_with fail
                exact ⟨⟨i + 1, by omega, by go_num, by rw [HFI.out]; rfl, by first | rfl | trivial⟩, by simp [intOf]; omega⟩
              · cases mk
                · go_wp2_with fail
                  exact ⟨⟨i + 1, by omega, by go_num, by rw [HFI.out]; rfl, by first | rfl | trivial⟩, by simp [intOf]; omega⟩
                · by_cases hx : xi = (q : Int)
                  · subst hx
                    go_wp2_with fail
                    exact ⟨⟨i + 1, by omega, by go_num, by rw [HFI.out]; simp, by first | rfl | trivial⟩, by simp [intOf]; omega⟩
                  · have e1' : (xi == (q : Int)) = false := by rw [beq_eq_false_iff_ne]; exact hx
                    have e2' : decide (xi = (q : Int)) = false := by simp [hx]
                    go_wp2_with fail
                    exact ⟨⟨i + 1, by omega, by go_num, by rw [HFI.out, e2']; rfl, by first | rfl | trivial⟩, by simp [intOf]; omega⟩
            · obtain rfl : i = k := by omega
              rw [HFQ.out] at HOT
              generalize FK i q i = fk at *
              cases fk
              · have HN2 := Lib.hid (HBAD.out q HNB.out HOT.out)
                go_wp2_with fail
                exact ⟨⟨q + 1, by omega, by go_num, HN2.out, HB.out⟩, by simp [intOf]; omega⟩
              · obtain ⟨v', w', hr, ho, hbb⟩ := run_append_seq (P := Tryz.prog) (ty := 27) (B := wr.heap.size) Tryz.underlying27 HI.out.1 HI.out.2.1 HI.out.2.2.1 HI.out.2.2.2 (heap_alloc_new wr (.cells #[] 3)) (Nat.le_refl _) ((HSEQ.out.step HB.out).step (below_alloc wr (.cells #[] 3))) (by rw [← HK.out]; omega)
                rw [← HK.out] at hr
                have HO := Lib.hid ho
                have hs2 := hbb.size
                have HB2 := Lib.hid (HB.out.trans (((below_alloc wr (.cells #[] 3)).trans (hbb.mono (by simp))).mono HB.out.size))
                have hs3 := HB.out.size
                clear ho hbb
                have hxl : hs.length ≤ 13 := by rw [← HK.out]; omega
                obtain ⟨hi, hz0, hz1, hz2⟩ := HI.out
                have hwb : wr.heap.size ≤ w'.heap.size := by simp at hs2; omega
                go_wp2_with (at_builtin; first | (refine wpList_append_run rfl _ _ 27 rfl v' w' hr ?_) | refine wpList_append_own _ rfl _ _ 27 rfl wr.heap.size 3 i0 (.int .i64 0) 1 8 Tryz.underlying27 hi hz0 hz1 hz2 rfl (by decide) _ _ _ rfl (World.ownsRow.alloc HO.out _) ⟨_, 0, none⟩ 1 1 [.int .i64 q] rfl rfl ?c1 ?c2 ?c3 ?c4 ?c5 ?_)
                try (case c1 => exact cell_one_new _ _ _)
                case c2 => simp [Value.oneCell']
                case c3 => unfold maxLen; omega
                case c4 => omega
                case c5 => first | omega | (simp <;> omega)
                intro v'' w5 hown hgrow _
                have HB5 := Lib.hid (HB2.out.trans ((grown_below HO.out hwb hgrow).mono hs3))
                have HO5 := Lib.hid (Ints.more hown)
                clear hown hgrow hr hi hz0 hz1 hz2 hs2
                go_wp2_with fail
                have HCA := Lib.hid (HIH.out q v'' _ _ (HLN.out _) (HM.out.step HB5.out) (HG.out.step HB5.out) HO5.out)
                rw [HSX.out] at HCA
                have HHQ := Lib.hid (fun L h => HHIT.out q L HNB.out hlt HOT.out (by rw [HSX.out]; exact h))
                have HNQ := Lib.hid (fun h => HNONE.out q HNB.out (by rw [HSX.out]; exact h))
                clear HOT
                generalize S q = sq at *
                cases sq with
                | none =>
                  have HN2 := Lib.hid (HNQ.out rfl)
                  refine HCA.out.mono ?_
                  rintro e w6 ⟨⟨v6, rfl, hv6⟩, hb6⟩
                  have HB6 := Lib.hid (HB5.out.trans (hb6.mono HB5.out.size))
                  clear hb6 hv6
                  simp only [Option.isSome_none]
                  go_wp2_with fail
                  exact ⟨⟨q + 1, by omega, by go_num, HN2.out, HB6.out⟩, by simp [intOf]; omega⟩
                | some L =>
                  have HRL := Lib.hid (HHQ.out L rfl)
                  refine HCA.out.mono ?_
                  rintro e w6 ⟨⟨v6, rfl, hv6⟩, hb6⟩
                  have HB6 := Lib.hid (HB5.out.trans (hb6.mono HB5.out.size))
                  have HV6 := Lib.hid hv6
                  clear hb6 hv6
                  simp only [Option.isSome_some]
                  go_wp2_with fail
                  rw [HRL.out]
                  exact bodyPost_ret (v := .tuple #[v6, .bool true]) (by simp [results, Tryz.results31, go_sem]) rfl ⟨⟨v6, rfl, HV6.out.mono HB5.out.size⟩, HB6.out⟩
        · have d1 : 0 ≤ gv := by omega
          have e1 : (gv != (q : Int)) = false := by simp; omega
          have d2 : gv = (q : Int) := by omega
          subst d2
          clear hways hgen hg0
          go_wp2_with fail
          go_loopw [12, 13] (fun vo vi wq => ∃ i : Nat, i ≤ k ∧ vi = .int .i64 i ∧ vo = .bool (FK k q i) ∧ wq = wr) (fun _ vi _ => k - (intOf vi).toNat)
          case atStart => exact ⟨0, Nat.zero_le _, rfl, by rw [HF0.out], rfl⟩
          case round =>
            obtain ⟨i, hi, rfl, rfl, rfl⟩ := hrel
            by_cases hik : i < k
            · have HMW := Lib.hid (HM.out.step HB.out)
              have hin : i < N := by omega
              obtain ⟨z0, hgk⟩ := HMW.out.cellRow hin
              obtain ⟨z1, z2, z3⟩ := HMW.out.cell hin hkN
              rw [HSYM.out i k] at z1
              have HOI := Lib.hid (HX.out.step HB.out)
              obtain ⟨gu, cu2, hu⟩ := HOI.out.some_ (by rw [← HK.out]; omega)
              rw [← HK.out] at hu
              simp only [Value.slice.injEq] at hu
              obtain ⟨rfl, -, rfl⟩ := hu
              obtain ⟨y0, -, y1, -, -⟩ := HOI.out.at_ (j := i) (by rw [← HK.out]; exact hik)
              unfold rowVal at z0
              have HFI := Lib.hid (HFS.out k q i)
              have p3 : (0 : Int) ≤ i := by omega
              have p4 : (i : Int) < (k : Int) := by omega
              have p5 : (i : Int) < (N : Int) := by omega
              generalize M k i = mk at *
              generalize atZ hs i = xi at *
              generalize FK k q i = fk at *
              cases fk
              · go_wp2_with fail
                exact ⟨⟨i + 1, by omega, by go_num, by rw [HFI.out]; rfl, by first | rfl | trivial⟩, by simp [intOf]; omega⟩
              · cases mk
                · go_wp2_with fail
                  exact ⟨⟨i + 1, by omega, by go_num, by rw [HFI.out]; rfl, by first | rfl | trivial⟩, by simp [intOf]; omega⟩
                · by_cases hx : xi = (q : Int)
                  · subst hx
                    go_wp2_with fail
                    exact ⟨⟨i + 1, by omega, by go_num, by rw [HFI.out]; simp, by first | rfl | trivial⟩, by simp [intOf]; omega⟩
                  · have e1' : (xi == (q : Int)) = false := by rw [beq_eq_false_iff_ne]; exact hx
                    have e2' : decide (xi = (q : Int)) = false := by simp [hx]
                    go_wp2_with fail
                    exact ⟨⟨i + 1, by omega, by go_num, by rw [HFI.out, e2']; rfl, by first | rfl | trivial⟩, by simp [intOf]; omega⟩
            · obtain rfl : i = k := by omega
              rw [HFQ.out] at HOT
              generalize FK i q i = fk at *
              cases fk
              · have HN2 := Lib.hid (HBAD.out q HNB.out HOT.out)
                go_wp2_with fail
                exact ⟨⟨q + 1, by omega, by go_num, HN2.out, HB.out⟩, by simp [intOf]; omega⟩
              · obtain ⟨v', w', hr, ho, hbb⟩ := run_append_seq (P := Tryz.prog) (ty := 27) (B := wr.heap.size) Tryz.underlying27 HI.out.1 HI.out.2.1 HI.out.2.2.1 HI.out.2.2.2 (heap_alloc_new wr (.cells #[] 3)) (Nat.le_refl _) ((HSEQ.out.step HB.out).step (below_alloc wr (.cells #[] 3))) (by rw [← HK.out]; omega)
                rw [← HK.out] at hr
                have HO := Lib.hid ho
                have hs2 := hbb.size
                have HB2 := Lib.hid (HB.out.trans (((below_alloc wr (.cells #[] 3)).trans (hbb.mono (by simp))).mono HB.out.size))
                have hs3 := HB.out.size
                clear ho hbb
                have hxl : hs.length ≤ 13 := by rw [← HK.out]; omega
                obtain ⟨hi, hz0, hz1, hz2⟩ := HI.out
                have hwb : wr.heap.size ≤ w'.heap.size := by simp at hs2; omega
                go_wp2_with (at_builtin; first | (refine wpList_append_run rfl _ _ 27 rfl v' w' hr ?_) | refine wpList_append_own _ rfl _ _ 27 rfl wr.heap.size 3 i0 (.int .i64 0) 1 8 Tryz.underlying27 hi hz0 hz1 hz2 rfl (by decide) _ _ _ rfl (World.ownsRow.alloc HO.out _) ⟨_, 0, none⟩ 1 1 [.int .i64 q] rfl rfl ?c1 ?c2 ?c3 ?c4 ?c5 ?_)
                try (case c1 => exact cell_one_new _ _ _)
                case c2 => simp [Value.oneCell']
                case c3 => unfold maxLen; omega
                case c4 => omega
                case c5 => first | omega | (simp <;> omega)
                intro v'' w5 hown hgrow _
                have HB5 := Lib.hid (HB2.out.trans ((grown_below HO.out hwb hgrow).mono hs3))
                have HO5 := Lib.hid (Ints.more hown)
                clear hown hgrow hr hi hz0 hz1 hz2 hs2
                go_wp2_with fail
                have HCA := Lib.hid (HIH.out q v'' _ _ (HLN.out _) (HM.out.step HB5.out) (HG.out.step HB5.out) HO5.out)
                rw [HSX.out] at HCA
                have HHQ := Lib.hid (fun L h => HHIT.out q L HNB.out hlt HOT.out (by rw [HSX.out]; exact h))
                have HNQ := Lib.hid (fun h => HNONE.out q HNB.out (by rw [HSX.out]; exact h))
                clear HOT
                generalize S q = sq at *
                cases sq with
                | none =>
                  have HN2 := Lib.hid (HNQ.out rfl)
                  refine HCA.out.mono ?_
                  rintro e w6 ⟨⟨v6, rfl, hv6⟩, hb6⟩
                  have HB6 := Lib.hid (HB5.out.trans (hb6.mono HB5.out.size))
                  clear hb6 hv6
                  simp only [Option.isSome_none]
                  go_wp2_with fail
                  exact ⟨⟨q + 1, by omega, by go_num, HN2.out, HB6.out⟩, by simp [intOf]; omega⟩
                | some L =>
                  have HRL := Lib.hid (HHQ.out L rfl)
                  refine HCA.out.mono ?_
                  rintro e w6 ⟨⟨v6, rfl, hv6⟩, hb6⟩
                  have HB6 := Lib.hid (HB5.out.trans (hb6.mono HB5.out.size))
                  have HV6 := Lib.hid hv6
                  clear hb6 hv6
                  simp only [Option.isSome_some]
                  go_wp2_with fail
                  rw [HRL.out]
                  exact bodyPost_ret (v := .tuple #[v6, .bool true]) (by simp [results, Tryz.results31, go_sem]) rfl ⟨⟨v6, rfl, HV6.out.mono HB5.out.size⟩, HB6.out⟩
    · obtain rfl : q = n := by omega
      have HR := Lib.hid (HMISS.out HNB.out)
      go_wp2_with fail
      rw [HR.out]
      exact bodyPost_ret (v := .tuple #[.slice (some ⟨wr.heap.size, 0, none⟩) 0 0, .bool false]) (by simp [results, Tryz.results31, go_sem]) rfl ⟨⟨_, rfl, Ints.made wr _ _ rfl HB.out.size⟩, HB.out.alloc HB.out.size _⟩

theorem specSrchA (M : Nat → Nat → Bool) (hsym : ∀ i j, M i j = M j i) (N n : Nat) (hN : N ≤ 13) (hn : n ≤ 6) (am : Option Addr) (cm : Nat) (g : Nat → Nat) (gs : List Int) (vg : Value) (hgl : gs.length = N) (d : Nat) : ∀ (hs : List Int) (vx : Value) (B : Nat) (w : World), hs.length + d = N → MatG w 0 (.slice am N cm) g N N M → Seq w vg gs → Ints w B vx hs →
    Calls Tryz.prog 31 #[.slice am N cm, vg, .int .i64 n, vx] w (SrchRet (srch M gs n d hs) w) := by
  induction d with
  | zero => exact fun hs vx B w hl hm hg hx => specSrchZ N n am cm vg hs vx B w (by omega) hN hx
  | succ d ih => exact fun hs vx B w hl hm hg hx => specSrchS M hsym N n hN hn am cm g gs vg hgl d hs vx B w hl hm hg hx (Lib.hid fun q vx B w h1 h2 h3 h4 => ih (hs ++ [(q : Int)]) vx B w h1 h2 h3 h4)
end Go.Proofs.YtmcbbjobjogkmabGreat

namespace Go.Proofs.YtmcbbjobjogkmabGreat
open Go.RowKit
set_option linter.unusedVariables false
set_option linter.unusedSimpArgs false

/-- All faces open. -/
def opN (n : Nat) : List Int := List.replicate n (-1)

theorem opN_len (n : Nat) : (opN n).length = n := List.length_replicate

theorem opN_succ (n : Nat) : opN (n + 1) = opN n ++ [-1] := List.replicate_succ'

theorem opN_at {n i : Nat} (h : i < n) : atZ (opN n) i = -1 := by unfold atZ opN; simp [List.getD, h]

theorem prA_opN (M : Nat → Nat → Bool) (N n : Nat) : PrA M N n (opN N) := fun i hi h => absurd (opN_at hi) h

set_option maxRecDepth 100000 in
set_option maxHeartbeats 2000000 in
theorem specFree (n : Nat) (hn : n ≤ 40) (w : World) : Calls Tryz.prog 32 #[.int .i64 n] w (IntsNew (opN n) w) := by
  obtain ⟨i0, hi, hz0, hz1, hz2⟩ := info_parts infoInt
  have HI := Lib.hid (And.intro hi (And.intro hz0 (And.intro hz1 hz2))); clear hi hz0 hz1 hz2
  have HX0 := Lib.hid (Ints.made w w.heap.size w.heap.size rfl (Nat.le_refl _))
  have HB0 := Lib.hid (below_alloc w (.cells #[] 3))
  have HLN := Lib.hid opN_len
  have HSU := Lib.hid opN_succ
  have HZ := Lib.hid (show opN 0 = [] from rfl)
  generalize opN = G at *
  go_enter Tryz.func32, Tryz.ntmps32
  go_wp2_with fail
  go_loopw [3, 4] (fun v i wr => ∃ k : Nat, k ≤ n ∧ i = .int .i64 k ∧ Ints wr w.heap.size v (G k) ∧ Below w.heap.size w wr) (fun _ i _ => n - (intOf i).toNat)
  case atStart => exact ⟨0, Nat.zero_le _, rfl, by rw [HZ.out]; exact HX0.out, HB0.out⟩
  case round =>
    clear HX0 HB0
    obtain ⟨k, hk, rfl, hown, hb⟩ := hrel
    have HO := Lib.hid hown; clear hown
    have HB := Lib.hid hb; clear hb
    have hsz := HB.out.size
    by_cases hlt : k < n
    · have q1 : (k : Int) < (n : Int) := by omega
      have hl := HLN.out k
      have HSK := Lib.hid (HSU.out k)
      obtain ⟨au, cu, rfl, -⟩ := HO.out.form
      rw [hl] at HO ⊢
      obtain ⟨hi, hz0, hz1, hz2⟩ := HI.out
      have hcl : (G k).length ≤ 40 := by omega
      clear hl
      go_wp2_with (at_builtin; refine wpList_append_own _ rfl _ _ 27 rfl w.heap.size 3 i0 (.int .i64 0) 1 8 Tryz.underlying27 hi hz0 hz1 hz2 rfl (by decide) _ _ _ rfl (World.ownsRow.alloc HO.out _) ⟨wr.heap.size, 0, none⟩ 1 1 [.int .i64 (-1)] rfl rfl ?c1 ?c2 ?c3 ?c4 ?c5 ?_)
      case c1 => exact cell_one_new _ _ _
      case c2 => simp [Value.oneCell']
      case c3 => unfold maxLen; omega
      case c4 => omega
      case c5 => simp; omega
      intro v' w2 hown hgrow _
      have HO2 := Lib.hid (Ints.more hown)
      have HB2 := Lib.hid (HB.out.trans (grown_below HO.out hsz hgrow))
      clear hown hgrow hi hz0 hz1 hz2
      go_wp2_with fail
      exact ⟨⟨k + 1, by omega, by go_num, by rw [HSK.out]; exact HO2.out, HB2.out⟩, by simp [intOf]; omega⟩
    · obtain rfl : k = n := by omega
      go_wp2_with fail
      go_ret
      exact ⟨_, rfl, HO.out, HB.out⟩

open Classical in
/-- Whether the window's faces can be colored with a colors, and the first way. -/
noncomputable def cwB (ns ls : List Nd) (a : Int) : Bool := wholeB ns ls && inB a 1 6 && canB (besM (atW ns ls) ls.length) (wF ns ls).length a.toNat (opN (wF ns ls).length)

noncomputable def cwL (ns ls : List Nd) (a : Int) : List Int := if cwB ns ls a = true then finK (besM (atW ns ls) ls.length) (wF ns ls).length a.toNat (opN (wF ns ls).length) (wF ns ls).length else []

theorem cwB_no1 {ns ls : List Nd} {a : Int} (h : wholeB ns ls = false) : cwB ns ls a = false := by unfold cwB; rw [h]; rfl

theorem cwB_no2 {ns ls : List Nd} {a : Int} (h : inB a 1 6 = false) : cwB ns ls a = false := by unfold cwB; rw [h]; simp

theorem cwL_no {ns ls : List Nd} {a : Int} (h : cwB ns ls a = false) : cwL ns ls a = [] := if_neg (by rw [h]; simp)

theorem cwB_yes {ns ls : List Nd} {a : Int} (n : Nat) (ha : a = n) (h1 : wholeB ns ls = true) (h2 : inB a 1 6 = true) : cwB ns ls a = canB (besM (atW ns ls) ls.length) (wF ns ls).length n (opN (wF ns ls).length) := by
  unfold cwB; rw [h1, h2, ha]; rfl

theorem cwL_yes {ns ls : List Nd} {a : Int} (n : Nat) (ha : a = n) (h1 : wholeB ns ls = true) (h2 : inB a 1 6 = true) : cwL ns ls a = finR (besM (atW ns ls) ls.length) (wF ns ls).length n (opN (wF ns ls).length) := by
  unfold cwL finR; rw [cwB_yes n ha h1 h2, ha]; rfl

theorem cwL_len (ns ls : List Nd) (a : Int) : (cwL ns ls a).length ≤ 20 := by
  unfold cwL
  split
  · rw [finK_len, opN_len]; have := wF_thirteen ns ls; omega
  · simp

def CwRet (b : Bool) (L : List Int) (w : World) (e : Ending) (w' : World) : Prop := (∃ v, e = .returned (.tuple #[v, .bool b]) ∧ Ints w' w.heap.size v L) ∧ Below w.heap.size w w'

theorem besM_irr (ds : List Int) (q i : Nat) : besM ds q i i = false := by rw [besM_sub]; simp

theorem srch_open {M : Nat → Nat → Bool} {N n : Nat} (hsym : ∀ i j, M i j = M j i) (hirr : ∀ i, M i i = false) :
    (srch M (opN N) n N []).isSome = canB M N n (opN N) ∧ (srch M (opN N) n N []).getD [] = finR M N n (opN N) := by
  rw [srch_fin hsym hirr (opN_len N) (fun i hi => by rw [opN_at hi]; exact Int.le_refl _) (prA_opN M N n)]
  unfold finR
  cases canB M N n (opN N) <;> simp

set_option maxRecDepth 100000 in
set_option maxHeartbeats 4000000 in
theorem specColor (ns ls : List Nd) (vn vl : Value) (a : Int) (w : World) (hn : Prs w vn ns) (hl : Prs w vl ls) :
    Calls Tryz.prog 9 #[.agg #[vn, vl], .int .i64 a] w (CwRet (cwB ns ls a) (cwL ns ls a) w) := by
  have HW := Lib.hid (fun w h1 h2 => specWhole ns ls vn vl w h1 h2)
  have HM := Lib.hid (fun w h1 h2 (hh : wholeB ns ls = true) => specMat ns ls vn vl w h1 h2 hh)
  unfold MatNew at HM
  have HI := Lib.hid (fun w => specIn a 1 6 w)
  have HFR := Lib.hid (fun w => specFree (wF ns ls).length wF_len w)
  unfold IntsNew at HFR
  have HA := Lib.hid (fun (n : Nat) (hn : n ≤ 6) am cm g vg vx B w h1 h2 h3 => specSrchA (besM (atW ns ls) ls.length) (besM_sym (atW ns ls) ls.length) (wF ns ls).length n (wF_thirteen ns ls) hn am cm g (opN (wF ns ls).length) vg (opN_len _) (wF ns ls).length [] vx B w (by simp) h1 h2 h3)
  unfold SrchRet at HA
  have HSO := Lib.hid (fun n => srch_open (M := besM (atW ns ls) ls.length) (N := (wF ns ls).length) (n := n) (besM_sym (atW ns ls) ls.length) (besM_irr _ _))
  have HN := Lib.hid hn
  have HL := Lib.hid hl
  have H0 := Lib.hid (held_pair w vn vl 33)
  obtain ⟨A, c, rfl⟩ := prs_form2 hn
  obtain ⟨A2, c2, rfl⟩ := prs_form2 hl
  clear hn hl
  have HYB := Lib.hid (fun n h1 h2 h3 => cwB_yes (ns := ns) (ls := ls) (a := a) n h1 h2 h3)
  have HYL := Lib.hid (fun n h1 h2 h3 => cwL_yes (ns := ns) (ls := ls) (a := a) n h1 h2 h3)
  have HNO1 := Lib.hid (fun h => cwB_no1 (ns := ns) (ls := ls) (a := a) h)
  have HNO2 := Lib.hid (fun h => cwB_no2 (ns := ns) (ls := ls) (a := a) h)
  have HNL := Lib.hid (fun h => cwL_no (ns := ns) (ls := ls) (a := a) h)
  have HIN := Lib.hid (show inB a 1 6 = true → ∃ n : Nat, a = n ∧ n ≤ 6 from fun h => by have := (inB_iff _ _ _).1 h; exact ⟨a.toNat, by omega, by omega⟩)
  have hN40 := wF_len (ns := ns) (ls := ls)
  unfold CwRet
  generalize cwB ns ls a = QB at *
  generalize cwL ns ls a = RL at *
  generalize wholeB ns ls = ok at *
  generalize inB a 1 6 = ok2 at *
  generalize besM (atW ns ls) ls.length = M at *
  generalize (wF ns ls).length = N at *
  go_enter Tryz.func9, Tryz.ntmps9
  obtain ⟨x0, x1, _⟩ := H0.out.1
  go_wp2_with fail
  refine (HW.out _ (HN.out.step H0.out.below) (HL.out.step H0.out.below)).mono ?_
  rintro e w1 ⟨rfl, hb⟩
  have H1 := Lib.hid (H0.out.step hb)
  clear hb x0 x1
  obtain ⟨x0, x1, _⟩ := H1.out.1
  cases ok
  · have HF := Lib.hid (HNO1.out (by first | rfl | trivial))
    have HFL := Lib.hid (HNL.out HF.out)
    go_wp2_with fail
    rw [HF.out, HFL.out]
    exact bodyPost_ret (v := .tuple #[.slice (some ⟨w1.heap.size, 0, none⟩) 0 0, .bool false]) (by simp [results, Tryz.results9, go_sem]) rfl ⟨⟨_, rfl, Ints.made w1 _ _ rfl H1.out.below.size⟩, H1.out.below.alloc H1.out.below.size _⟩
  · go_wp2_with fail
    refine (HI.out _).mono ?_
    rintro e w2 ⟨rfl, rfl⟩
    cases ok2
    · have HF := Lib.hid (HNO2.out (by first | rfl | trivial))
      have HFL := Lib.hid (HNL.out HF.out)
      go_wp2_with fail
      rw [HF.out, HFL.out]
      exact bodyPost_ret (v := .tuple #[.slice (some ⟨w1.heap.size, 0, none⟩) 0 0, .bool false]) (by simp [results, Tryz.results9, go_sem]) rfl ⟨⟨_, rfl, Ints.made w1 _ _ rfl H1.out.below.size⟩, H1.out.below.alloc H1.out.below.size _⟩
    · obtain ⟨n, rfl, hn6⟩ := HIN.out (by first | rfl | trivial)
      have HB := Lib.hid (HYB.out n rfl (by first | rfl | trivial) (by first | rfl | trivial))
      have HLL := Lib.hid (HYL.out n rfl (by first | rfl | trivial) (by first | rfl | trivial))
      have HAN := Lib.hid (HA.out n hn6)
      have HSN := Lib.hid (HSO.out n)
      clear HYB HYL HA HSO
      generalize srch M (opN N) n N [] = S at *
      obtain ⟨hs1, hs2⟩ := HSN.out
      rw [← hs1] at HB
      rw [← hs2] at HLL
      clear hs1 hs2 HSN
      generalize opN N = G at *
      go_wp2_with fail
      refine (HM.out _ (HN.out.step H1.out.below) (HL.out.step H1.out.below) (by first | rfl | trivial)).mono ?_
      rintro e w3 ⟨v, g, rfl, hm, hb⟩
      have H3 := Lib.hid (H1.out.step hb)
      have HM3 := Lib.hid (hm.mono (b' := 0) (Nat.zero_le _))
      obtain ⟨am, cm, rfl, -⟩ := hm.form
      clear hm hb x0 x1
      go_wp2_with fail
      refine (HFR.out _).mono ?_
      rintro e w4 ⟨vg, rfl, hg, hb⟩
      have H4 := Lib.hid (H3.out.step hb)
      have HM4 := Lib.hid ((HM3.out.step hb).step (below_alloc w4 (.cells #[] 3)))
      have HG4 := Lib.hid (hg.step (below_alloc w4 (.cells #[] 3)))
      have HX4 := Lib.hid (Ints.made w4 w4.heap.size w4.heap.size rfl (Nat.le_refl _))
      have H5 := Lib.hid (H4.out.alloc (.cells #[] 3))
      clear hb hg
      go_wp2_with fail
      refine (HAN.out am cm g vg _ _ _ HM4.out HG4.out.seq HX4.out).mono ?_
      rintro e w6 ⟨⟨v6, rfl, hv6⟩, hb⟩
      have H6 := Lib.hid (H5.out.step hb)
      have HV := Lib.hid (hv6.mono (b' := w.heap.size) H5.out.below.size)
      clear hb hv6
      go_wp2_with fail
      rw [HB.out, HLL.out]
      exact bodyPost_ret (v := .tuple #[v6, .bool S.isSome]) (by simp [results, Tryz.results9, go_sem]) rfl ⟨⟨v6, rfl, HV.out⟩, H6.out.below⟩

theorem finish_any (M : Nat → Nat → Bool) (hsym : ∀ i j, M i j = M j i) (hirr : ∀ i, M i i = false) (N n : Nat) (hN : N ≤ 13) (hn : n ≤ 6) (h0 : 0 < N) (vb vc : Value) (Z B : Nat) (us : List Value) (hB : B ≤ Z) (w : World) (hBw : B ≤ w.heap.size) (hc : Cls w Z vb vc us (gath (rowM M N) N) (opN N)) :
    Calls Tryz.prog 37 #[.agg #[vb, vc, .int .i64 n]] w (fun e w' => (∃ v, e = .returned (.tuple #[v, .bool (canB M N n (opN N))]) ∧ Ints w' Z v (finR M N n (opN N))) ∧ Below B w w') := by
  have hl : (gath (rowM M N) N).length = N := gath_len _ _
  have hr : (opN N).length = N := opN_len N
  obtain ⟨ab, cb, rfl, -⟩ := hc.rows.form
  rw [hl] at hc ⊢
  obtain ⟨gc, cc, rfl⟩ := hc.cols.some_ (by rw [hr]; omega)
  rw [hr] at hc ⊢
  have hg := (hc.cols.own gc rfl).1
  exact (implFinish M hsym hirr N n hN hn ab gc cb cc Z us _ hl (fun k hk => gath_at _ hk) (opN N) w hr (prA_opN M N n) hc).mono fun e w' h => ⟨h.1, h.2.os, h.2.tape, h.2.output, h.2.size, fun k hk => h.2.block k (by omega) (.inl (by omega))⟩

theorem gA_whole {ns ls : List Nd} (h : wholeB ns ls = true) : gA ns ls = atW ns ls ∧ gL ns ls = ls := by
  unfold gA gL
  rw [if_pos h, if_pos h]
  exact ⟨rfl, rfl⟩

set_option maxRecDepth 100000 in
set_option maxHeartbeats 4000000 in
theorem implColor (ns ls : List Nd) (vn vl : Value) (a : Int) (w : World) (hn : Prs w vn ns) (hl : Prs w vl ls) :
    Calls Tryz.prog 11 #[.agg #[vn, vl], .int .i64 a] w (CwRet (cwB ns ls a) (cwL ns ls a) w) := by
  have HBK := Lib.hid (fun v1 v2 v3 v4 B B2 w h1 h2 h3 h4 => implBlank v1 v2 v3 v4 (wF ns ls) (gA ns ls) (gN ns ls) (gL ns ls) B B2 a w h1 h2 h3 h4 (g_len ns ls).1 (g_len ns ls).2 wF_len)
  unfold BlankRet at HBK
  rw [besR] at HBK
  have h13 := wF_thirteen ns ls
  have HPOS := Lib.hid (show wholeB ns ls = true → 0 < (wF ns ls).length from fun h => by rw [wF_whole h]; exact starts_pos (whole_win h).1 (whole_win h).2.1)
  have HYB := Lib.hid (fun (n : Nat) (h1 : a = n) (h2 : wholeB ns ls = true) h3 => (show cwB ns ls a = canB (besM (gA ns ls) (gL ns ls).length) (wF ns ls).length n (opN (wF ns ls).length) from by rw [(gA_whole h2).1, (gA_whole h2).2]; exact cwB_yes (ns := ns) (ls := ls) (a := a) n h1 h2 h3))
  have HYL := Lib.hid (fun (n : Nat) (h1 : a = n) (h2 : wholeB ns ls = true) h3 => (show cwL ns ls a = finR (besM (gA ns ls) (gL ns ls).length) (wF ns ls).length n (opN (wF ns ls).length) from by rw [(gA_whole h2).1, (gA_whole h2).2]; exact cwL_yes (ns := ns) (ls := ls) (a := a) n h1 h2 h3))
  have HNO1 := Lib.hid (fun h => cwB_no1 (ns := ns) (ls := ls) (a := a) h)
  have HNO2 := Lib.hid (fun h => cwB_no2 (ns := ns) (ls := ls) (a := a) h)
  have HNL := Lib.hid (fun h => cwL_no (ns := ns) (ls := ls) (a := a) h)
  have HFA := Lib.hid (fun (n : Nat) hn h0 vb vc Z B us hB w hBw hc => finish_any (besM (gA ns ls) (gL ns ls).length) (besM_sym _ _) (besM_irr _ _) (wF ns ls).length n h13 hn h0 vb vc Z B us hB w hBw hc)
  unfold CwRet
  generalize besM (gA ns ls) (gL ns ls).length = M at *
  generalize cwB ns ls a = QB at *
  generalize cwL ns ls a = RL at *
  have HN := Lib.hid hn
  have HL := Lib.hid hl
  have HGL := Lib.hid (fun w h1 h2 => implGlass ns ls vn vl w h1 h2)
  unfold GlassNew at HGL
  have H0 := Lib.hid (held_pair w vn vl 33)
  obtain ⟨A, c, rfl⟩ := prs_form2 hn
  obtain ⟨A2, c2, rfl⟩ := prs_form2 hl
  clear hn hl
  generalize gN ns ls = ns' at *
  generalize gL ns ls = ls' at *
  generalize gA ns ls = ds at *
  generalize wF ns ls = rs at *
  generalize wholeB ns ls = ok at *
  have HIN := Lib.hid (inB_iff a 1 6)
  generalize inB a 1 6 = ok2 at *
  go_enter Tryz.func11, Tryz.ntmps11
  obtain ⟨x0, x1, _⟩ := H0.out.1
  go_wp2_with fail
  refine (HGL.out _ (HN.out.step H0.out.below) (HL.out.step H0.out.below)).mono ?_
  rintro e w1 ⟨v1, v2, v3, v4, rfl, g1, g2, g3, g4, hb⟩
  have H1 := Lib.hid (H0.out.step hb)
  have G0 := Lib.hid (heldG w1 v1 v2 v3 v4 61)
  have B1 := Lib.hid (H1.out.below.trans (G0.out.below.mono H1.out.below.size))
  have G1 := Lib.hid (g1.step G0.out.below)
  have G2 := Lib.hid (g2.step G0.out.below)
  have G3 := Lib.hid (g3.step G0.out.below)
  have G4 := Lib.hid (g4.step G0.out.below)
  obtain ⟨A5, c5, rfl⟩ := prs_form2 g1
  obtain ⟨A6, c6, rfl⟩ := prs_form2 g2
  obtain ⟨A7, c7, rfl⟩ := faces_form g3
  obtain ⟨A8, c8, rfl⟩ := ints_form g4
  clear hb g1 g2 g3 g4 x0 x1
  obtain ⟨x0, x1, x2, x3, _⟩ := G0.out.1
  by_cases hok : ok = true
  · subst hok
    by_cases h1 : a < 1
    · have hz : ok2 = false := by
        rw [Bool.eq_false_iff]; intro h; have := HIN.out.1 h; omega
      have HF := Lib.hid (HNO2.out hz)
      have HFL := Lib.hid (HNL.out HF.out)
      go_wp2_with fail
      rw [HF.out, HFL.out]
      exact bodyPost_ret (v := .tuple #[.slice none 0 0, .bool false]) (by simp [results, Tryz.results11, go_sem]) rfl ⟨⟨_, rfl, Ints.nil _ _⟩, B1.out⟩
    · by_cases h4 : a > 6
      · have hz : ok2 = false := by
          rw [Bool.eq_false_iff]; intro h; have := HIN.out.1 h; omega
        have HF := Lib.hid (HNO2.out hz)
        have HFL := Lib.hid (HNL.out HF.out)
        go_wp2_with fail
        rw [HF.out, HFL.out]
        exact bodyPost_ret (v := .tuple #[.slice none 0 0, .bool false]) (by simp [results, Tryz.results11, go_sem]) rfl ⟨⟨_, rfl, Ints.nil _ _⟩, B1.out⟩
      · have hz : ok2 = true := HIN.out.2 (by omega)
        subst hz
        obtain ⟨n, rfl⟩ : ∃ n : Nat, a = n := ⟨a.toNat, by omega⟩
        have p1 : (1 : Int) ≤ (n : Int) := by omega
        have p2 : (n : Int) ≤ 6 := by omega
        have d1 : decide ((n : Int) < 1) = false := decide_eq_false h1
        have d2 : decide ((n : Int) > 6) = false := decide_eq_false h4
        have d3 : decide (6 < (n : Int)) = false := decide_eq_false h4
        have HB := Lib.hid (HYB.out n rfl (by first | rfl | trivial) (by first | rfl | trivial))
        have HLL := Lib.hid (HYL.out n rfl (by first | rfl | trivial) (by first | rfl | trivial))
        have HFN := Lib.hid (HFA.out n (by omega) (HPOS.out (by first | rfl | trivial)))
        clear HYB HYL HFA
        rw [← HB.out, ← HLL.out] at HFN
        go_wp2_with fail
        refine (HBK.out _ _ _ _ _ _ _ G1.out G2.out G3.out G4.out).mono ?_
        rintro e w2 ⟨vb, vc, us, rfl, hcl, hb⟩
        have hsz := B1.out.size
        have B2 := Lib.hid (B1.out.trans (hb.mono B1.out.size))
        have HCT := Lib.hid (HFN.out vb vc _ w.heap.size us B1.out.size w2 B2.out.size hcl)
        clear hb hcl
        go_wp2_with fail
        refine HCT.out.mono ?_
        rintro e w3 ⟨⟨v, rfl, hv⟩, hb⟩
        have B3 := Lib.hid (B2.out.trans hb)
        have HV := Lib.hid (hv.mono (b' := w.heap.size) hsz)
        clear hb hv
        go_wp2_with fail
        exact bodyPost_ret (v := .tuple #[v, .bool QB]) (by simp [results, Tryz.results11, go_sem]) rfl ⟨⟨_, rfl, HV.out⟩, B3.out⟩
  · obtain rfl : ok = false := by simpa using hok
    have HF := Lib.hid (HNO1.out (by first | rfl | trivial))
    have HFL := Lib.hid (HNL.out HF.out)
    go_wp2_with fail
    rw [HF.out, HFL.out]
    exact bodyPost_ret (v := .tuple #[.slice none 0 0, .bool false]) (by simp [results, Tryz.results11, go_sem]) rfl ⟨⟨_, rfl, Ints.nil _ _⟩, B1.out⟩
end Go.Proofs.YtmcbbjobjogkmabGreat

namespace Go.Proofs.YtmcbbjobjogkmabGreat
open Go.RowKit
set_option linter.unusedVariables false
set_option linter.unusedSimpArgs false

/-- The first of i, i+1, .. of which B holds, among d. -/
def fewU (B : Int → Bool) : Nat → Int → Int
  | 0, _ => -1
  | d + 1, i => if B i = true then i else fewU B d (i + 1)

theorem fewU_yes {B : Int → Bool} {d : Nat} {i : Int} (h : B i = true) : fewU B (d + 1) i = i := if_pos h

theorem fewU_no {B : Int → Bool} {d : Nat} {i : Int} (h : B i = false) : fewU B (d + 1) i = fewU B d (i + 1) := if_neg (by rw [h]; simp)

noncomputable def fewC (ns ls : List Nd) : Int := fewU (cwB ns ls) 6 1

set_option maxRecDepth 100000 in
set_option maxHeartbeats 2000000 in
theorem specFewest (ns ls : List Nd) (vn vl : Value) (w : World) (hn : Prs w vn ns) (hl : Prs w vl ls) :
    Calls Tryz.prog 17 #[.agg #[vn, vl]] w (IntIs (fewC ns ls) w) := by
  have HC := Lib.hid (fun a w h1 h2 => specColor ns ls vn vl a w h1 h2)
  have HZ := Lib.hid (show fewC ns ls = fewU (cwB ns ls) 6 1 from rfl)
  have HYES := Lib.hid (fun d i h => fewU_yes (B := cwB ns ls) (d := d) (i := i) h)
  have HNO := Lib.hid (fun d i h => fewU_no (B := cwB ns ls) (d := d) (i := i) h)
  have HEND := Lib.hid (fun i => (show fewU (cwB ns ls) 0 i = -1 from rfl))
  unfold CwRet at HC
  have HN := Lib.hid hn
  have HL := Lib.hid hl
  have H0 := Lib.hid (held_pair w vn vl 33)
  obtain ⟨A, c, rfl⟩ := prs_form2 hn
  obtain ⟨A2, c2, rfl⟩ := prs_form2 hl
  clear hn hl
  generalize fewC ns ls = R at *
  generalize fewU (cwB ns ls) = FU at *
  generalize cwB ns ls = CB at *
  go_enter Tryz.func17, Tryz.ntmps17
  obtain ⟨x0, x1, _⟩ := H0.out.1
  go_wp2_with fail
  go_loopw [3] (fun vi wr => ∃ (i : Int) (d : Nat), i + d = 7 ∧ 1 ≤ i ∧ vi = .int .i64 i ∧ FU d i = R ∧ Held w wr [(w.heap.size, 0, .slice A ns.length c), (w.heap.size, 1, .slice A2 ls.length c2)]) (fun vi _ => 7 - (intOf vi).toNat)
  case atStart => exact ⟨1, 6, rfl, by omega, rfl, by rw [HZ.out], H0.out⟩
  case round =>
    clear H0 x0 x1
    obtain ⟨i, d, hid, hi1, rfl, hfu, hh⟩ := hrel
    have HFU := Lib.hid hfu; clear hfu
    have H0 := Lib.hid hh; clear hh
    obtain ⟨x0, x1, _⟩ := H0.out.1
    by_cases hi : i ≤ 6
    · obtain ⟨d, rfl⟩ : ∃ k, d = k + 1 := ⟨d - 1, by omega⟩
      have HYI := Lib.hid (HYES.out d i)
      have HNI := Lib.hid (HNO.out d i)
      have HCI := Lib.hid (HC.out i)
      generalize CB i = cb at *
      go_wp2_with fail
      refine (HCI.out _ (HN.out.step H0.out.below) (HL.out.step H0.out.below)).mono ?_
      rintro e w1 ⟨⟨v, rfl, -⟩, hb⟩
      have H1 := Lib.hid (H0.out.step hb)
      clear hb x0 x1
      cases cb
      · have HS := Lib.hid (HNI.out (by first | rfl | trivial))
        go_wp2_with fail
        exact ⟨⟨i + 1, d, by omega, by omega, by go_num, by rw [← HS.out]; exact HFU.out, H1.out⟩, by simp [intOf]; omega⟩
      · have HS := Lib.hid (HYI.out (by first | rfl | trivial))
        go_wp2_with fail
        go_ret
        exact ⟨by rw [← HFU.out, HS.out]; rfl, H1.out.below⟩
    · obtain rfl : i = 7 := by omega
      obtain rfl : d = 0 := by omega
      have HE := Lib.hid (HEND.out 7)
      go_wp2_with fail
      go_ret
      exact ⟨by rw [← HFU.out, HE.out]; rfl, H0.out.below⟩

set_option maxRecDepth 100000 in
set_option maxHeartbeats 2000000 in
theorem implFewest (ns ls : List Nd) (vn vl : Value) (w : World) (hn : Prs w vn ns) (hl : Prs w vl ls) :
    Calls Tryz.prog 18 #[.agg #[vn, vl]] w (IntIs (fewC ns ls) w) := by
  have HC := Lib.hid (fun a w h1 h2 => implColor ns ls vn vl a w h1 h2)
  have HZ := Lib.hid (show fewC ns ls = fewU (cwB ns ls) 6 1 from rfl)
  have HYES := Lib.hid (fun d i h => fewU_yes (B := cwB ns ls) (d := d) (i := i) h)
  have HNO := Lib.hid (fun d i h => fewU_no (B := cwB ns ls) (d := d) (i := i) h)
  have HEND := Lib.hid (fun i => (show fewU (cwB ns ls) 0 i = -1 from rfl))
  unfold CwRet at HC
  have HN := Lib.hid hn
  have HL := Lib.hid hl
  have H0 := Lib.hid (held_pair w vn vl 33)
  obtain ⟨A, c, rfl⟩ := prs_form2 hn
  obtain ⟨A2, c2, rfl⟩ := prs_form2 hl
  clear hn hl
  generalize fewC ns ls = R at *
  generalize fewU (cwB ns ls) = FU at *
  generalize cwB ns ls = CB at *
  go_enter Tryz.func18, Tryz.ntmps18
  obtain ⟨x0, x1, _⟩ := H0.out.1
  go_wp2_with fail
  go_loopw [3] (fun vi wr => ∃ (i : Int) (d : Nat), i + d = 7 ∧ 1 ≤ i ∧ vi = .int .i64 i ∧ FU d i = R ∧ Held w wr [(w.heap.size, 0, .slice A ns.length c), (w.heap.size, 1, .slice A2 ls.length c2)]) (fun vi _ => 7 - (intOf vi).toNat)
  case atStart => exact ⟨1, 6, rfl, by omega, rfl, by rw [HZ.out], H0.out⟩
  case round =>
    clear H0 x0 x1
    obtain ⟨i, d, hid, hi1, rfl, hfu, hh⟩ := hrel
    have HFU := Lib.hid hfu; clear hfu
    have H0 := Lib.hid hh; clear hh
    obtain ⟨x0, x1, _⟩ := H0.out.1
    by_cases hi : i ≤ 6
    · obtain ⟨d, rfl⟩ : ∃ k, d = k + 1 := ⟨d - 1, by omega⟩
      have HYI := Lib.hid (HYES.out d i)
      have HNI := Lib.hid (HNO.out d i)
      have HCI := Lib.hid (HC.out i)
      generalize CB i = cb at *
      go_wp2_with fail
      refine (HCI.out _ (HN.out.step H0.out.below) (HL.out.step H0.out.below)).mono ?_
      rintro e w1 ⟨⟨v, rfl, -⟩, hb⟩
      have H1 := Lib.hid (H0.out.step hb)
      clear hb x0 x1
      cases cb
      · have HS := Lib.hid (HNI.out (by first | rfl | trivial))
        go_wp2_with fail
        exact ⟨⟨i + 1, d, by omega, by omega, by go_num, by rw [← HS.out]; exact HFU.out, H1.out⟩, by simp [intOf]; omega⟩
      · have HS := Lib.hid (HYI.out (by first | rfl | trivial))
        go_wp2_with fail
        go_ret
        exact ⟨by rw [← HFU.out, HS.out]; rfl, H1.out.below⟩
    · obtain rfl : i = 7 := by omega
      obtain rfl : d = 0 := by omega
      have HE := Lib.hid (HEND.out 7)
      go_wp2_with fail
      go_ret
      exact ⟨by rw [← HFU.out, HE.out]; rfl, H0.out.below⟩
end Go.Proofs.YtmcbbjobjogkmabGreat
