/-
  Several texts in one: a claim has at most 60 files.
-/
import Derived.Test.YtepacoacalhdcaaGreatG21
import Derived.Test.YtepacoacalhdcaaGreatG12

namespace Go.Proofs.YtepacoacalhdcaaGreat
open Go.RowKit
set_option linter.unusedVariables false
set_option linter.unusedSimpArgs false

def addQ (P : Int → Bool) (T : List Int) (x : Int) : List Int := if (P x && !T.contains x) = true then T ++ [x] else T

theorem addQ_yes {P : Int → Bool} {T : List Int} {x : Int} (h1 : P x = true) (h2 : T.contains x = false) : addQ P T x = T ++ [x] := by unfold addQ; rw [h1, h2]; rfl

theorem addQ_not {P : Int → Bool} {T : List Int} {x : Int} (h1 : P x = false) : addQ P T x = T := by unfold addQ; rw [h1]; rfl

theorem addQ_has {P : Int → Bool} {T : List Int} {x : Int} (h2 : T.contains x = true) : addQ P T x = T := by unfold addQ; rw [h2]; simp

/-- All of a list are natural numbers below N, no one twice. -/
def NatL (N : Nat) (T : List Int) : Prop := T.Nodup ∧ ∀ x, x ∈ T → ∃ q : Nat, x = q ∧ q < N

theorem NatL.add {N : Nat} {T : List Int} {P : Int → Bool} {x : Int} (h : NatL N T) (hx : ∃ q : Nat, x = q ∧ q < N) : NatL N (addQ P T x) := by
  unfold addQ
  split
  · rename_i e
    simp at e
    refine ⟨?_, fun y hy => ?_⟩
    · rw [List.nodup_append]
      refine ⟨h.1, by simp, fun a ha b hb => ?_⟩
      simp at hb
      subst hb
      rintro rfl
      exact e.2 ha
    · rw [List.mem_append] at hy
      rcases hy with hy | hy
      · exact h.2 y hy
      · simp at hy
        subst hy
        exact hx
  · exact h

theorem NatL.fold {N : Nat} {P : Int → Bool} : ∀ (row : List Int) {T : List Int}, NatL N T → (∀ x, x ∈ row → ∃ q : Nat, x = q ∧ q < N) → NatL N (row.foldl (addQ P) T)
  | [], T, h, _ => h
  | x :: row, T, h, hr => NatL.fold row (h.add (hr x (by simp))) fun y hy => hr y (by simp [hy])

theorem NatL.at_ {N : Nat} {T : List Int} (h : NatL N T) {i : Nat} (hi : i < T.length) : ∃ q : Nat, atZ T i = q ∧ q < N := h.2 _ (by rw [← atZ_get hi]; exact List.getElem_mem hi)

theorem NatL.len {N : Nat} {T : List Int} (h : NatL N T) : T.length ≤ N := nodup_le N T h.1 h.2

theorem addQ_old {P : Int → Bool} {T : List Int} {x : Int} {i : Nat} (hi : i < T.length) : atZ (addQ P T x) i = atZ T i ∧ T.length ≤ (addQ P T x).length := by
  unfold addQ
  split
  · exact ⟨atZ_more hi, by simp⟩
  · exact ⟨rfl, Nat.le_refl _⟩

theorem fold_old {P : Int → Bool} : ∀ (row : List Int) {T : List Int} {i : Nat}, i < T.length → atZ (row.foldl (addQ P) T) i = atZ T i ∧ T.length ≤ (row.foldl (addQ P) T).length
  | [], T, i, h => ⟨rfl, Nat.le_refl _⟩
  | x :: row, T, i, h => by
    obtain ⟨h1, h2⟩ := addQ_old (P := P) (x := x) h
    obtain ⟨h3, h4⟩ := fold_old (P := P) row (T := addQ P T x) (i := i) (by omega)
    exact ⟨h3.trans h1, Nat.le_trans h2 h4⟩

/-- The queue when its first k have been looked at. -/
def qL (M : Nat → Nat → Bool) (P : Int → Bool) (N f : Nat) : Nat → List Int
  | 0 => [(f : Int)]
  | k + 1 => if k < (qL M P N f k).length then (rowM M N (atZ (qL M P N f k) k).toNat).foldl (addQ P) (qL M P N f k) else qL M P N f k

theorem qL_next {M : Nat → Nat → Bool} {P : Int → Bool} {N f k : Nat} (h : k < (qL M P N f k).length) : qL M P N f (k + 1) = (rowM M N (atZ (qL M P N f k) k).toNat).foldl (addQ P) (qL M P N f k) := if_pos h

theorem rowM_nat {M : Nat → Nat → Bool} {N h : Nat} : ∀ x, x ∈ rowM M N h → ∃ q : Nat, x = q ∧ q < N := fun x hx => by
  unfold rowM at hx
  obtain ⟨q, h1, h2, _⟩ := (fltN_mem _ _ _).1 hx
  exact ⟨q, h1, h2⟩

theorem qL_nat (M : Nat → Nat → Bool) (P : Int → Bool) {N f : Nat} (hf : f < N) : ∀ k, NatL N (qL M P N f k)
  | 0 => ⟨by show [(f : Int)].Nodup; simp, fun x hx => ⟨f, by simpa [qL] using hx, hf⟩⟩
  | k + 1 => by
    have ih := qL_nat M P hf k
    by_cases h : k < (qL M P N f k).length
    · rw [qL_next h]; exact ih.fold _ rowM_nat
    · rw [show qL M P N f (k + 1) = qL M P N f k from if_neg h]; exact ih

theorem qL_stay {M : Nat → Nat → Bool} {P : Int → Bool} {N f k : Nat} (h : (qL M P N f k).length ≤ k) : ∀ d, qL M P N f (k + d) = qL M P N f k
  | 0 => rfl
  | d + 1 => by
    have ih := qL_stay h d
    show (if k + d < (qL M P N f (k + d)).length then _ else qL M P N f (k + d)) = _
    rw [if_neg (by rw [ih]; omega), ih]

theorem qL_first (M : Nat → Nat → Bool) (P : Int → Bool) (N f : Nat) : ∀ k, 0 < (qL M P N f k).length ∧ atZ (qL M P N f k) 0 = f
  | 0 => ⟨Nat.zero_lt_one, rfl⟩
  | k + 1 => by
    obtain ⟨h1, h2⟩ := qL_first M P N f k
    by_cases h : k < (qL M P N f k).length
    · rw [qL_next h]
      obtain ⟨h3, h4⟩ := fold_old (P := P) (rowM M N (atZ (qL M P N f k) k).toNat) h1
      exact ⟨by omega, h3.trans h2⟩
    · rw [show qL M P N f (k + 1) = qL M P N f k from if_neg h]; exact ⟨h1, h2⟩

theorem qL_end {M : Nat → Nat → Bool} {P : Int → Bool} {N f k : Nat} (hf : f < N) (h : (qL M P N f k).length = k) : qL M P N f N = qL M P N f k := by
  have h1 := (qL_nat M P hf k).len
  have h2 := qL_stay (M := M) (P := P) (N := N) (f := f) (k := k) (by omega) (N - k)
  rwa [show k + (N - k) = N by omega] at h2

/-- The faces of the chain, ascending. -/
def chnL (M : Nat → Nat → Bool) (P : Int → Bool) (N f : Nat) : List Int := fltN (fun i => (qL M P N f N).contains (i : Int)) N

theorem chn_sorted {M : Nat → Nat → Bool} {P : Int → Bool} {N f : Nat} (hf : f < N) : (qL M P N f N).Perm (chnL M P N f) := by
  have h := qL_nat M P hf N
  refine (List.perm_ext_iff_of_nodup h.1 ?_).2 fun a => ?_
  · exact (fltN_asc _ _).imp fun h => by omega
  · unfold chnL
    rw [fltN_mem]
    constructor
    · intro ha
      obtain ⟨q, h1, h2⟩ := h.2 a ha
      subst h1
      exact ⟨q, rfl, h2, List.contains_iff_mem.2 ha⟩
    · rintro ⟨i, rfl, _, h3⟩
      exact List.contains_iff_mem.1 h3

/-- Who belongs to the chain has one of the two colors, where the first one has. -/
theorem fold_has {P : Int → Bool} {R : Int → Prop} (hP : ∀ x, P x = true → R x) : ∀ (row : List Int) {T : List Int}, (∀ x, x ∈ T → R x) → ∀ x, x ∈ row.foldl (addQ P) T → R x
  | [], T, h, x, hx => h x hx
  | y :: row, T, h, x, hx => fold_has hP row (T := addQ P T y) (fun z hz => by
      unfold addQ at hz
      split at hz
      · rename_i e
        simp at e
        rw [List.mem_append] at hz
        rcases hz with hz | hz
        · exact h z hz
        · simp at hz
          subst hz
          exact hP _ e.1
      · exact h z hz) x hx

theorem qL_has {M : Nat → Nat → Bool} {P : Int → Bool} {N f : Nat} {R : Int → Prop} (hf : R (f : Int)) (hP : ∀ x, P x = true → R x) : ∀ k x, x ∈ qL M P N f k → R x
  | 0, x, hx => by
    simp [qL] at hx
    subst hx
    exact hf
  | k + 1, x, hx => by
    have ih := qL_has (M := M) (N := N) hf hP k
    by_cases h : k < (qL M P N f k).length
    · rw [qL_next h] at hx; exact fold_has hP _ ih x hx
    · rw [show qL M P N f (k + 1) = qL M P N f k from if_neg h] at hx; exact ih x hx

theorem chn_has {M : Nat → Nat → Bool} {P : Int → Bool} {N f : Nat} {R : Int → Prop} (hf : R (f : Int)) (hP : ∀ x, P x = true → R x) {j : Nat} (hj : j < (chnL M P N f).length) : ∃ q : Nat, atZ (chnL M P N f) j = q ∧ q < N ∧ R (q : Int) := by
  obtain ⟨q, h1, h2, h3⟩ := (fltN_mem _ _ _).1 (show atZ (chnL M P N f) j ∈ chnL M P N f from by rw [← atZ_get hj]; exact List.getElem_mem hj)
  exact ⟨q, h1, h2, qL_has hf hP N _ (List.contains_iff_mem.1 h3)⟩

theorem chn_pos {M : Nat → Nat → Bool} {P : Int → Bool} {N f : Nat} (hf : f < N) : 0 < (chnL M P N f).length := by
  rw [← (chn_sorted (M := M) (P := P) hf).length_eq]
  exact (qL_first M P N f N).1

theorem fold_snoc (P : Int → Bool) (T row : List Int) (x : Int) : (row ++ [x]).foldl (addQ P) T = addQ P (row.foldl (addQ P) T) x := by rw [List.foldl_append]; rfl

theorem fold_take {P : Int → Bool} {T row : List Int} {j : Nat} (hj : j < row.length) : (row.take (j + 1)).foldl (addQ P) T = addQ P ((row.take j).foldl (addQ P) T) (atZ row j) := by
  rw [List.take_succ_eq_append_getElem hj, fold_snoc, atZ_get hj]

theorem fold_row {P : Int → Bool} {T : List Int} (p : Nat → Bool) (i : Nat) : (fltN p (i + 1)).foldl (addQ P) T = if p i = true then addQ P ((fltN p i).foldl (addQ P) T) i else (fltN p i).foldl (addQ P) T := by
  rw [fltN_succ]
  split
  · exact fold_snoc _ _ _ _
  · rfl
end Go.Proofs.YtepacoacalhdcaaGreat

namespace Go.Proofs.YtepacoacalhdcaaGreat
open Go.RowKit
set_option linter.unusedVariables false
set_option linter.unusedSimpArgs false

/-- All faces have colors below n, no two beside each other the same. -/
def Full (M : Nat → Nat → Bool) (N n : Nat) (ys : List Int) : Prop := ys.length = N ∧ ∀ i, i < N → (∃ c : Nat, atZ ys i = c ∧ c < n) ∧ ∀ j, j < N → M i j = true → atZ ys j ≠ atZ ys i

/-- The colors that are given are kept. -/
def Agr (N : Nat) (xs ys : List Int) : Prop := ∀ i, i < N → atZ xs i ≠ -1 → atZ ys i = atZ xs i

/-- What is given is in order. -/
def PrA (M : Nat → Nat → Bool) (N n : Nat) (xs : List Int) : Prop := ∀ i, i < N → atZ xs i ≠ -1 → (∃ c : Nat, atZ xs i = c ∧ c < n) ∧ ∀ j, j < N → M i j = true → atZ xs j ≠ atZ xs i

open Classical in
noncomputable def canB (M : Nat → Nat → Bool) (N n : Nat) (xs : List Int) : Bool := decide (∃ ys, Full M N n ys ∧ Agr N xs ys)

theorem canB_iff {M : Nat → Nat → Bool} {N n : Nat} {xs : List Int} : canB M N n xs = true ↔ ∃ ys, Full M N n ys ∧ Agr N xs ys := by unfold canB; simp

def openC (xs : List Int) : Nat := xs.countP fun x => x == -1

theorem atZ_setI {xs : List Int} {f i : Nat} (hf : f < xs.length) (x : Int) : atZ (xs.set f x) i = if i = f then x else atZ xs i := by
  unfold atZ
  simp only [List.getD_eq_getElem?_getD, List.getElem?_set]
  by_cases e : i = f
  · subst e; simp [hf]
  · rw [if_neg (fun h => e h.symm), if_neg e]

theorem openC_none {xs : List Int} (h : openC xs = 0) {i : Nat} (hi : i < xs.length) : atZ xs i ≠ -1 := by
  unfold openC at h
  rw [List.countP_eq_zero] at h
  have := h xs[i] (List.getElem_mem hi)
  rw [atZ_get hi] at this
  simpa using this

theorem openC_some {xs : List Int} {f : Nat} (hf : f < xs.length) (ho : atZ xs f = -1) {x : Int} (hx : x ≠ -1) : openC xs = openC (xs.set f x) + 1 := by
  unfold openC
  have h1 : xs = xs.take f ++ atZ xs f :: xs.drop (f + 1) := by
    rw [← atZ_get hf, ← List.drop_eq_getElem_cons hf, List.take_append_drop]
  have h2 : xs.set f x = xs.take f ++ x :: xs.drop (f + 1) := List.set_eq_take_append_cons_drop.trans (by rw [if_pos hf])
  rw [h2]
  conv => lhs; rw [h1]
  rw [List.countP_append, List.countP_append, List.countP_cons, List.countP_cons, ho]
  simp [hx]
  omega

theorem open_ex {xs : List Int} (h : openC xs ≠ 0) : ∃ i, i < xs.length ∧ atZ xs i = -1 := by
  unfold openC at h
  have : 0 < xs.countP fun x => x == -1 := by omega
  rw [List.countP_pos_iff] at this
  obtain ⟨a, ha, he⟩ := this
  obtain ⟨i, hi, rfl⟩ := List.getElem_of_mem ha
  exact ⟨i, hi, by rw [← atZ_get hi]; simpa using he⟩

theorem can_none {M : Nat → Nat → Bool} {N n : Nat} {xs : List Int} (hl : xs.length = N) (h : ∀ i, i < N → atZ xs i ≠ -1) (hp : PrA M N n xs) : canB M N n xs = true := canB_iff.2 ⟨xs, ⟨hl, fun i hi => hp i hi (h i hi)⟩, fun i hi _ => rfl⟩

theorem freeJ_iff {M : Nat → Nat → Bool} {N f c : Nat} {xs : List Int} : freeJ (rowM M N f) xs c = true ↔ ∀ h, h < N → M f h = true → atZ xs h ≠ (c : Int) := by
  unfold freeJ rowM
  rw [List.all_eq_true]
  constructor
  · intro h j hj hm e
    have := h (j : Int) ((fltN_mem _ _ _).2 ⟨j, rfl, hj, hm⟩)
    simp at this
    exact this e
  · intro h x hx
    obtain ⟨q, rfl, hq, hm⟩ := (fltN_mem _ _ _).1 hx
    have := h q hq hm
    simpa using this

section

variable {M : Nat → Nat → Bool} {N n f : Nat} {xs : List Int}

theorem can_of_set (hl : xs.length = N) (hf : f < N) (ho : atZ xs f = -1) {c : Nat} (h : canB M N n (xs.set f c) = true) : canB M N n xs = true := by
  obtain ⟨ys, h1, h2⟩ := canB_iff.1 h
  refine canB_iff.2 ⟨ys, h1, fun i hi hne => ?_⟩
  have hif : i ≠ f := fun e => hne (by rw [e]; exact ho)
  have := h2 i hi (by rw [atZ_setI (by omega), if_neg hif]; exact hne)
  rwa [atZ_setI (by omega), if_neg hif] at this

/-- Who fills all, gives f a color that is free, and goes on from there. -/
theorem can_next (hl : xs.length = N) (hf : f < N) {ys : List Int} (h1 : Full M N n ys) (h2 : Agr N xs ys) : ∃ c : Nat, atZ ys f = c ∧ c < n ∧ freeJ (rowM M N f) xs c = true ∧ canB M N n (xs.set f c) = true := by
  obtain ⟨⟨c, hc, hcn⟩, hd⟩ := h1.2 f hf
  refine ⟨c, hc, hcn, freeJ_iff.2 fun h hh hm e => ?_, canB_iff.2 ⟨ys, h1, fun i hi hne => ?_⟩⟩
  · have := h2 h hh (by rw [e]; omega)
    exact hd h hh hm (by rw [this, e, hc])
  · rw [atZ_setI (by omega)] at hne ⊢
    by_cases e : i = f
    · rw [if_pos e, e, hc]
    · rw [if_neg e] at hne ⊢
      exact h2 i hi hne

theorem can_step (hl : xs.length = N) (hf : f < N) (ho : atZ xs f = -1) : canB M N n xs = true ↔ ∃ c : Nat, c < n ∧ freeJ (rowM M N f) xs c = true ∧ canB M N n (xs.set f c) = true := by
  constructor
  · intro h
    obtain ⟨ys, h1, h2⟩ := canB_iff.1 h
    obtain ⟨c, _, h3, h4, h5⟩ := can_next hl hf h1 h2
    exact ⟨c, h3, h4, h5⟩
  · rintro ⟨c, _, _, h⟩
    exact can_of_set hl hf ho h

theorem PrA.set_ (hsym : ∀ i j, M i j = M j i) (hirr : ∀ i, M i i = false) (hl : xs.length = N) (h : PrA M N n xs) (hf : f < N) {c : Nat} (hc : c < n) (hfr : freeJ (rowM M N f) xs c = true) : PrA M N n (xs.set f c) := by
  intro i hi hne
  rw [atZ_setI (by omega)] at hne ⊢
  have hfr2 := freeJ_iff.1 hfr
  by_cases e : i = f
  · rw [if_pos e]
    refine ⟨⟨c, rfl, hc⟩, fun j hj hm => ?_⟩
    rw [atZ_setI (by omega)]
    by_cases e2 : j = f
    · rw [e, e2, hirr] at hm; cases hm
    · rw [if_neg e2]
      exact hfr2 j hj (by rw [← e]; exact hm)
  · rw [if_neg e] at hne ⊢
    refine ⟨(h i hi hne).1, fun j hj hm => ?_⟩
    rw [atZ_setI (by omega)]
    by_cases e2 : j = f
    · rw [if_pos e2]
      exact fun e3 => hfr2 i hi (by rw [hsym, ← e2]; exact hm) e3.symm
    · rw [if_neg e2]
      exact (h i hi hne).2 j hj hm

end

/-- Each open face, in order, gets the least color with which the others can be filled. -/
noncomputable def finC (M : Nat → Nat → Bool) (N n : Nat) (xs : List Int) (f : Nat) : Int := firstI (fun c => freeJ (rowM M N f) xs c && canB M N n (xs.set f (c : Int))) n

noncomputable def finK (M : Nat → Nat → Bool) (N n : Nat) (xs : List Int) : Nat → List Int
  | 0 => xs
  | k + 1 => if atZ (finK M N n xs k) k = -1 then (finK M N n xs k).set k (finC M N n (finK M N n xs k) k) else finK M N n xs k

section

variable {M : Nat → Nat → Bool} {N n : Nat} {xs : List Int}

theorem finK_set {k : Nat} (h : atZ (finK M N n xs k) k = -1) : finK M N n xs (k + 1) = (finK M N n xs k).set k (finC M N n (finK M N n xs k) k) := if_pos h

theorem finK_keep {k : Nat} (h : atZ (finK M N n xs k) k ≠ -1) : finK M N n xs (k + 1) = finK M N n xs k := if_neg h

theorem finK_len : ∀ k, (finK M N n xs k).length = xs.length
  | 0 => rfl
  | k + 1 => by
    by_cases h : atZ (finK M N n xs k) k = -1
    · rw [finK_set h, List.length_set, finK_len k]
    · rw [finK_keep h, finK_len k]

theorem finC_is {f : Nat} (hl : xs.length = N) (hf : f < N) (ho : atZ xs f = -1) (h : canB M N n xs = true) : ∃ c : Nat, finC M N n xs f = c ∧ c < n ∧ freeJ (rowM M N f) xs c = true ∧ canB M N n (xs.set f (c : Int)) = true ∧ ∀ j, j < c → (freeJ (rowM M N f) xs j && canB M N n (xs.set f (j : Int))) = false := by
  unfold finC
  rcases firstI_cases (fun c => freeJ (rowM M N f) xs c && canB M N n (xs.set f (c : Int))) n with ⟨_, h2⟩ | ⟨m, h1, h2, h3, h4⟩
  · obtain ⟨c, hc, h5, h6⟩ := (can_step hl hf ho).1 h
    have := h2 c hc
    simp only [h5, h6] at this
    cases this
  · simp only [Bool.and_eq_true] at h3
    exact ⟨m, h1, h2, h3.1, h3.2, h4⟩

structure FinI (M : Nat → Nat → Bool) (N n : Nat) (xs : List Int) (k : Nat) : Prop where
  can : canB M N n (finK M N n xs k) = true
  prA : PrA M N n (finK M N n xs k)
  done : ∀ i, i < k → atZ (finK M N n xs k) i ≠ -1
  rest : ∀ i, (k ≤ i ∨ atZ xs i ≠ -1) → atZ (finK M N n xs k) i = atZ xs i

theorem finI (hsym : ∀ i j, M i j = M j i) (hirr : ∀ i, M i i = false) (hl : xs.length = N) (hc : canB M N n xs = true) (hp : PrA M N n xs) : ∀ k, k ≤ N → FinI M N n xs k
  | 0, _ => ⟨hc, hp, fun i hi => by omega, fun i _ => rfl⟩
  | k + 1, hk => by
    obtain ⟨h1, h2, h3, h4⟩ := finI hsym hirr hl hc hp k (by omega)
    have hlk : (finK M N n xs k).length = N := by rw [finK_len, hl]
    by_cases h : atZ (finK M N n xs k) k = -1
    · obtain ⟨c, hcc, hcn, hfr, hcan, _⟩ := finC_is hlk (by omega) h h1
      have e := finK_set h
      rw [hcc] at e
      refine ⟨by rw [e]; exact hcan, by rw [e]; exact h2.set_ hsym hirr hlk (by omega) hcn hfr, fun i hi => ?_, fun i hi => ?_⟩
      · rw [e, atZ_setI (by omega)]
        by_cases e2 : i = k
        · rw [if_pos e2]; omega
        · rw [if_neg e2]; exact h3 i (by omega)
      · rw [e, atZ_setI (by omega)]
        by_cases e2 : i = k
        · subst e2
          rcases hi with hi | hi
          · omega
          · exact absurd ((h4 i (.inl (Nat.le_refl _))).symm.trans h) hi
        · rw [if_neg e2]
          exact h4 i (hi.imp (fun h => by omega) id)
    · refine ⟨by rw [finK_keep h]; exact h1, by rw [finK_keep h]; exact h2, fun i hi => ?_, fun i hi => ?_⟩
      · rw [finK_keep h]
        by_cases e2 : i = k
        · rw [e2]; exact h
        · exact h3 i (by omega)
      · rw [finK_keep h]
        exact h4 i (hi.imp (fun h => by omega) id)

/-- What has been fixed stays. -/
theorem finK_stay {i : Nat} (hi : i < xs.length) : ∀ d k, i < k → atZ (finK M N n xs (k + d)) i = atZ (finK M N n xs k) i
  | 0, k, h => rfl
  | d + 1, k, h => by
    rw [← finK_stay hi d k h]
    show atZ (finK M N n xs (k + d + 1)) i = _
    by_cases e : atZ (finK M N n xs (k + d)) (k + d) = -1
    · rw [finK_set e]
      by_cases hk : k + d < (finK M N n xs (k + d)).length
      · rw [atZ_setI hk, if_neg (by omega)]
      · rw [List.set_eq_of_length_le (by omega)]
    · rw [finK_keep e]

end

/-- The first of all ways that keep what is given, with a head. -/
def LexM (M : Nat → Nat → Bool) (N n : Nat) (gs L : List Int) (m : Nat) : Prop :=
  Full M N n L ∧ Agr N gs L ∧ ∀ ys, Full M N n ys → Agr N gs ys → (∀ i, i < m → atZ ys i = atZ L i) → ∀ k, k < N → (∀ i, i < k → atZ ys i = atZ L i) → atZ L k ≤ atZ ys k

theorem LexM.unique {M : Nat → Nat → Bool} {N n : Nat} {gs L K : List Int} (hL : LexM M N n gs L 0) (hK : LexM M N n gs K 0) : L = K := by
  have h : ∀ k, k ≤ N → ∀ i, i < k → atZ L i = atZ K i := by
    intro k
    induction k with
    | zero => exact fun _ i hi => by omega
    | succ k ih =>
      intro hk i hi
      have ih := ih (by omega)
      by_cases e : i = k
      · subst e
        have h1 := hL.2.2 K hK.1 hK.2.1 (fun j hj => by omega) i (by omega) fun j hj => (ih j hj).symm
        have h2 := hK.2.2 L hL.1 hL.2.1 (fun j hj => by omega) i (by omega) fun j hj => ih j hj
        omega
      · exact ih i (by omega)
  refine List.ext_getElem (by rw [hL.1.1, hK.1.1]) fun i h1 h2 => ?_
  rw [atZ_get h1, atZ_get h2]
  exact h N (Nat.le_refl _) i (by rw [← hL.1.1]; exact h1)

theorem finK_lex {M : Nat → Nat → Bool} {N n : Nat} {xs : List Int} (hsym : ∀ i j, M i j = M j i) (hirr : ∀ i, M i i = false) (hl : xs.length = N) (hc : canB M N n xs = true) (hp : PrA M N n xs) : LexM M N n xs (finK M N n xs N) 0 := by
  have hN := finI hsym hirr hl hc hp N (Nat.le_refl _)
  refine ⟨⟨by rw [finK_len, hl], fun i hi => hN.prA i hi (hN.done i hi)⟩, fun i hi hne => hN.rest i (.inr hne), fun ys h1 h2 _ k hk hpre => ?_⟩
  have hI := finI hsym hirr hl hc hp k (by omega)
  have hlk : (finK M N n xs k).length = N := by rw [finK_len, hl]
  have hs : atZ (finK M N n xs N) k = atZ (finK M N n xs (k + 1)) k := by
    have := finK_stay (M := M) (N := N) (n := n) (xs := xs) (i := k) (by omega) (N - (k + 1)) (k + 1) (by omega)
    rwa [show k + 1 + (N - (k + 1)) = N by omega] at this
  have hagr : Agr N (finK M N n xs k) ys := fun i hi hne => by
    by_cases e : i < k
    · rw [hpre i e]
      have := finK_stay (M := M) (N := N) (n := n) (xs := xs) (i := i) (by omega) (N - k) k e
      rwa [show k + (N - k) = N by omega] at this
    · rw [hI.rest i (.inl (by omega))] at hne ⊢
      exact h2 i hi hne
  by_cases h : atZ (finK M N n xs k) k = -1
  · obtain ⟨c, hcc, hcn, hfr, hcan, hmin⟩ := finC_is hlk hk h hI.can
    obtain ⟨d, hd, hdn, hfd, hcd⟩ := can_next hlk hk h1 hagr
    rw [hs, finK_set h, atZ_setI (by omega), if_pos rfl, hcc, hd]
    refine Classical.byContradiction fun hlt => ?_
    have := hmin d (by omega)
    rw [hfd, hcd] at this
    cases this
  · rw [hs, finK_keep h, hagr k hk h]
    exact Int.le_refl _

/-- May x stand at place k behind the head? -/
def okx (M : Nat → Nat → Bool) (gs hs : List Int) (k x : Nat) : Bool := (decide (atZ gs k < 0) || decide (atZ gs k = (x : Int))) && freC M hs k x

/-- The first way to go on from a head, d places long. -/
def srch (M : Nat → Nat → Bool) (gs : List Int) (n : Nat) : Nat → List Int → Option (List Int)
  | 0, hs => some hs
  | d + 1, hs => (List.range n).findSome? fun x => if okx M gs hs hs.length x = true then srch M gs n d (hs ++ [(x : Int)]) else none

/-- No color below x at place k leads to an end. -/
def NoB (M : Nat → Nat → Bool) (gs : List Int) (n d : Nat) (hs : List Int) (x : Nat) : Prop := ∀ q, q < x → okx M gs hs hs.length q = true → srch M gs n d (hs ++ [(q : Int)]) = none

theorem NoB.zero (M : Nat → Nat → Bool) (gs : List Int) (n d : Nat) (hs : List Int) : NoB M gs n d hs 0 := fun q hq => by omega

theorem NoB.bad {M : Nat → Nat → Bool} {gs : List Int} {n d x : Nat} {hs : List Int} (h : NoB M gs n d hs x) (hb : okx M gs hs hs.length x = false) : NoB M gs n d hs (x + 1) := fun q hq ho => by
  by_cases e : q = x
  · subst e; rw [hb] at ho; cases ho
  · exact h q (by omega) ho

theorem NoB.none_ {M : Nat → Nat → Bool} {gs : List Int} {n d x : Nat} {hs : List Int} (h : NoB M gs n d hs x) (hb : srch M gs n d (hs ++ [(x : Int)]) = none) : NoB M gs n d hs (x + 1) := fun q hq ho => by
  by_cases e : q = x
  · subst e; exact hb
  · exact h q (by omega) ho

theorem srch_hit {M : Nat → Nat → Bool} {gs : List Int} {n d x : Nat} {hs L : List Int} (h : NoB M gs n d hs x) (hx : x < n) (ho : okx M gs hs hs.length x = true) (hs2 : srch M gs n d (hs ++ [(x : Int)]) = some L) : srch M gs n (d + 1) hs = some L := by
  show (List.range n).findSome? _ = some L
  rw [List.findSome?_eq_some_iff]
  refine ⟨List.range x, x, (List.range (n - x - 1)).map (fun i => x + 1 + i), ?_, ?_, ?_⟩
  · refine List.ext_getElem (by simp; omega) fun i h1 h2 => ?_
    simp [List.getElem_append, List.getElem_cons]
    split <;> omega
  · rw [if_pos ho, hs2]
  · intro q hq
    rw [List.mem_range] at hq
    by_cases e : okx M gs hs hs.length q = true
    · rw [if_pos e]; exact h q hq e
    · rw [if_neg e]

theorem srch_miss {M : Nat → Nat → Bool} {gs : List Int} {n d : Nat} {hs : List Int} (h : NoB M gs n d hs n) : srch M gs n (d + 1) hs = none := by
  show (List.range n).findSome? _ = none
  rw [List.findSome?_eq_none_iff]
  intro q hq
  rw [List.mem_range] at hq
  by_cases e : okx M gs hs hs.length q = true
  · rw [if_pos e]; exact h q hq e
  · rw [if_neg e]

theorem srch_cases {M : Nat → Nat → Bool} {gs : List Int} {n d : Nat} {hs : List Int} : (∃ L x, x < n ∧ NoB M gs n d hs x ∧ okx M gs hs hs.length x = true ∧ srch M gs n d (hs ++ [(x : Int)]) = some L ∧ srch M gs n (d + 1) hs = some L) ∨ (NoB M gs n d hs n ∧ srch M gs n (d + 1) hs = none) := by
  have key : ∀ x, x ≤ n → NoB M gs n d hs x ∨ ∃ L x, x < n ∧ NoB M gs n d hs x ∧ okx M gs hs hs.length x = true ∧ srch M gs n d (hs ++ [(x : Int)]) = some L := by
    intro x
    induction x with
    | zero => exact fun _ => .inl (NoB.zero _ _ _ _ _)
    | succ x ih =>
      intro hx
      rcases ih (by omega) with h | h
      · cases e : okx M gs hs hs.length x
        · exact .inl (h.bad e)
        · cases e2 : srch M gs n d (hs ++ [(x : Int)]) with
          | none => exact .inl (h.none_ e2)
          | some L => exact .inr ⟨L, x, by omega, h, e, e2⟩
      · exact .inr h
  rcases key n (Nat.le_refl _) with h | ⟨L, x, h1, h2, h3, h4⟩
  · exact .inr ⟨h, srch_miss h⟩
  · exact .inl ⟨L, x, h1, h2, h3, h4, srch_hit h2 h1 h3 h4⟩

def FullH (M : Nat → Nat → Bool) (n : Nat) (gs hs : List Int) : Prop := ∀ i, i < hs.length → (∃ c : Nat, atZ hs i = c ∧ c < n) ∧ (atZ gs i ≠ -1 → atZ hs i = atZ gs i) ∧ ∀ j, j < i → M i j = true → atZ hs j ≠ atZ hs i

theorem atZ_new {xs : List Int} {x : Int} : atZ (xs ++ [x]) xs.length = x := by unfold atZ; simp [List.getD]

theorem FullH.snoc {M : Nat → Nat → Bool} {n x : Nat} {gs hs : List Int} (hg : ∀ i, i < gs.length → -1 ≤ atZ gs i) (hk : hs.length < gs.length) (h : FullH M n gs hs) (hx : x < n) (ho : okx M gs hs hs.length x = true) : FullH M n gs (hs ++ [(x : Int)]) := by
  intro i hi
  simp at hi
  unfold okx at ho
  simp only [Bool.and_eq_true, Bool.or_eq_true, decide_eq_true_eq] at ho
  by_cases e : i < hs.length
  · rw [atZ_more e]
    refine ⟨(h i e).1, (h i e).2.1, fun j hj hm => ?_⟩
    rw [atZ_more (by omega)]
    exact (h i e).2.2 j hj hm
  · obtain rfl : i = hs.length := by omega
    rw [atZ_new]
    refine ⟨⟨x, rfl, hx⟩, fun hne => ?_, fun j hj hm => ?_⟩
    · have := hg _ hk
      rcases ho.1 with h1 | h1 <;> omega
    · rw [atZ_more hj]
      exact freC_iff.1 ho.2 j hj hm

theorem srch_is {M : Nat → Nat → Bool} {N n : Nat} {gs : List Int} (hsym : ∀ i j, M i j = M j i) (hirr : ∀ i, M i i = false) (hgl : gs.length = N) (hg : ∀ i, i < N → -1 ≤ atZ gs i) : ∀ d hs, hs.length + d = N → FullH M n gs hs →
    (∀ L, srch M gs n d hs = some L → LexM M N n gs L hs.length ∧ ∀ i, i < hs.length → atZ L i = atZ hs i) ∧ (srch M gs n d hs = none → ∀ ys, Full M N n ys → Agr N gs ys → (∀ i, i < hs.length → atZ ys i = atZ hs i) → False)
  | 0, hs, hl, hF => by
    refine ⟨fun L hL => ?_, fun h => by cases h⟩
    injection hL with hL
    subst hL
    refine ⟨⟨⟨by omega, fun i hi => ⟨(hF i (by omega)).1, fun j hj hm => ?_⟩⟩, fun i hi hne => (hF i (by omega)).2.1 hne, fun ys _ _ hp k hk _ => by rw [hp k (by omega)]; exact Int.le_refl _⟩, fun i _ => rfl⟩
    rcases Nat.lt_trichotomy j i with h1 | h1 | h1
    · exact (hF i (by omega)).2.2 j h1 hm
    · rw [h1, hirr] at hm; cases hm
    · exact fun e => (hF j (by omega)).2.2 i h1 (by rw [hsym]; exact hm) e.symm
  | d + 1, hs, hl, hF => by
    have ih := fun (x : Nat) (hx : x < n) (ho : okx M gs hs hs.length x = true) => srch_is (n := n) hsym hirr hgl hg d (hs ++ [(x : Int)]) (by simp; omega) (hF.snoc (fun i hi => hg i (by omega)) (by omega) hx ho)
    -- whoever goes on from the head has a color at its end that may stand there
    have hcol : ∀ ys, Full M N n ys → Agr N gs ys → (∀ i, i < hs.length → atZ ys i = atZ hs i) → ∃ x : Nat, atZ ys hs.length = x ∧ x < n ∧ okx M gs hs hs.length x = true ∧ ∀ i, i < (hs ++ [(x : Int)]).length → atZ ys i = atZ (hs ++ [(x : Int)]) i := by
      intro ys h1 h2 hp
      obtain ⟨⟨c, hc, hcn⟩, hd⟩ := h1.2 hs.length (by omega)
      refine ⟨c, hc, hcn, ?_, fun i hi => ?_⟩
      · unfold okx
        simp only [Bool.and_eq_true, Bool.or_eq_true, decide_eq_true_eq]
        refine ⟨?_, freC_iff.2 fun i hi hm e => hd i (by omega) hm (by rw [hp i hi, e, hc])⟩
        by_cases e : atZ gs hs.length = -1
        · exact .inl (by omega)
        · exact .inr (by rw [← h2 hs.length (by omega) e, hc])
      · simp at hi
        by_cases e : i < hs.length
        · rw [atZ_more e]; exact hp i e
        · obtain rfl : i = hs.length := by omega
          rw [atZ_new, hc]
    rcases srch_cases (M := M) (gs := gs) (n := n) (d := d) (hs := hs) with ⟨L, x, hx, hno, ho, hL, hR⟩ | ⟨hno, hR⟩
    · refine ⟨fun L2 h2 => ?_, fun h => by rw [hR] at h; cases h⟩
      rw [hR] at h2
      injection h2 with h2
      subst h2
      obtain ⟨⟨i1, i2, i3⟩, i4⟩ := (ih x hx ho).1 _ hL
      refine ⟨⟨i1, i2, fun ys h1 h2 hp k hk hpre => ?_⟩, fun i hi => by rw [i4 i (by simp; omega), atZ_more hi]⟩
      have hLx : atZ L hs.length = x := by rw [i4 hs.length (by simp), atZ_new]
      obtain ⟨y, hy, hyn, hyo, hyp⟩ := hcol ys h1 h2 fun i hi => by rw [hp i hi, i4 i (by simp; omega), atZ_more hi]
      by_cases e : y = x
      · subst e
        refine i3 ys h1 h2 (fun i hi => ?_) k hk hpre
        rw [hyp i hi, i4 i hi]
      · by_cases ek : k < hs.length
        · rw [hp k ek]; exact Int.le_refl _
        · by_cases ek2 : k = hs.length
          · subst ek2
            rw [hLx, hy]
            refine Classical.byContradiction fun hlt => ?_
            exact (ih y hyn hyo).2 (hno y (by omega) hyo) ys h1 h2 hyp
          · have := hpre hs.length (by omega)
            rw [hLx, hy] at this
            omega
    · refine ⟨fun L h => (by rw [hR] at h; cases h), fun _ ys h1 h2 hp => ?_⟩
      obtain ⟨y, hy, hyn, hyo, hyp⟩ := hcol ys h1 h2 hp
      exact (ih y hyn hyo).2 (hno y hyn hyo) ys h1 h2 hyp

/-- The search from the empty head finds what finish fills in. -/
theorem srch_fin {M : Nat → Nat → Bool} {N n : Nat} {gs : List Int} (hsym : ∀ i j, M i j = M j i) (hirr : ∀ i, M i i = false) (hgl : gs.length = N) (hg : ∀ i, i < N → -1 ≤ atZ gs i) (hp : PrA M N n gs) : srch M gs n N [] = if canB M N n gs = true then some (finK M N n gs N) else none := by
  have h := srch_is (n := n) hsym hirr hgl hg N [] (by simp) fun i hi => by simp at hi
  cases e : srch M gs n N [] with
  | none =>
    rw [if_neg]
    intro hc
    obtain ⟨ys, h1, h2⟩ := canB_iff.1 hc
    exact h.2 e ys h1 h2 fun i hi => by simp at hi
  | some L =>
    obtain ⟨h1, -⟩ := h.1 L e
    have hc : canB M N n gs = true := canB_iff.2 ⟨L, h1.1, h1.2.1⟩
    rw [if_pos hc]
    exact congrArg some (LexM.unique h1 (finK_lex hsym hirr hgl hc hp))

/-- Where what is given is not in order, nothing is found. -/
theorem srch_not {M : Nat → Nat → Bool} {N n : Nat} {gs : List Int} (hsym : ∀ i j, M i j = M j i) (hirr : ∀ i, M i i = false) (hgl : gs.length = N) (hg : ∀ i, i < N → -1 ≤ atZ gs i) (hp : canB M N n gs = false) : srch M gs n N [] = none := by
  have h := srch_is (n := n) hsym hirr hgl hg N [] (by simp) fun i hi => by simp at hi
  cases e : srch M gs n N [] with
  | none => rfl
  | some L =>
    obtain ⟨h1, -⟩ := h.1 L e
    rw [canB_iff.2 ⟨L, h1.1, h1.2.1⟩] at hp
    cases hp

theorem can_prA {M : Nat → Nat → Bool} {N n : Nat} {gs : List Int} (hsym : ∀ i j, M i j = M j i) (hirr : ∀ i, M i i = false) (h : canB M N n gs = true) : ∀ i, i < N → atZ gs i ≠ -1 → (∃ c : Nat, atZ gs i = c ∧ c < n) ∧ ∀ j, j < N → M i j = true → atZ gs j ≠ -1 → atZ gs j ≠ atZ gs i := by
  obtain ⟨ys, h1, h2⟩ := canB_iff.1 h
  intro i hi hne
  obtain ⟨⟨c, hc, hcn⟩, hd⟩ := h1.2 i hi
  refine ⟨⟨c, by rw [← h2 i hi hne, hc], hcn⟩, fun j hj hm hne2 => ?_⟩
  rw [← h2 j hj hne2, ← h2 i hi hne]
  exact hd j hj hm
end Go.Proofs.YtepacoacalhdcaaGreat
