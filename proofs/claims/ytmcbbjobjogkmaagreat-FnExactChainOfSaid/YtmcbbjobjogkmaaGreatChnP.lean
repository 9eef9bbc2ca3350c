/-
  A chain of faces with two colors, plainly: a queue that grows until all of it has been looked at.
-/
import Derived.Test.YtmcbbjobjogkmaaGreatG10
import Derived.Test.YtmcbbjobjogkmaaGreatFcnt
namespace Go.Proofs.YtmcbbjobjogkmaaGreat
open Go.RowKit
set_option linter.unusedVariables false
set_option linter.unusedSimpArgs false

def addQ (P : Int → Bool) (T : List Int) (x : Int) : List Int := if (P x && !T.contains x) = true then T ++ [x] else T

theorem addQ_yes {P : Int → Bool} {T : List Int} {x : Int} (h1 : P x = true) (h2 : T.contains x = false) : addQ P T x = T ++ [x] := by unfold addQ; rw [h1, h2]; rfl

theorem addQ_not {P : Int → Bool} {T : List Int} {x : Int} (h1 : P x = false) : addQ P T x = T := by unfold addQ; rw [h1]; rfl

theorem addQ_has {P : Int → Bool} {T : List Int} {x : Int} (h2 : T.contains x = true) : addQ P T x = T := by unfold addQ; rw [h2]; simp

/-- All of a list are natural numbers below N, no one twice. -/
def NatL (N : Nat) (T : List Int) : Prop := T.Nodup ∧ ∀ x, x ∈ T → ∃ q : Nat, x = q ∧ q < N

theorem NatL.add {N : Nat} {T : List Int} {P : Int → Bool} {x : Int} (h : NatL N T) (hx : ∃ q : Nat, x = q ∧ q < N) : NatL N (addQ P T x) := by
  unfold addQ
  split
  · rename_i e
    simp at e
    refine ⟨?_, fun y hy => ?_⟩
    · rw [List.nodup_append]
      refine ⟨h.1, by simp, fun a ha b hb => ?_⟩
      simp at hb
      subst hb
      rintro rfl
      exact e.2 ha
    · rw [List.mem_append] at hy
      rcases hy with hy | hy
      · exact h.2 y hy
      · simp at hy
        subst hy
        exact hx
  · exact h

theorem NatL.fold {N : Nat} {P : Int → Bool} : ∀ (row : List Int) {T : List Int}, NatL N T → (∀ x, x ∈ row → ∃ q : Nat, x = q ∧ q < N) → NatL N (row.foldl (addQ P) T)
  | [], T, h, _ => h
  | x :: row, T, h, hr => NatL.fold row (h.add (hr x (by simp))) fun y hy => hr y (by simp [hy])

theorem NatL.at_ {N : Nat} {T : List Int} (h : NatL N T) {i : Nat} (hi : i < T.length) : ∃ q : Nat, atZ T i = q ∧ q < N := h.2 _ (by rw [← atZ_get hi]; exact List.getElem_mem hi)

theorem NatL.len {N : Nat} {T : List Int} (h : NatL N T) : T.length ≤ N := nodup_le N T h.1 h.2

theorem addQ_old {P : Int → Bool} {T : List Int} {x : Int} {i : Nat} (hi : i < T.length) : atZ (addQ P T x) i = atZ T i ∧ T.length ≤ (addQ P T x).length := by
  unfold addQ
  split
  · exact ⟨atZ_more hi, by simp⟩
  · exact ⟨rfl, Nat.le_refl _⟩

theorem fold_old {P : Int → Bool} : ∀ (row : List Int) {T : List Int} {i : Nat}, i < T.length → atZ (row.foldl (addQ P) T) i = atZ T i ∧ T.length ≤ (row.foldl (addQ P) T).length
  | [], T, i, h => ⟨rfl, Nat.le_refl _⟩
  | x :: row, T, i, h => by
    obtain ⟨h1, h2⟩ := addQ_old (P := P) (x := x) h
    obtain ⟨h3, h4⟩ := fold_old (P := P) row (T := addQ P T x) (i := i) (by omega)
    exact ⟨h3.trans h1, Nat.le_trans h2 h4⟩

/-- The queue when its first k have been looked at. -/
def qL (M : Nat → Nat → Bool) (P : Int → Bool) (N f : Nat) : Nat → List Int
  | 0 => [(f : Int)]
  | k + 1 => if k < (qL M P N f k).length then (rowM M N (atZ (qL M P N f k) k).toNat).foldl (addQ P) (qL M P N f k) else qL M P N f k

theorem qL_next {M : Nat → Nat → Bool} {P : Int → Bool} {N f k : Nat} (h : k < (qL M P N f k).length) : qL M P N f (k + 1) = (rowM M N (atZ (qL M P N f k) k).toNat).foldl (addQ P) (qL M P N f k) := if_pos h

theorem rowM_nat {M : Nat → Nat → Bool} {N h : Nat} : ∀ x, x ∈ rowM M N h → ∃ q : Nat, x = q ∧ q < N := fun x hx => by
  unfold rowM at hx
  obtain ⟨q, h1, h2, _⟩ := (fltN_mem _ _ _).1 hx
  exact ⟨q, h1, h2⟩

theorem qL_nat (M : Nat → Nat → Bool) (P : Int → Bool) {N f : Nat} (hf : f < N) : ∀ k, NatL N (qL M P N f k)
  | 0 => ⟨by show [(f : Int)].Nodup; simp, fun x hx => ⟨f, by simpa [qL] using hx, hf⟩⟩
  | k + 1 => by
    have ih := qL_nat M P hf k
    by_cases h : k < (qL M P N f k).length
    · rw [qL_next h]; exact ih.fold _ rowM_nat
    · rw [show qL M P N f (k + 1) = qL M P N f k from if_neg h]; exact ih

theorem qL_stay {M : Nat → Nat → Bool} {P : Int → Bool} {N f k : Nat} (h : (qL M P N f k).length ≤ k) : ∀ d, qL M P N f (k + d) = qL M P N f k
  | 0 => rfl
  | d + 1 => by
    have ih := qL_stay h d
    show (if k + d < (qL M P N f (k + d)).length then _ else qL M P N f (k + d)) = _
    rw [if_neg (by rw [ih]; omega), ih]

theorem qL_first (M : Nat → Nat → Bool) (P : Int → Bool) (N f : Nat) : ∀ k, 0 < (qL M P N f k).length ∧ atZ (qL M P N f k) 0 = f
  | 0 => ⟨Nat.zero_lt_one, rfl⟩
  | k + 1 => by
    obtain ⟨h1, h2⟩ := qL_first M P N f k
    by_cases h : k < (qL M P N f k).length
    · rw [qL_next h]
      obtain ⟨h3, h4⟩ := fold_old (P := P) (rowM M N (atZ (qL M P N f k) k).toNat) h1
      exact ⟨by omega, h3.trans h2⟩
    · rw [show qL M P N f (k + 1) = qL M P N f k from if_neg h]; exact ⟨h1, h2⟩

theorem qL_end {M : Nat → Nat → Bool} {P : Int → Bool} {N f k : Nat} (hf : f < N) (h : (qL M P N f k).length = k) : qL M P N f N = qL M P N f k := by
  have h1 := (qL_nat M P hf k).len
  have h2 := qL_stay (M := M) (P := P) (N := N) (f := f) (k := k) (by omega) (N - k)
  rwa [show k + (N - k) = N by omega] at h2

/-- The faces of the chain, ascending. -/
def chnL (M : Nat → Nat → Bool) (P : Int → Bool) (N f : Nat) : List Int := fltN (fun i => (qL M P N f N).contains (i : Int)) N

theorem chn_sorted {M : Nat → Nat → Bool} {P : Int → Bool} {N f : Nat} (hf : f < N) : (qL M P N f N).Perm (chnL M P N f) := by
  have h := qL_nat M P hf N
  refine (List.perm_ext_iff_of_nodup h.1 ?_).2 fun a => ?_
  · exact (fltN_asc _ _).imp fun h => by omega
  · unfold chnL
    rw [fltN_mem]
    constructor
    · intro ha
      obtain ⟨q, h1, h2⟩ := h.2 a ha
      subst h1
      exact ⟨q, rfl, h2, List.contains_iff_mem.2 ha⟩
    · rintro ⟨i, rfl, _, h3⟩
      exact List.contains_iff_mem.1 h3

/-- Who belongs to the chain has one of the two colors, where the first one has. -/
theorem fold_has {P : Int → Bool} {R : Int → Prop} (hP : ∀ x, P x = true → R x) : ∀ (row : List Int) {T : List Int}, (∀ x, x ∈ T → R x) → ∀ x, x ∈ row.foldl (addQ P) T → R x
  | [], T, h, x, hx => h x hx
  | y :: row, T, h, x, hx => fold_has hP row (T := addQ P T y) (fun z hz => by
      unfold addQ at hz
      split at hz
      · rename_i e
        simp at e
        rw [List.mem_append] at hz
        rcases hz with hz | hz
        · exact h z hz
        · simp at hz
          subst hz
          exact hP _ e.1
      · exact h z hz) x hx

theorem qL_has {M : Nat → Nat → Bool} {P : Int → Bool} {N f : Nat} {R : Int → Prop} (hf : R (f : Int)) (hP : ∀ x, P x = true → R x) : ∀ k x, x ∈ qL M P N f k → R x
  | 0, x, hx => by
    simp [qL] at hx
    subst hx
    exact hf
  | k + 1, x, hx => by
    have ih := qL_has (M := M) (N := N) hf hP k
    by_cases h : k < (qL M P N f k).length
    · rw [qL_next h] at hx; exact fold_has hP _ ih x hx
    · rw [show qL M P N f (k + 1) = qL M P N f k from if_neg h] at hx; exact ih x hx

theorem chn_has {M : Nat → Nat → Bool} {P : Int → Bool} {N f : Nat} {R : Int → Prop} (hf : R (f : Int)) (hP : ∀ x, P x = true → R x) {j : Nat} (hj : j < (chnL M P N f).length) : ∃ q : Nat, atZ (chnL M P N f) j = q ∧ q < N ∧ R (q : Int) := by
  obtain ⟨q, h1, h2, h3⟩ := (fltN_mem _ _ _).1 (show atZ (chnL M P N f) j ∈ chnL M P N f from by rw [← atZ_get hj]; exact List.getElem_mem hj)
  exact ⟨q, h1, h2, qL_has hf hP N _ (List.contains_iff_mem.1 h3)⟩

theorem chn_pos {M : Nat → Nat → Bool} {P : Int → Bool} {N f : Nat} (hf : f < N) : 0 < (chnL M P N f).length := by
  rw [← (chn_sorted (M := M) (P := P) hf).length_eq]
  exact (qL_first M P N f N).1

theorem fold_snoc (P : Int → Bool) (T row : List Int) (x : Int) : (row ++ [x]).foldl (addQ P) T = addQ P (row.foldl (addQ P) T) x := by rw [List.foldl_append]; rfl

theorem fold_take {P : Int → Bool} {T row : List Int} {j : Nat} (hj : j < row.length) : (row.take (j + 1)).foldl (addQ P) T = addQ P ((row.take j).foldl (addQ P) T) (atZ row j) := by
  rw [List.take_succ_eq_append_getElem hj, fold_snoc, atZ_get hj]

theorem fold_row {P : Int → Bool} {T : List Int} (p : Nat → Bool) (i : Nat) : (fltN p (i + 1)).foldl (addQ P) T = if p i = true then addQ P ((fltN p i).foldl (addQ P) T) i else (fltN p i).foldl (addQ P) T := by
  rw [fltN_succ]
  split
  · exact fold_snoc _ _ _ _
  · rfl
end Go.Proofs.YtmcbbjobjogkmaaGreat
