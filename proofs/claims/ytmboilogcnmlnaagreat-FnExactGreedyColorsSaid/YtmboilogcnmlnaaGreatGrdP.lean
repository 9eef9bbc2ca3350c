/-
  Greedy colors, plainly: each face takes the least color that no earlier face beside it has.
-/
import Derived.Test.YtmboilogcnmlnaaGreatMatP
import Derived.Test.YtmboilogcnmlnaaGreatGlsG
import Derived.Test.YtmboilogcnmlnaaGreatG3
namespace Go.Proofs.YtmboilogcnmlnaaGreat
open Go.RowKit
set_option linter.unusedVariables false
set_option linter.unusedSimpArgs false

/-- n pigeons leave a hole among n + 1. -/
theorem hole_left : ∀ (k : Nat) (f : Nat → Int), (∀ c : Nat, c ≤ k → ∃ i, i < k ∧ f i = (c : Int)) → False
  | 0, f, h => by
    obtain ⟨i, hi, _⟩ := h 0 (Nat.le_refl _)
    omega
  | k + 1, f, h => by
    refine hole_left k (fun i => if f i > f k then f i - 1 else f i) fun c hc => ?_
    by_cases e : (c : Int) < f k
    · obtain ⟨i, hi, he⟩ := h c (by omega)
      have hik : i ≠ k := by rintro rfl; omega
      exact ⟨i, by omega, by show (if f i > f k then f i - 1 else f i) = _; rw [if_neg (by omega), he]⟩
    · obtain ⟨i, hi, he⟩ := h (c + 1) (by omega)
      have hik : i ≠ k := by rintro rfl; omega
      exact ⟨i, by omega, by show (if f i > f k then f i - 1 else f i) = _; rw [if_pos (by omega), he]; omega⟩

/-- No face before k that is beside k has the color c. -/
def freeC (M : Nat → Nat → Bool) (xs : List Int) (k c : Nat) : Bool := (List.range k).all fun i => !(M k i && decide (atZ xs i = (c : Int)))

theorem freeC_iff {M : Nat → Nat → Bool} {xs : List Int} {k c : Nat} : freeC M xs k c = true ↔ ∀ i, i < k → M k i = true → atZ xs i ≠ (c : Int) := by
  unfold freeC
  simp only [List.all_eq_true, List.mem_range, Bool.not_eq_true', Bool.and_eq_false_iff, decide_eq_false_iff_not]
  constructor
  · intro h i hi hm
    rcases h i hi with h1 | h1
    · rw [hm] at h1; cases h1
    · exact h1
  · intro h i hi
    cases hm : M k i
    · exact .inl rfl
    · exact .inr (h i hi hm)

def mexZ (M : Nat → Nat → Bool) (xs : List Int) (k : Nat) : Int := firstI (freeC M xs k) (k + 1)

theorem mex_is (M : Nat → Nat → Bool) (xs : List Int) (k : Nat) : ∃ m : Nat, mexZ M xs k = m ∧ m ≤ k ∧ freeC M xs k m = true ∧ ∀ j, j < m → freeC M xs k j = false := by
  rcases firstI_cases (freeC M xs k) (k + 1) with ⟨_, h⟩ | ⟨m, h1, h2, h3, h4⟩
  · refine absurd ?_ id
    refine hole_left k (atZ xs) fun c hc => ?_
    have h1 := h c (by omega)
    have h2 : ¬ ∀ i, i < k → M k i = true → atZ xs i ≠ (c : Int) := by rw [← freeC_iff, h1]; simp
    refine Classical.byContradiction fun h3 => h2 fun i hi _ he => h3 ⟨i, hi, he⟩
  · exact ⟨m, h1, by omega, h3, h4⟩

theorem mex_end {M : Nat → Nat → Bool} {xs : List Int} {k m c : Nat} (hm : ∀ j, j < m → freeC M xs k j = false) (hc : c ≤ m) (h : ∀ i, i < k → M k i = true → atZ xs i ≠ (c : Int)) : c = m := by
  rcases Nat.lt_or_ge c m with h1 | h1
  · have := hm c h1
    rw [freeC_iff.2 h] at this
    cases this
  · omega

theorem mex_up {M : Nat → Nat → Bool} {xs : List Int} {k m c i : Nat} (hm : freeC M xs k m = true) (hc : c ≤ m) (hi : i < k) (h1 : M k i = true) (h2 : atZ xs i = (c : Int)) : c + 1 ≤ m := by
  rcases Nat.lt_or_ge c m with h3 | h3
  · exact h3
  · have : c = m := by omega
    subst this
    exact absurd h2 (freeC_iff.1 hm i hi h1)

/-- The colors of the first k faces. -/
def grdL (M : Nat → Nat → Bool) : Nat → List Int
  | 0 => []
  | k + 1 => grdL M k ++ [mexZ M (grdL M k) k]

theorem grdL_succ (M : Nat → Nat → Bool) (k : Nat) : grdL M (k + 1) = grdL M k ++ [mexZ M (grdL M k) k] := rfl

theorem grdL_len (M : Nat → Nat → Bool) : ∀ k, (grdL M k).length = k
  | 0 => rfl
  | k + 1 => by rw [grdL_succ, List.length_append, grdL_len M k]; rfl

theorem besM_sub (ds : List Int) (f h : Nat) : ∀ q, besM ds q f h = (decide ((f : Int) ≠ (h : Int)) && decide (0 < (fltN (sharedP ds f h) q).length))
  | 0 => by simp [besM, fltN]
  | q + 1 => by
    rw [besM_succ, besM_sub ds f h q, fltN_succ]
    generalize fltN (sharedP ds f h) q = X
    unfold sharedP
    generalize atZ ds (2 * q) = a
    generalize atZ ds (2 * q + 1) = b
    by_cases hfh : (f : Int) = (h : Int)
    · rw [← hfh, Bool.eq_iff_iff]
      simp
      omega
    · rw [Bool.eq_iff_iff]
      by_cases hs : (a = f ∧ b = h) ∨ (a = h ∧ b = f)
      · have e : ((a == (f : Int) && b == (h : Int)) || (a == (h : Int) && b == (f : Int))) = true := by simpa using hs
        have hab : a ≠ b := by rcases hs with ⟨h1, h2⟩ | ⟨h1, h2⟩ <;> rw [h1, h2] <;> intro e2 <;> exact hfh (by omega)
        rw [if_pos e]
        simp [hab, hs]
        omega
      · have e : ¬ ((a == (f : Int) && b == (h : Int)) || (a == (h : Int) && b == (f : Int))) = true := by simpa using hs
        rw [if_neg e]
        simp only [Bool.or_eq_true, Bool.and_eq_true, decide_eq_true_eq]
        exact ⟨fun h1 => h1.elim id fun h2 => absurd h2.2 hs, .inl⟩

/-- The colors before n that none of the faces of the row has. -/
def freeJ (row xs : List Int) (c : Nat) : Bool := row.all fun h => !decide (atZ xs h.toNat = (c : Int))

def chL (row xs : List Int) (n : Nat) : List Int := fltN (freeJ row xs) n

theorem freeJ_hit {row xs : List Int} {c j : Nat} (hj : j < row.length) (h : atZ xs (atZ row j).toNat = (c : Int)) : freeJ row xs c = false := by
  rw [Bool.eq_false_iff]
  intro h1
  unfold freeJ at h1
  rw [List.all_eq_true] at h1
  have := h1 (atZ row j) (by rw [← atZ_get hj]; exact List.getElem_mem hj)
  simp [h] at this

theorem freeJ_none {row xs : List Int} {c : Nat} (h : ∀ j, j < row.length → atZ xs (atZ row j).toNat ≠ (c : Int)) : freeJ row xs c = true := by
  unfold freeJ
  rw [List.all_eq_true]
  intro x hx
  obtain ⟨p, hp, he, _⟩ := atZ_of_mem hx
  have := h p hp
  rw [he] at this
  simp [this]

theorem flt_first {p : Nat → Bool} {m : Nat} (hp : p m = true) (hb : ∀ j, j < m → p j = false) : ∀ n, m < n → 0 < (fltN p n).length ∧ atZ (fltN p n) 0 = (m : Int)
  | 0, h => by omega
  | n + 1, h => by
    rw [fltN_succ]
    by_cases e : m = n
    · subst e
      rw [if_pos hp, fltN_none m hb]
      exact ⟨by simp, rfl⟩
    · obtain ⟨h1, h2⟩ := flt_first hp hb n (by omega)
      split
      · exact ⟨by rw [List.length_append]; omega, by rw [atZ_more h1]; exact h2⟩
      · exact ⟨h1, h2⟩

/-- What the program's list holds ahead of face k. -/
def fillL (M : Nat → Nat → Bool) (n k : Nat) : List Int := grdL M k ++ List.replicate (n - k) (-1)

theorem fillL_len (M : Nat → Nat → Bool) {n k : Nat} (h : k ≤ n) : (fillL M n k).length = n := by
  unfold fillL
  rw [List.length_append, grdL_len, List.length_replicate]
  omega

theorem fillL_zero (M : Nat → Nat → Bool) (n : Nat) : fillL M n 0 = List.replicate n (-1) := rfl

theorem fillL_end (M : Nat → Nat → Bool) (n : Nat) : fillL M n n = grdL M n := by unfold fillL; simp

theorem fillL_next (M : Nat → Nat → Bool) {n k : Nat} (h : k < n) : (fillL M n k).set k (mexZ M (grdL M k) k) = fillL M n (k + 1) := by
  unfold fillL
  obtain ⟨q, hq⟩ : ∃ q, n - k = q + 1 := ⟨n - k - 1, by omega⟩
  rw [hq, show n - (k + 1) = q from by omega, List.set_append, if_neg (by rw [grdL_len]; omega), grdL_len, Nat.sub_self, grdL_succ, List.replicate_succ]
  simp

theorem atZ_fill_lo (M : Nat → Nat → Bool) {n k i : Nat} (h : i < k) : atZ (fillL M n k) i = atZ (grdL M k) i := by
  unfold fillL atZ
  simp [List.getD, List.getElem?_append, grdL_len, h]

theorem atZ_fill_hi (M : Nat → Nat → Bool) {n k i : Nat} (h : k ≤ i) (h2 : i < n) : atZ (fillL M n k) i = -1 := by
  unfold fillL atZ
  simp [List.getD, List.getElem?_append, grdL_len, show ¬ i < k by omega, List.getElem?_replicate, show i - k < n - k by omega]

/-- The row of the faces beside face k. -/
def rowM (M : Nat → Nat → Bool) (n k : Nat) : List Int := fltN (fun h => M k h) n

theorem freeJ_is (M : Nat → Nat → Bool) {n k : Nat} (hk : k < n) (c : Nat) : freeJ (rowM M n k) (fillL M n k) c = freeC M (grdL M k) k c := by
  rw [Bool.eq_iff_iff, freeC_iff]
  constructor
  · intro h i hi hm
    unfold freeJ at h
    rw [List.all_eq_true] at h
    have := h (i : Int) (by unfold rowM; rw [fltN_mem]; exact ⟨i, rfl, by omega, hm⟩)
    rw [← atZ_fill_lo M (n := n) hi]
    simpa using this
  · intro h
    refine freeJ_none fun j hj => ?_
    have hmem : atZ (rowM M n k) j ∈ rowM M n k := by rw [← atZ_get hj]; exact List.getElem_mem hj
    obtain ⟨i, hi, hin, hm⟩ := (fltN_mem (fun h => M k h) n _).1 hmem
    rw [hi]
    show atZ (fillL M n k) i ≠ _
    rcases Nat.lt_or_ge i k with h1 | h1
    · rw [atZ_fill_lo M h1]; exact h i h1 hm
    · rw [atZ_fill_hi M h1 hin]; omega

theorem chL_first (M : Nat → Nat → Bool) {n k : Nat} (hk : k < n) : 0 < (chL (rowM M n k) (fillL M n k) n).length ∧ atZ (chL (rowM M n k) (fillL M n k) n) 0 = mexZ M (grdL M k) k := by
  obtain ⟨m, hm, hmk, h1, h2⟩ := mex_is M (grdL M k) k
  rw [hm]
  unfold chL
  exact flt_first (by rw [freeJ_is M hk]; exact h1) (fun j hj => by rw [freeJ_is M hk]; exact h2 j hj) n (by omega)

theorem rowM_lt {M : Nat → Nat → Bool} {n k j : Nat} (hj : j < (rowM M n k).length) : ∃ q : Nat, atZ (rowM M n k) j = q ∧ q < n := by
  have hmem : atZ (rowM M n k) j ∈ rowM M n k := by rw [← atZ_get hj]; exact List.getElem_mem hj
  obtain ⟨i, hi, hin, hm⟩ := (fltN_mem (fun h => M k h) n _).1 hmem
  exact ⟨i, hi, hin⟩

section

variable {w w' : World} {B : Nat} {v : Value} {g : Nat → Nat} {k n : Nat} {M : Nat → Nat → Bool}

/-- A row of ints grows: the square of bools lies elsewhere. -/
theorem MatG.grownI (h : MatG w B v g k n M) {B' : Nat} {u : Value} {xs : List Int} (hx : Ints w B' u xs) (hg : w.grownBy w' u.ownBlock) : MatG w' B v g k n M := by
  refine ⟨ownsRow_block h.row fun b e => hg.block b (h.own b e).2 fun e2 => ?_, h.low, fun j hj => rowIs_grown (h.each j hj) hg fun e => hx.farB (h.each j hj) e rfl, h.apart⟩
  obtain ⟨c1, h1⟩ := mat_typed h e
  obtain ⟨c2, h2⟩ := hx.typed (k := b) (by first | exact e2 | exact e2.symm)
  rw [h1] at h2
  simp at h2

end
end Go.Proofs.YtmboilogcnmlnaaGreat
