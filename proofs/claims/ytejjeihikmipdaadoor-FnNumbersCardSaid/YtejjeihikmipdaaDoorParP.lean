/-
  Decimal text read back, plainly.
-/
import Derived.Test.YtejjeihikmipdaaDoorFmtP
import Derived.Lib.AtoiTie
import Derived.Lib.AtoiAllCases
namespace Go.Proofs.YtejjeihikmipdaaDoor
open Go.RowKit
set_option linter.unusedVariables false
set_option linter.unusedSimpArgs false

theorem decFrom_snoc (c : UInt8) : ∀ (l : List UInt8) (acc : Nat), Lib.decFrom acc (l ++ [c]) = (Lib.decFrom acc l).bind fun m => (Lib.digitVal c).map fun d => m * 10 + d
  | [], acc => by
    simp only [List.nil_append, Lib.decFrom]
    cases Lib.digitVal c <;> rfl
  | b :: l, acc => by
    simp only [List.cons_append, Lib.decFrom]
    cases Lib.digitVal b with
    | none => rfl
    | some d => exact decFrom_snoc c l _
theorem digitVal_of (d : Nat) (h : d < 10) : Lib.digitVal (UInt8.ofNat (48 + d)) = some d := by
  have key : ∀ d, d < 10 → Lib.digitVal (UInt8.ofNat (48 + d)) = some d := by decide
  exact key d h
theorem decFrom_digits (n : Nat) : Lib.decFrom 0 (Lib.decDigits n) = some n := by
  induction n using Nat.strongRecOn with
  | ind n ih =>
    by_cases h : n < 10
    · rw [decDigits_small n h]
      simp only [Lib.decFrom, digitVal_of n h]
      simp
    · rw [decDigits_step n h, decFrom_snoc, ih (n / 10) (by omega), digitVal_of _ (by omega)]
      simp
      omega
theorem digits_ne (n : Nat) : Lib.decDigits n ≠ [] := by
  by_cases h : n < 10
  · rw [decDigits_small n h]; simp
  · rw [decDigits_step n h]; simp
theorem digits_length (k : Nat) : ∀ n, n < 10 ^ (k + 1) → (Lib.decDigits n).length ≤ k + 1 := by
  induction k with
  | zero => intro n h; rw [decDigits_small n (by simpa using h)]; simp
  | succ k ih =>
    intro n h
    by_cases h1 : n < 10
    · rw [decDigits_small n h1]; simp
    · rw [decDigits_step n h1, List.length_append]
      have := ih (n / 10) (by rw [Nat.pow_succ] at h; omega)
      simp only [List.length_cons, List.length_nil]
      omega

/-- The text is the decimal text of a number up to 1000000000. -/
def IsNum (l : List UInt8) (n : Nat) : Prop := n ≤ 1000000000 ∧ Lib.decDigits n = l
theorem IsNum.dec {l : List UInt8} {n : Nat} (h : IsNum l n) : Lib.decFrom 0 l = some n := by rw [← h.2]; exact decFrom_digits n
theorem IsNum.unique {l : List UInt8} {n m : Nat} (h : IsNum l n) (k : IsNum l m) : n = m := by
  have := h.dec.symm.trans k.dec
  simpa using this
theorem IsNum.length {l : List UInt8} {n : Nat} (h : IsNum l n) : l.length ≤ 10 := by
  rw [← h.2]
  exact digits_length 9 n (by have := h.1; omega)
theorem IsNum.atoi {l : List UInt8} {n : Nat} (h : IsNum l n) : Lib.atoiAll l = .ok (n : Int) := by
  rw [Lib.atoiAll_short l (by have := h.length; omega)]
  have hd := h.dec
  have hne : l ≠ [] := by rw [← h.2]; exact digits_ne n
  cases l with
  | nil => exact absurd rfl hne
  | cons b r =>
    have hb : (b == 45) = false ∧ (b == 43) = false := by
      constructor
      · rw [beq_eq_false_iff_ne]
        rintro rfl
        simp [Lib.decFrom, Lib.digitVal] at hd
      · rw [beq_eq_false_iff_ne]
        rintro rfl
        simp [Lib.decFrom, Lib.digitVal] at hd
    simp [Lib.atoi, hb.1, hb.2, Lib.decNat, hd, Lib.NumEnd.ofOption]
theorem IsNum.of_itoa {l : List UInt8} {v : Int} (h0 : 0 ≤ v) (h1 : v ≤ 1000000000) (h : Lib.itoa v = l) : IsNum l v.toNat := by
  obtain ⟨n, rfl⟩ := Int.eq_ofNat_of_zero_le h0
  rw [Lib.itoa_nonneg] at h
  exact ⟨by simp; omega, by simpa using h⟩
end Go.Proofs.YtejjeihikmipdaaDoor
