/-
  A set without one of its members, plainly.
-/
import Derived.Test.YtepacoacalhdcaaGreatG26
namespace Go.Proofs.YtepacoacalhdcaaGreat
open Go.RowKit
set_option linter.unusedVariables false
set_option linter.unusedSimpArgs false

theorem add_or {a b : Nat} (ha : a < 2 ^ 64) (hb : b < 2 ^ 64) (h : a &&& b = 0) : a + b = a ||| b := by
  have e1 : (BitVec.ofNat 64 a).toNat = a := by rw [BitVec.toNat_ofNat]; exact Nat.mod_eq_of_lt ha
  have e2 : (BitVec.ofNat 64 b).toNat = b := by rw [BitVec.toNat_ofNat]; exact Nat.mod_eq_of_lt hb
  have h1 : BitVec.ofNat 64 a &&& BitVec.ofNat 64 b = 0#64 := by
    apply BitVec.eq_of_toNat_eq
    rw [BitVec.toNat_and, e1, e2, h]
    rfl
  have h2 := BitVec.toNat_add_of_and_eq_zero h1
  rw [BitVec.add_eq_or_of_and_eq_zero _ _ h1, BitVec.toNat_or, e1, e2] at h2
  exact h2.symm

theorem sub_two {s f : Nat} (hs : s < 4611686018427387904) (hb : s.testBit f = true) : 2 ^ f + subN s (2 ^ f) = s := by
  have h1 : 2 ^ f ≤ s := Nat.ge_two_pow_of_testBit hb
  have h2 := subN_le s (2 ^ f)
  rw [add_or (by omega) (by omega)]
  · refine Nat.eq_of_testBit_eq fun i => ?_
    rw [Nat.testBit_or, subN_bit, Nat.testBit_two_pow]
    by_cases e : f = i
    · subst e; simp [hb]
    · simp [e]
  · refine Nat.eq_of_testBit_eq fun i => ?_
    rw [Nat.testBit_and, subN_bit, Nat.testBit_two_pow, Nat.zero_testBit]
    by_cases e : f = i <;> simp [e]

theorem sub_bits {s f i : Nat} (h : (subN s (2 ^ f)).testBit i = true) : s.testBit i = true := by
  rw [subN_bit] at h
  simp only [Bool.and_eq_true] at h
  exact h.1
end Go.Proofs.YtepacoacalhdcaaGreat
