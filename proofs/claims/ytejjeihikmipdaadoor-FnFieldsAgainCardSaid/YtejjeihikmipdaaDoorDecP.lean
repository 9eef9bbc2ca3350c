/-
  Hexadecimal digits read back, plainly.
-/
import Derived.Test.YtejjeihikmipdaaDoorHexP
import Derived.Lib.Bytealg
namespace Go.Proofs.YtejjeihikmipdaaDoor
open Go.RowKit
set_option linter.unusedVariables false
set_option linter.unusedSimpArgs false

def hexVal (c : UInt8) : Int := if 48 ≤ c.toNat ∧ c.toNat ≤ 57 then c.toNat - 48 else if 97 ≤ c.toNat ∧ c.toNat ≤ 102 then c.toNat - 87 else -1
theorem hexVal_bd (c : UInt8) : -1 ≤ hexVal c ∧ hexVal c ≤ 15 := by unfold hexVal; split; omega; split <;> omega

theorem indexByte_hex : ∀ n, n < 256 → Lib.indexByte [48, 49, 50, 51, 52, 53, 54, 55, 56, 57, 97, 98, 99, 100, 101, 102] (UInt8.ofNat n) = hexVal (UInt8.ofNat n) := by decide +kernel
theorem indexByte_hexVal (c : UInt8) : Lib.indexByte [48, 49, 50, 51, 52, 53, 54, 55, 56, 57, 97, 98, 99, 100, 101, 102] c = hexVal c := by
  have := indexByte_hex c.toNat c.toNat_lt
  simpa using this

def decB (a b : Int) : UInt8 := UInt8.ofNat (16 * a + b).toNat
def at' (l : List UInt8) (j : Nat) : UInt8 := l.getD j 0
def decL (l : List UInt8) (k : Nat) : List UInt8 := (List.range k).map fun j => decB (hexVal (at' l (2 * j))) (hexVal (at' l (2 * j + 1)))
def AllHex (l : List UInt8) (m : Nat) : Prop := ∀ j, j < m → 0 ≤ hexVal (at' l j)
theorem decL_succ (l : List UInt8) (k : Nat) : decL l (k + 1) = decL l k ++ [decB (hexVal (at' l (2 * k))) (hexVal (at' l (2 * k + 1)))] := by simp [decL, List.range_succ]
theorem at_get (s : ByteArray) (j : Nat) (h : j < s.size) : at' s.data.toList j = s[j] := by
  have h' : j < s.data.size := h
  have e : s.data.toList[j]? = some s[j] := by simp [Array.getElem?_eq_getElem h']; rfl
  simp only [at', List.getD, e, Option.getD]
theorem i64_join (x y : Int) (hx0 : 0 ≤ x) (hx1 : x ≤ 15) (hy0 : 0 ≤ y) (hy1 : y ≤ 15) : bits .or .i64 (x * 16) y = 16 * x + y := by
  obtain ⟨a, rfl⟩ := Int.eq_ofNat_of_zero_le hx0
  obtain ⟨b, rfl⟩ := Int.eq_ofNat_of_zero_le hy0
  have ha : a ≤ 15 := by omega
  have hb : b ≤ 15 := by omega
  have key : ∀ a : Nat, a < 16 → ∀ b : Nat, b < 16 → (a * 16) ||| b = 16 * a + b := by decide +kernel
  have h1 : ((a : Int) * 16) = ((a * 16 : Nat) : Int) := by omega
  have f (n : Nat) (hn : n < 9223372036854775808) : (BitVec.ofInt 64 (n : Int)).toNat = n := by
    rw [BitVec.ofInt_natCast, BitVec.toNat_ofNat]; exact Nat.mod_eq_of_lt (by omega)
  have e : bits .or .i64 ((a : Int) * 16) (b : Int) = IntKind.i64.wrap ((BitVec.ofInt 64 ((a : Int) * 16) ||| BitVec.ofInt 64 (b : Int)).toNat : Int) := rfl
  rw [e, h1, BitVec.toNat_or, f _ (by omega), f _ (by omega), key a (by omega) b (by omega), IntKind.wrap_i64]
  omega
theorem decB_nat (a b : Int) (h0 : 0 ≤ a) (h1 : a ≤ 15) (h2 : 0 ≤ b) (h3 : b ≤ 15) : ((decB a b).toNat : Int) = 16 * a + b := by
  unfold decB; simp; omega
end Go.Proofs.YtejjeihikmipdaaDoor
