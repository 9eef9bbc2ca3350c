/-
  Decimal text, plainly: the digits of a number, digit by digit.
-/
import Derived.Test.YtghpbdgghliieabDoorHexP
import Derived.Lib.ItoaNum
import Derived.Lib.ItoaMem
import Derived.Lib.ItoaLen
namespace Go.Proofs.YtghpbdgghliieabDoor
open Go.RowKit
set_option linter.unusedVariables false
set_option linter.unusedSimpArgs false

/-- The digits of m; none of 0. -/
def digs (m : Nat) : List UInt8 := if m = 0 then [] else Lib.decDigits m
theorem decDigits_step (m : Nat) (h : ¬ m < 10) : Lib.decDigits m = Lib.decDigits (m / 10) ++ [UInt8.ofNat (48 + m % 10)] := by
  rw [Lib.decDigits, dif_neg h]
theorem decDigits_small (m : Nat) (h : m < 10) : Lib.decDigits m = [UInt8.ofNat (48 + m)] := by rw [Lib.decDigits, dif_pos h]
theorem digs_step (m : Nat) (h : m ≠ 0) : digs m = digs (m / 10) ++ [digitB (m % 10)] := by
  have hd : digitB (m % 10) = UInt8.ofNat (48 + m % 10) := by unfold digitB; rw [if_pos (by omega)]
  rw [hd]
  by_cases h10 : m < 10
  · have e1 : m / 10 = 0 := by omega
    have e2 : m % 10 = m := by omega
    rw [e1, e2]
    simp [digs, h, decDigits_small m h10]
  · have e1 : m / 10 ≠ 0 := by omega
    simp only [digs, h, e1, if_false]
    exact decDigits_step m h10
theorem itoa_pos (m : Nat) (h : m ≠ 0) : Lib.itoa (m : Int) = digs m := by rw [Lib.itoa_nonneg]; simp [digs, h]
theorem itoa_minus (m : Nat) (h : m ≠ 0) : Lib.itoa (-(m : Int)) = 45 :: digs m := by rw [Lib.itoa_neg m (by omega)]; simp [digs, h]

theorem str_app (a b : List UInt8) : (⟨a.toArray⟩ : ByteArray) ++ ⟨b.toArray⟩ = ⟨(a ++ b).toArray⟩ := by
  apply ByteArray.ext
  simp [ByteArray.data_append]
end Go.Proofs.YtghpbdgghliieabDoor
