/-
  The year, of the model: clear minutes, the whole year, the best month, the months above.
-/
import Derived.Test.YtkkpmpicaiflgaaDoorYear
import Derived.Test.YtkkpmpicaiflgaaDoorMarkB
namespace Go.Proofs.YtkkpmpicaiflgaaDoor
open Go.RowKit
set_option linter.unusedVariables false
set_option linter.unusedSimpArgs false

theorem clear_bd {m t : Int} (h : inB m 0 11 = true) (h2 : inB t 0 60 = true) : 0 ≤ clearI m t ∧ clearI m t ≤ 990 := by
  obtain ⟨a, b⟩ := dayI_bd h
  obtain ⟨c, d⟩ := cloudI_bd h h2
  unfold clearI
  rw [h, h2, Bool.and_self, if_pos rfl]
  generalize dayI m = x at *
  generalize cloudI m t = y at *
  have p1 : 0 ≤ x * (100 - y) := Int.mul_nonneg (by omega) (by omega)
  have p2 : x * (100 - y) ≤ 990 * (100 - y) := Int.mul_le_mul_of_nonneg_right b (by omega)
  omega
theorem clear_nat {m : Nat} {t : Int} (h : m < 12) (h2 : inB t 0 60 = true) : 0 ≤ clearI m t ∧ clearI m t ≤ 990 := clear_bd (by rw [inB_iff]; omega) h2
def ysum (t : Int) : Nat → Int
  | 0 => 0
  | n + 1 => ysum t n + 30 * clearI n t
theorem ysum_bd {t : Int} (h : inB t 0 60 = true) : ∀ n, n ≤ 12 → 0 ≤ ysum t n ∧ ysum t n ≤ 29700 * n
  | 0, _ => by simp [ysum]
  | n + 1, hn => by
    have h1 := ysum_bd h n (by omega)
    have h2 := clear_nat (m := n) (by omega) h
    unfold ysum
    omega
def yearI (t : Int) : Int := if inB t 0 60 then ysum t 12 else -1
/-- The first one of the best months up to n. -/
def bst (t : Int) : Nat → Nat
  | 0 => 0
  | n + 1 => if clearI (bst t n : Nat) t < clearI ((n + 1 : Nat) : Int) t then n + 1 else bst t n
theorem bst_le (t : Int) : ∀ n, bst t n ≤ n
  | 0 => Nat.le_refl _
  | n + 1 => by have := bst_le t n; unfold bst; split <;> omega
def bestI (t : Int) : Int := if inB t 0 60 then ((bst t 11 : Nat) : Int) else -1
def aboveL (t y : Int) : Nat → List Int
  | 0 => []
  | n + 1 => if y ≤ clearI n t then aboveL t y n ++ [(n : Int)] else aboveL t y n
theorem aboveL_len (t y : Int) : ∀ n, (aboveL t y n).length ≤ n
  | 0 => Nat.le_refl _
  | n + 1 => by
    have := aboveL_len t y n
    unfold aboveL
    split
    · simp; omega
    · omega
def aboveI (t y : Int) : List Int := if inB t 0 60 then aboveL t y 12 else []
theorem aboveI_len (t y : Int) : (aboveI t y).length ≤ 1048576 := by
  unfold aboveI
  split
  · have := aboveL_len t y 12; omega
  · simp

end Go.Proofs.YtkkpmpicaiflgaaDoor
