/-
  The weight of the glass, of the model and of the program.
-/
import Derived.Test.YtepacoacalhdcaaGreatG7
namespace Go.Proofs.YtepacoacalhdcaaGreat
open Go.RowKit
set_option linter.unusedVariables false
set_option linter.unusedSimpArgs false

noncomputable def gwW (ns ls : List Nd) (t : Int) : Int := if wholeB ns ls && inB t 1 20 then totalW ns ls * t else -1

theorem total_bd (ns ls : List Nd) : -1 ≤ totalW ns ls ∧ totalW ns ls ≤ 16000 := by
  unfold totalW
  by_cases h : idxB (wF ns ls).length (outW ns ls) = true
  · have := area_nn h
    omega
  · rw [g_noarea (by simpa using h)]
    omega

theorem gw_wrap {a t : Int} (h1 : -1 ≤ a) (h2 : a ≤ 16000) (h3 : 1 ≤ t) (h4 : t ≤ 20) : IntKind.i64.wrap (a * t) = a * t ∧ -20 ≤ a * t ∧ a * t ≤ 320000 := by
  have p1 : (a + 1) * t ≤ 16001 * 20 := Int.mul_le_mul (by omega) h4 (by omega) (by omega)
  have p2 : 0 ≤ (a + 1) * t := Int.mul_nonneg (by omega) (by omega)
  have e : (a + 1) * t = a * t + t := by rw [Int.add_mul, Int.one_mul]
  have e2 : -20 ≤ a * t ∧ a * t ≤ 320000 := by
    have q : a * t ≤ 16000 * t := Int.mul_le_mul_of_nonneg_right h2 (by omega)
    omega
  exact ⟨IntWalk.i64_in _ (by omega), e2⟩

end Go.Proofs.YtepacoacalhdcaaGreat
