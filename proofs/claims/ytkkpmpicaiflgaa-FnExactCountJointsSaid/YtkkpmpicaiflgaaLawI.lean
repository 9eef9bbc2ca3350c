/-
  What the laws' helpers eqIntS, markIntS, heldIntS return.
-/
import Derived.Test.YtkkpmpicaiflgaaInts
import Derived.LoopTactic
import Derived.Outline
import Derived.Deep.QuietTactic
import Derived.BigQuiet
import Derived.Deep.Draws
namespace Go.Proofs.Ytkkpmpicaiflgaa
open Go.RowKit
set_option linter.unusedVariables false
set_option linter.unusedSimpArgs false

/-- The n marks from k on. -/
def marksI (k n : Nat) : List Int := (List.range n).map fun i => ((k + i : Nat) : Int)
theorem marksI_length (k n : Nat) : (marksI k n).length = n := by simp [marksI]
theorem marksI_set (k0 k : Nat) (fs : List Int) (h : k < fs.length) : (marksI k0 k ++ fs.drop k).set k ((k0 + k : Nat) : Int) = marksI k0 (k + 1) ++ fs.drop (k + 1) := by
  rw [List.set_append_right _ _ (by rw [marksI_length]; exact Nat.le_refl _), marksI_length, Nat.sub_self, List.drop_eq_getElem_cons h, List.set_cons_zero]
  simp [marksI, List.range_succ]
theorem marksI_get (k0 n j : Nat) (h : j < n) : (marksI k0 n)[j]'(by rw [marksI_length]; exact h) = ((k0 + j : Nat) : Int) := by simp [marksI]

theorem eqIntS_yes {b1 b2 : Nat} {w : World} {v1 v2 : Value} {fs : List Int} (h1 : Ints w b1 v1 fs) (h2 : Ints w b2 v2 fs) :
    Calls Try.prog 22 #[v1, v2] w fun e w' => e = .returned (.bool true) ∧ ∃ n, w' = w.drewN n := by
  obtain ⟨a, ca, rfl, hmax, ha⟩ := h1.form
  unfold maxLen at hmax
  obtain ⟨b, cb, rfl, _, hb⟩ := h2.form
  have HA := Lib.hid ha; clear ha
  have HB := Lib.hid hb; clear hb
  clear h1 h2
  go_enter Try.func22, Try.ntmps22
  go_wp2_with fail
  go_loopw [5] (fun i wr => ∃ (k n : Nat), k ≤ fs.length ∧ i = .int .i64 k ∧ wr = w.drewN n) (fun i _ => fs.length - (intOf i).toNat)
  case atStart => exact ⟨0, 0, Nat.zero_le _, rfl, rfl⟩
  case round =>
    obtain ⟨k, n, hk, rfl, rfl⟩ := hrel
    by_cases hlt : k < fs.length
    · obtain ⟨g, rfl, _, _, hc, _⟩ := HA.out k hlt
      obtain ⟨g', rfl, _, _, hc', _⟩ := HB.out k hlt
      go_wp2_with fail
      go_quiet (fail)
      go_wp2_with fail
      refine ⟨⟨k + 1, _, by omega, by go_num, rfl⟩, by simp [intOf]; omega⟩
    · go_wp2_with fail
      go_ret
      exact ⟨rfl, n, rfl⟩

end Go.Proofs.Ytkkpmpicaiflgaa
