/-
  laws.sameTexts answers true of two slices of the same strings.
-/
import Derived.Test.YtejjeihikmipdaaDoorBase
import Derived.Test.YtejjeihikmipdaaDoorStrsP
import Derived.LoopTactic
import Derived.Deep.QuietTactic
import Derived.BigQuiet
import Derived.Deep.Draws
namespace Go.Proofs.YtejjeihikmipdaaDoor
open Go.RowKit
set_option linter.unusedVariables false
set_option linter.unusedSimpArgs false

theorem sameTexts_yes {b1 b2 : Nat} {w : World} {v1 v2 : Value} {fs : List ByteArray} (h1 : Strs 9 b1 w v1 fs) (h2 : Strs 9 b2 w v2 fs) :
    Calls Tryd.prog 18 #[v1, v2] w fun e w' => e = .returned (.bool true) ∧ ∃ n, w' = w.drewN n := by
  have hmax := h1.len
  unfold maxLen at hmax
  obtain ⟨a, ca, rfl, ha⟩ := h1.form'
  obtain ⟨b, cb, rfl, hb⟩ := h2.form'
  have HA := Lib.hid ha; clear ha
  have HB := Lib.hid hb; clear hb
  clear h1 h2
  go_enter Tryd.func18, Tryd.ntmps18
  go_wp2_with fail
  go_loopw [5] (fun i wr => ∃ (k n : Nat), k ≤ fs.length ∧ i = .int .i64 k ∧ wr = w.drewN n) (fun i _ => fs.length - (intOf i).toNat)
  case atStart => exact ⟨0, 0, Nat.zero_le _, rfl, rfl⟩
  case round =>
    obtain ⟨k, n, hk, rfl, rfl⟩ := hrel
    by_cases hlt : k < fs.length
    · obtain ⟨g, rfl, _, _, hc, _⟩ := HA.out k hlt
      obtain ⟨g', rfl, _, _, hc', _⟩ := HB.out k hlt
      go_wp2_with fail
      go_quiet (fail)
      go_wp2_with fail
      refine ⟨⟨k + 1, _, by omega, by go_num, rfl⟩, by simp [intOf]; omega⟩
    · go_wp2_with fail
      go_ret
      exact ⟨rfl, n, rfl⟩
end Go.Proofs.YtejjeihikmipdaaDoor
