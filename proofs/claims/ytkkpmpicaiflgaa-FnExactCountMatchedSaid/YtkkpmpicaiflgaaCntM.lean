/-
  CountMatched, of the model and of the program.
-/
import Derived.Test.YtkkpmpicaiflgaaSeq
import Derived.Test.YtkkpmpicaiflgaaNode
import Derived.LoopTactic
import Derived.Outline
namespace Go.Proofs.Ytkkpmpicaiflgaa
open Go.RowKit
set_option linter.unusedVariables false
set_option linter.unusedSimpArgs false

/-- How many of the first n are at least 0. -/
def cntM (xs : List Int) : Nat → Nat
  | 0 => 0
  | n + 1 => if atZ xs n < 0 then cntM xs n else cntM xs n + 1
theorem cntM_le (xs : List Int) : ∀ n, cntM xs n ≤ n
  | 0 => Nat.le_refl _
  | n + 1 => by
    have := cntM_le xs n
    unfold cntM
    split <;> omega

set_option maxRecDepth 100000 in
theorem implCntM (xs : List Int) (v : Value) (w : World) (hv : Seq w v xs) : Calls Try.prog 21 #[v] w (IntIs (cntM xs xs.length) w) := by
  have hlen := hv.len
  obtain ⟨A, c, rfl, _, _, hcs⟩ := hv.form
  clear hv
  go_enter Try.func21, Try.ntmps21
  go_wp2_with fail
  go_loopw [3, 8] (fun v i wr => ∃ m : Nat, m ≤ xs.length ∧ i = .int .i64 m ∧ v = .int .i64 (cntM xs m : Nat) ∧ wr = w) (fun _ i _ => xs.length - (intOf i).toNat)
  case atStart => exact ⟨0, Nat.zero_le _, rfl, rfl, rfl⟩
  case round =>
    obtain ⟨m, hm, rfl, rfl, rfl⟩ := hrel
    by_cases hlt : m < xs.length
    · obtain ⟨b, o, rfl, hbl, hc⟩ := hcs m hlt
      have HS := Lib.hid (show cntM xs (m + 1) = if atZ xs m < 0 then cntM xs m else cntM xs m + 1 from rfl)
      have hle := cntM_le xs m
      have hz1 : (m : Int) < (xs.length : Int) := by omega
      have hz2 : (0 : Int) ≤ m := by omega
      generalize atZ xs m = z at *
      generalize cntM xs m = q at *
      by_cases hz : z < 0
      · have HZ := Lib.hid hz
        go_wp2_with fail
        exact ⟨⟨m + 1, by omega, by go_num, by rw [HS.out, if_pos HZ.out], trivial⟩, by simp [intOf]; omega⟩
      · have HZ := Lib.hid hz
        go_wp2_with fail
        exact ⟨⟨m + 1, by omega, by go_num, by rw [HS.out, if_neg HZ.out]; go_num, trivial⟩, by simp [intOf]; omega⟩
    · obtain rfl : m = xs.length := by omega
      go_wp2_with fail
      go_ret
      exact ⟨rfl, Below.refl _ _⟩

set_option maxRecDepth 100000 in
theorem specCntM (xs : List Int) (v : Value) (w : World) (hv : Seq w v xs) : Calls Try.prog 19 #[v] w (IntIs (cntM xs xs.length) w) := by
  have hlen := hv.len
  obtain ⟨A, c, rfl, _, _, hcs⟩ := hv.form
  clear hv
  go_enter Try.func19, Try.ntmps19
  go_wp2_with fail
  go_loopw [3, 4] (fun v i wr => ∃ m : Nat, m ≤ xs.length ∧ i = .int .i64 m ∧ v = .int .i64 (cntM xs m : Nat) ∧ wr = w) (fun _ i _ => xs.length - (intOf i).toNat)
  case atStart => exact ⟨0, Nat.zero_le _, rfl, rfl, rfl⟩
  case round =>
    obtain ⟨m, hm, rfl, rfl, rfl⟩ := hrel
    by_cases hlt : m < xs.length
    · obtain ⟨b, o, rfl, hbl, hc⟩ := hcs m hlt
      have HS := Lib.hid (show cntM xs (m + 1) = if atZ xs m < 0 then cntM xs m else cntM xs m + 1 from rfl)
      have hle := cntM_le xs m
      have hz1 : (m : Int) < (xs.length : Int) := by omega
      have hz2 : (0 : Int) ≤ m := by omega
      generalize atZ xs m = z at *
      generalize cntM xs m = q at *
      by_cases hz : z < 0
      · have HZ := Lib.hid hz
        go_wp2_with fail
        exact ⟨⟨m + 1, by omega, by go_num, by rw [HS.out, if_pos HZ.out], trivial⟩, by simp [intOf]; omega⟩
      · have HZ := Lib.hid hz
        go_wp2_with fail
        exact ⟨⟨m + 1, by omega, by go_num, by rw [HS.out, if_neg HZ.out]; go_num, trivial⟩, by simp [intOf]; omega⟩
    · obtain rfl : m = xs.length := by omega
      go_wp2_with fail
      go_ret
      exact ⟨rfl, Below.refl _ _⟩
end Go.Proofs.Ytkkpmpicaiflgaa
