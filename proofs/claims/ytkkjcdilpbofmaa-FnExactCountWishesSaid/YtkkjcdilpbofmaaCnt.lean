/-
  TwinOf and CountWishes, of the model and of the program.
-/
import Derived.Test.YtkkjcdilpbofmaaSeq
import Derived.Test.YtkkjcdilpbofmaaLead
import Derived.Test.YtkkjcdilpbofmaaImplLead
namespace Go.Proofs.Ytkkjcdilpbofmaa
open Go.RowKit
set_option linter.unusedVariables false
set_option linter.unusedSimpArgs false

def twinI (d : Int) : Int := if inB d 0 39 = true then bits .xor .i64 d 1 else -1
theorem implTwin (d : Int) (w : World) : Calls Try.prog 16 #[.int .i64 d] w (IntIs (twinI d) w) := by
  have hr : twinI d = if 0 ≤ d ∧ d ≤ 39 then bits .xor .i64 d 1 else -1 := by
    unfold twinI
    by_cases h : 0 ≤ d ∧ d ≤ 39
    · rw [if_pos h, if_pos (by simp [inB]; exact h)]
    · rw [if_neg h, if_neg (by simp [inB]; omega)]
  generalize twinI d = r at *
  have HR := Lib.hid hr; clear hr
  go_enter Try.func16, Try.ntmps16
  by_cases h0 : d < 0
  · go_wp2
    go_ret
    exact ⟨ret_int (by rw [HR.out, if_neg (by omega)]), Below.refl _ _⟩
  · by_cases h1 : 39 < d
    · go_wp2
      go_ret
      exact ⟨ret_int (by rw [HR.out, if_neg (by omega)]), Below.refl _ _⟩
    · go_wp2
      go_ret
      exact ⟨ret_int (by rw [HR.out, if_pos (by omega)]), Below.refl _ _⟩

theorem specTwin (d : Int) (w : World) : Calls Try.prog 15 #[.int .i64 d] w (IntIs (twinI d) w) := by
  have HR := Lib.hid (show twinI d = if inB d 0 39 = true then bits .xor .i64 d 1 else -1 from rfl)
  generalize twinI d = r at *
  have HIN := Lib.hid (fun w => specIn d 0 39 w)
  generalize inB d 0 39 = b at *
  cases b
  · go_enter Try.func15, Try.ntmps15
    go_wp2_with fail
    refine (HIN.out _).mono ?_
    rintro e w' ⟨rfl, rfl⟩
    go_wp2_with fail
    go_ret
    exact ⟨ret_int (by rw [HR.out]; simp), Below.refl _ _⟩
  · go_enter Try.func15, Try.ntmps15
    go_wp2_with fail
    refine (HIN.out _).mono ?_
    rintro e w' ⟨rfl, rfl⟩
    go_wp2_with fail
    go_ret
    exact ⟨ret_int (by rw [HR.out]; simp), Below.refl _ _⟩

/-- How many of the first n are not -1. -/
def cntW (xs : List Int) : Nat → Nat
  | 0 => 0
  | n + 1 => if atZ xs n = -1 then cntW xs n else cntW xs n + 1
theorem cntW_le (xs : List Int) : ∀ n, cntW xs n ≤ n
  | 0 => Nat.le_refl _
  | n + 1 => by
    have := cntW_le xs n
    unfold cntW
    split <;> omega

set_option maxRecDepth 100000 in
theorem implCnt (xs : List Int) (v : Value) (w : World) (hv : Seq w v xs) : Calls Try.prog 19 #[v] w (IntIs (cntW xs xs.length) w) := by
  have hlen := hv.len
  obtain ⟨A, c, rfl, _, _, hcs⟩ := hv.form
  clear hv
  go_enter Try.func19, Try.ntmps19
  go_wp2_with fail
  go_loopw [3, 8] (fun v i wr => ∃ m : Nat, m ≤ xs.length ∧ i = .int .i64 m ∧ v = .int .i64 (cntW xs m : Nat) ∧ wr = w) (fun _ i _ => xs.length - (intOf i).toNat)
  case atStart => exact ⟨0, Nat.zero_le _, rfl, rfl, rfl⟩
  case round =>
    obtain ⟨m, hm, rfl, rfl, rfl⟩ := hrel
    by_cases hlt : m < xs.length
    · obtain ⟨b, o, rfl, hbl, hc⟩ := hcs m hlt
      have HS := Lib.hid (show cntW xs (m + 1) = if atZ xs m = -1 then cntW xs m else cntW xs m + 1 from rfl)
      have hle := cntW_le xs m
      have hz1 : (m : Int) < (xs.length : Int) := by omega
      have hz2 : (0 : Int) ≤ m := by omega
      generalize atZ xs m = z at *
      generalize cntW xs m = q at *
      by_cases hz : z = -1
      · have g : (z != -1) = false := by simp [hz]
        have HZ := Lib.hid hz; clear hz
        go_wp2_with fail
        exact ⟨⟨m + 1, by omega, by go_num, by rw [HS.out, if_pos HZ.out], trivial⟩, by simp [intOf]; omega⟩
      · have g : (z != -1) = true := by simp [hz]
        have HZ := Lib.hid hz; clear hz
        go_wp2_with fail
        exact ⟨⟨m + 1, by omega, by go_num, by rw [HS.out, if_neg HZ.out]; go_num, trivial⟩, by simp [intOf]; omega⟩
    · obtain rfl : m = xs.length := by omega
      go_wp2_with fail
      go_ret
      exact ⟨rfl, Below.refl _ _⟩

set_option maxRecDepth 100000 in
theorem specCnt (xs : List Int) (v : Value) (w : World) (hv : Seq w v xs) : Calls Try.prog 17 #[v] w (IntIs (cntW xs xs.length) w) := by
  have hlen := hv.len
  obtain ⟨A, c, rfl, _, _, hcs⟩ := hv.form
  clear hv
  go_enter Try.func17, Try.ntmps17
  go_wp2_with fail
  go_loopw [3, 4] (fun v i wr => ∃ m : Nat, m ≤ xs.length ∧ i = .int .i64 m ∧ v = .int .i64 (cntW xs m : Nat) ∧ wr = w) (fun _ i _ => xs.length - (intOf i).toNat)
  case atStart => exact ⟨0, Nat.zero_le _, rfl, rfl, rfl⟩
  case round =>
    obtain ⟨m, hm, rfl, rfl, rfl⟩ := hrel
    by_cases hlt : m < xs.length
    · obtain ⟨b, o, rfl, hbl, hc⟩ := hcs m hlt
      have HS := Lib.hid (show cntW xs (m + 1) = if atZ xs m = -1 then cntW xs m else cntW xs m + 1 from rfl)
      have hle := cntW_le xs m
      have hz1 : (m : Int) < (xs.length : Int) := by omega
      have hz2 : (0 : Int) ≤ m := by omega
      generalize atZ xs m = z at *
      generalize cntW xs m = q at *
      by_cases hz : z = -1
      · have g : (z != -1) = false := by simp [hz]
        have HZ := Lib.hid hz; clear hz
        go_wp2_with fail
        exact ⟨⟨m + 1, by omega, by go_num, by rw [HS.out, if_pos HZ.out], trivial⟩, by simp [intOf]; omega⟩
      · have g : (z != -1) = true := by simp [hz]
        have HZ := Lib.hid hz; clear hz
        go_wp2_with fail
        exact ⟨⟨m + 1, by omega, by go_num, by rw [HS.out, if_neg HZ.out]; go_num, trivial⟩, by simp [intOf]; omega⟩
    · obtain rfl : m = xs.length := by omega
      go_wp2_with fail
      go_ret
      exact ⟨rfl, Below.refl _ _⟩
end Go.Proofs.Ytkkjcdilpbofmaa
