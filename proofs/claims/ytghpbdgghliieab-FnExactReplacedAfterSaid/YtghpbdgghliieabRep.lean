/-
  The numbers above a number, of the model and of the program: where they stand in a list.
-/
import Derived.Test.YtghpbdgghliieabMarkB
import Derived.LoopTactic
namespace Go.Proofs.Ytghpbdgghliieab
open Go.RowKit
set_option linter.unusedVariables false
set_option linter.unusedSimpArgs false

/-- The places before n at which a number above y stands. -/
def selL (xs : List Int) (y : Int) : Nat → List Int
  | 0 => []
  | n + 1 => if y < atZ xs n then selL xs y n ++ [(n : Int)] else selL xs y n
theorem selL_len (xs : List Int) (y : Int) : ∀ n, (selL xs y n).length ≤ n
  | 0 => Nat.le_refl _
  | n + 1 => by
    have := selL_len xs y n
    unfold selL
    split
    · simp; omega
    · omega

set_option maxRecDepth 100000 in
theorem specRep (xs : List Int) (v : Value) (y : Int) (w : World) (hv : Seq w v xs) (hl : xs.length ≤ 1048576) :
    Calls Try.prog 31 #[v, .int .i64 y] w (IntsNew (selL xs y xs.length) w) := by
  have hlen := hl
  obtain ⟨i0, hi, hz0, hz1, hz2⟩ := info_parts infoInt
  have HI := Lib.hid (And.intro hi (And.intro hz0 (And.intro hz1 hz2))); clear hi hz0 hz1 hz2
  obtain ⟨A, c, rfl, hc1, hc2, hcs⟩ := hv.form
  have HC := Lib.hid hcs; clear hcs hv
  have HLN := Lib.hid (selL_len xs y)
  have HST := Lib.hid (fun n => (show selL xs y (n + 1) = if y < atZ xs n then selL xs y n ++ [(n : Int)] else selL xs y n from rfl))
  have HZ := Lib.hid (show selL xs y 0 = [] from rfl)
  generalize selL xs y = S at *
  go_enter Try.func31, Try.ntmps31
  go_wp2_with fail
  go_loopw [5, 6] (fun v i wr => ∃ m : Nat, m ≤ xs.length ∧ i = .int .i64 m ∧ Ints wr w.heap.size v (S m) ∧ Below w.heap.size w wr) (fun _ i _ => xs.length - (intOf i).toNat)
  case atStart => exact ⟨0, Nat.zero_le _, rfl, by rw [HZ.out]; exact World.ownsRow_made _ _ _ (Nat.le_refl _) (by unfold maxLen; omega) rfl, (Below.refl _ _).alloc (Nat.le_refl _) _⟩
  case round =>
    obtain ⟨m, hm, rfl, hown, hb⟩ := hrel
    have HOWN := Lib.hid hown; clear hown
    have HB := Lib.hid hb; clear hb
    have hsz := HB.out.size
    by_cases hlt : m < xs.length
    · obtain ⟨bb, o, rfl, hbl, hc⟩ := HC.out m hlt
      have hc := hc.trans (show _ = some (Value.int .i64 (atZ xs m)) from rfl)
      have HS := Lib.hid (HST.out m)
      have hll := HLN.out m
      have c0 := (bcell HB.out).1 bb (o + m) hbl |>.trans hc
      have hz1 : (m : Int) < (xs.length : Int) := by omega
      have hz2 : (0 : Int) ≤ m := by omega
      generalize atZ xs m = z at *
      by_cases hy : y < z
      · obtain ⟨hi, hz0, hzz1, hzz2⟩ := HI.out
        go_wp2_with (at_builtin; refine wpList_append_own _ rfl _ _ 42 rfl w.heap.size 3 i0 (.int .i64 0) 1 8 Try.underlying42 hi hz0 hzz1 hzz2 rfl (by decide) _ _ _ rfl (World.ownsRow.alloc HOWN.out _) ⟨_, 0, none⟩ 1 1 [.int .i64 m] rfl rfl ?c1 ?c2 ?c3 ?c4 ?c5 ?_)
        case c1 => exact cell_one_new _ _ _
        case c2 => simp [Value.oneCell']
        case c3 => unfold maxLen; omega
        case c4 => omega
        case c5 => simp; omega
        intro v' w2 hown hgrow _
        have HB2 := Lib.hid (HB.out.trans (grown_below HOWN.out hsz hgrow))
        have HO2 := Lib.hid (Ints.more hown); clear hown hgrow
        go_wp2_with fail
        exact ⟨⟨m + 1, by omega, by go_num, by rw [HS.out, if_pos hy]; exact HO2.out, HB2.out⟩, by simp [intOf]; omega⟩
      · go_wp2_with fail
        exact ⟨⟨m + 1, by omega, by go_num, by rw [HS.out, if_neg hy]; exact HOWN.out, HB.out⟩, by simp [intOf]; omega⟩
    · obtain rfl : m = xs.length := by omega
      go_wp2_with fail
      go_ret
      exact ⟨_, rfl, HOWN.out, HB.out⟩

set_option maxRecDepth 100000 in
theorem implRep (xs : List Int) (v : Value) (y : Int) (w : World) (hv : Seq w v xs) (hl : xs.length ≤ 1048576) :
    Calls Try.prog 32 #[v, .int .i64 y] w (IntsNew (selL xs y xs.length) w) := by
  have hlen := hl
  obtain ⟨i0, hi, hz0, hz1, hz2⟩ := info_parts infoInt
  have HI := Lib.hid (And.intro hi (And.intro hz0 (And.intro hz1 hz2))); clear hi hz0 hz1 hz2
  obtain ⟨A, c, rfl, hc1, hc2, hcs⟩ := hv.form
  have HC := Lib.hid hcs; clear hcs hv
  have HLN := Lib.hid (selL_len xs y)
  have HST := Lib.hid (fun n => (show selL xs y (n + 1) = if y < atZ xs n then selL xs y n ++ [(n : Int)] else selL xs y n from rfl))
  have HZ := Lib.hid (show selL xs y 0 = [] from rfl)
  generalize selL xs y = S at *
  go_enter Try.func32, Try.ntmps32
  go_wp2_with fail
  go_loopw [5, 11] (fun v i wr => ∃ m : Nat, m ≤ xs.length ∧ i = .int .i64 m ∧ Ints wr w.heap.size v (S m) ∧ Below w.heap.size w wr) (fun _ i _ => xs.length - (intOf i).toNat)
  case atStart => exact ⟨0, Nat.zero_le _, rfl, by rw [HZ.out]; exact World.ownsRow_made _ _ _ (Nat.le_refl _) (by unfold maxLen; omega) rfl, (Below.refl _ _).alloc (Nat.le_refl _) _⟩
  case round =>
    obtain ⟨m, hm, rfl, hown, hb⟩ := hrel
    have HOWN := Lib.hid hown; clear hown
    have HB := Lib.hid hb; clear hb
    have hsz := HB.out.size
    by_cases hlt : m < xs.length
    · obtain ⟨bb, o, rfl, hbl, hc⟩ := HC.out m hlt
      have hc := hc.trans (show _ = some (Value.int .i64 (atZ xs m)) from rfl)
      have HS := Lib.hid (HST.out m)
      have hll := HLN.out m
      have c0 := (bcell HB.out).1 bb (o + m) hbl |>.trans hc
      have hz1 : (m : Int) < (xs.length : Int) := by omega
      have hz2 : (0 : Int) ≤ m := by omega
      generalize atZ xs m = z at *
      by_cases hy : y < z
      · obtain ⟨hi, hz0, hzz1, hzz2⟩ := HI.out
        go_wp2_with (at_builtin; refine wpList_append_own _ rfl _ _ 42 rfl w.heap.size 3 i0 (.int .i64 0) 1 8 Try.underlying42 hi hz0 hzz1 hzz2 rfl (by decide) _ _ _ rfl (World.ownsRow.alloc HOWN.out _) ⟨_, 0, none⟩ 1 1 [.int .i64 m] rfl rfl ?c1 ?c2 ?c3 ?c4 ?c5 ?_)
        case c1 => exact cell_one_new _ _ _
        case c2 => simp [Value.oneCell']
        case c3 => unfold maxLen; omega
        case c4 => omega
        case c5 => simp; omega
        intro v' w2 hown hgrow _
        have HB2 := Lib.hid (HB.out.trans (grown_below HOWN.out hsz hgrow))
        have HO2 := Lib.hid (Ints.more hown); clear hown hgrow
        go_wp2_with fail
        exact ⟨⟨m + 1, by omega, by go_num, by rw [HS.out, if_pos hy]; exact HO2.out, HB2.out⟩, by simp [intOf]; omega⟩
      · go_wp2_with fail
        exact ⟨⟨m + 1, by omega, by go_num, by rw [HS.out, if_neg hy]; exact HOWN.out, HB.out⟩, by simp [intOf]; omega⟩
    · obtain rfl : m = xs.length := by omega
      go_wp2_with fail
      go_ret
      exact ⟨_, rfl, HOWN.out, HB.out⟩
end Go.Proofs.Ytghpbdgghliieab
