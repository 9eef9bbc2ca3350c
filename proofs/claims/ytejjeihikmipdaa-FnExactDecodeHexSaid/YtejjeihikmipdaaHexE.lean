/-
  What EncodeHex of the program and of the model return.
-/
import Derived.Test.YtejjeihikmipdaaBase
import Derived.Test.YtejjeihikmipdaaHexP
import Derived.LoopTactic
import Derived.Outline
import Derived.Deep.RegionHeld3
import Derived.Deep.AppendLies
import Derived.Deep.QuietTactic
import Derived.BigQuiet
namespace Go.Proofs.Ytejjeihikmipdaa
open Go.RowKit
set_option linter.unusedVariables false
set_option linter.unusedSimpArgs false

theorem infoU8 : (Try.prog.info? 5).map (fun i => (i.zero, i.size, i.bytes)) = some (some (.int .u8 0), 1, 1) := by kernel_rfl

theorem specFigure (n : Int) (w : World) (h0 : 0 ≤ n) (h : n < 16) :
    Calls Try.prog 25 #[.int .i64 n] w fun e w' => e = .returned (.int .u8 (digitB n.toNat).toNat) ∧ w = w' := by
  by_cases h1 : n < 10
  · have hd : ((digitB n.toNat).toNat : Int) = 48 + n := by
      unfold digitB; rw [if_pos (by omega)]; simp; omega
    have HD := Lib.hid hd; clear hd
    go_enter Try.func25, Try.ntmps25
    go_wp2_with fail
    go_ret
    exact ⟨ret_int (by rw [HD.out]; try omega), rfl⟩
  · have hd : ((digitB n.toNat).toNat : Int) = 87 + n := by
      unfold digitB; rw [if_neg (by omega)]; simp; omega
    have HD := Lib.hid hd; clear hd
    go_enter Try.func25, Try.ntmps25
    go_wp2_with fail
    go_ret
    exact ⟨ret_int (by rw [HD.out]; try omega), rfl⟩

def TextTrue (l : List UInt8) (B : Nat) (w : World) (e : Ending) (w' : World) : Prop :=
  e = .returned (.tuple #[.string ⟨l.toArray⟩, .bool true]) ∧ Below B w w'

theorem implEncode_long (s : ByteArray) (w : World) (hs : s.size ≤ maxLen) (h : 20000 < s.size) :
    Calls Try.prog 12 #[.string s] w fun e w' => e = .returned (.tuple #[.string ⟨#[]⟩, .bool false]) ∧ w = w' := by
  unfold maxLen at hs
  go_enter Try.func12, Try.ntmps12
  go_wp2_with fail
  go_ret2
  exact ⟨rfl, rfl⟩
theorem specEncode_long (s : ByteArray) (w : World) (hs : s.size ≤ maxLen) (h : 20000 < s.size) :
    Calls Try.prog 11 #[.string s] w fun e w' => e = .returned (.tuple #[.string ⟨#[]⟩, .bool false]) ∧ w = w' := by
  unfold maxLen at hs
  go_enter Try.func11, Try.ntmps11
  go_wp2_with fail
  go_ret2
  exact ⟨rfl, rfl⟩

theorem implEncode_short (s : ByteArray) (w : World) (h : s.size ≤ 20000) :
    Calls Try.prog 12 #[.string s] w (TextTrue (hexL s.data.toList) w.heap.size w) := by
  obtain ⟨i0, hi, hz0, hz1, hz2⟩ := info_parts infoU8
  go_enter Try.func12, Try.ntmps12
  go_wp2_with (at_make; refine wpList_make_own _ rfl _ _ 22 rfl w.heap.size 5 i0 (.int .u8 0) 1 Try.underlying22 hi hz0 hz1 .i64 .i64 _ (2 * s.size) rfl rfl (by omega) (by rw [hz2]; omega) (by unfold maxLen; omega) (Nat.le_refl _) ?_; intro w0 hown0 hgrow0)
  have HOWN0 := Lib.hid hown0; clear hown0
  have HG0 := Lib.hid ((Below.refl w.heap.size w).grown hgrow0 (Nat.le_refl _) (fun k e => by cases e)); clear hgrow0
  go_loopw [4, 5, 15] (fun v c i wr => ∃ (k : Nat), k ≤ s.size ∧ i = .int .i64 k ∧ wr.ownsRow w.heap.size 5 1 v (2 * k) ((hexL (s.data.toList.take k)).map byteV) ∧ Below w.heap.size w wr) (fun _ _ i _ => s.size - (intOf i).toNat)
  case atStart => exact ⟨0, Nat.zero_le _, rfl, HOWN0.out, HG0.out⟩
  case round =>
    obtain ⟨k, hk, rfl, hown, hb⟩ := hrel
    have HOWN := Lib.hid hown; clear hown
    have HB := Lib.hid hb; clear hb
    by_cases hlt : k < s.size
    · have hc0 : s[k].toNat < 256 := s[k].toNat_lt
      have hq0 : (0 : Int) ≤ (s[k].toNat : Int) / 16 := by omega
      have hq1 : (s[k].toNat : Int) / 16 < 16 := by omega
      have hr0 : (0 : Int) ≤ (s[k].toNat : Int) % 16 := by omega
      have hr1 : (s[k].toNat : Int) % 16 < 16 := by omega
      have hand : bits .and .u8 (s[k].toNat : Int) 15 = (s[k].toNat : Int) % 16 := u8_and15 _ (by omega) (by omega)
      have hd1 : ∀ (h : ((s[k].toNat : Int) / 16).toNat < (⟨#[48, 49, 50, 51, 52, 53, 54, 55, 56, 57, 97, 98, 99, 100, 101, 102]⟩ : ByteArray).size), (⟨#[48, 49, 50, 51, 52, 53, 54, 55, 56, 57, 97, 98, 99, 100, 101, 102]⟩ : ByteArray)[((s[k].toNat : Int) / 16).toNat]'h = digitB (s[k].toNat / 16) := hexDigits_get _ (by omega) _ (by omega)
      have hd2 : ∀ (h : ((s[k].toNat : Int) % 16).toNat < (⟨#[48, 49, 50, 51, 52, 53, 54, 55, 56, 57, 97, 98, 99, 100, 101, 102]⟩ : ByteArray).size), (⟨#[48, 49, 50, 51, 52, 53, 54, 55, 56, 57, 97, 98, 99, 100, 101, 102]⟩ : ByteArray)[((s[k].toNat : Int) % 16).toNat]'h = digitB (s[k].toNat % 16) := hexDigits_get _ (by omega) _ (by omega)
      have hbs := HB.out.size
      go_wp2_with fail
      go_region_held3 (fun _ => True) (trivial) (first | (refine step_append_lies _ (by rfl) _ _ _ (by rfl) w.heap.size 5 i0 _ 1 1 Try.underlying22 hi hz0 hz1 hz2 rfl (by omega) u4 (2 * k) _ (by rfl) ((HOWN.out.alloc _).drew) ⟨wr.heap.size, 0, none⟩ 2 2 [byteV (digitB (s[k].toNat / 16)), byteV (digitB (s[k].toNat % 16))] (by rfl) (by rfl) (World.news_of_block (cs := #[byteV (digitB (s[k].toNat / 16)), byteV (digitB (s[k].toNat % 16))]) (t := 5) (fr := (0, 0)) (heap_alloc_new wr _)) (by simp [byteV, Value.oneCell']) (by omega) (by unfold maxLen; omega) (by omega) (by simp; omega) (wr.heap.size + 1) (by simp) ?_; intro gg cap w1 hown1 hgrow hat hltg) | fail)
      all_goals
        go_wp2_with fail
        refine ⟨⟨k + 1, by omega, by go_num, ?_, ?_⟩, by simp [intOf]; omega⟩
        · have e : 2 * (k + 1) = 2 * k + 2 := by omega
          rw [e, take_snoc s k hlt, hexL_snoc, List.map_append]
          exact hown1
        · exact ((HB.out.alloc hbs _).drew).grown hgrow (by simp; omega) (fun i e => (HOWN.out.lt i e).1)
    · have ek : k = s.size := by omega
      have hcv := run_convert_own (P := Try.prog) wr 22 9 5 _ Try.underlying22 Try.underlying5 Try.underlying9 HOWN.out
      have EK := Lib.hid ek; clear ek
      go_wp2_with fail
      go_ret2
      refine ⟨?_, HB.out⟩
      have e1 : s.data.toList.take k = s.data.toList := List.take_of_length_le (by rw [EK.out]; simp)
      rw [e1]
      rfl

theorem specEncode_short (s : ByteArray) (w : World) (h : s.size ≤ 20000) :
    Calls Try.prog 11 #[.string s] w (TextTrue (hexL s.data.toList) w.heap.size w) := by
  obtain ⟨i0, hi, hz0, hz1, hz2⟩ := info_parts infoU8
  go_enter Try.func11, Try.ntmps11
  go_wp2_with fail
  go_loopw [4, 5] (fun v i wr => ∃ (k : Nat), k ≤ s.size ∧ i = .int .i64 k ∧ wr.ownsRow w.heap.size 5 1 v (2 * k) ((hexL (s.data.toList.take k)).map byteV) ∧ Below w.heap.size w wr) (fun _ i _ => s.size - (intOf i).toNat)
  case atStart => exact ⟨0, Nat.zero_le _, rfl, World.ownsRow_made _ _ _ (Nat.le_refl _) (by unfold maxLen; omega) rfl, (Below.refl _ _).alloc (Nat.le_refl _) _⟩
  case round =>
    obtain ⟨k, hk, rfl, hown, hb⟩ := hrel
    have HOWN := Lib.hid hown; clear hown
    have HB := Lib.hid hb; clear hb
    by_cases hlt : k < s.size
    · have hc0 : s[k].toNat < 256 := s[k].toNat_lt
      have hbs := HB.out.size
      have q1 : IntKind.i64.wrap (s[k].toNat : Int) = (s[k].toNat : Int) := by rw [IntKind.wrap_i64]; omega
      have q2 : IntKind.i64.wrap ((s[k].toNat : Int) / 16) = (s[k].toNat : Int) / 16 := by rw [IntKind.wrap_i64]; omega
      have q3 : (s[k].toNat : Int).tmod 16 = (s[k].toNat : Int) % 16 := Int.tmod_eq_emod_of_nonneg (by omega)
      have q2a : (0 : Int) ≤ (s[k].toNat : Int) / 16 := by omega
      have q2b : (s[k].toNat : Int) / 16 < 16 := by omega
      have q3a : (0 : Int) ≤ (s[k].toNat : Int) % 16 := by omega
      have q3b : (s[k].toNat : Int) % 16 < 16 := by omega
      go_wp2_with fail
      go_region_held3 (fun _ => True) (trivial) (first | (go_at_call 25; refine (specFigure _ _ ?_ ?_).mono ?_; assumption; assumption; rintro e w' ⟨rfl, rfl⟩) | (refine step_append_lies _ (by rfl) _ _ _ (by rfl) w.heap.size 5 i0 _ 1 1 Try.underlying22 hi hz0 hz1 hz2 rfl (by omega) u4 (2 * k) _ (by rfl) ((HOWN.out.alloc _).drew) ⟨wr.heap.size, 0, none⟩ 2 2 [byteV (digitB ((s[k].toNat : Int) / 16).toNat), byteV (digitB ((s[k].toNat : Int) % 16).toNat)] (by rfl) (by rfl) (World.news_of_block (cs := #[byteV (digitB ((s[k].toNat : Int) / 16).toNat), byteV (digitB ((s[k].toNat : Int) % 16).toNat)]) (t := 5) (fr := (0, 0)) (heap_alloc_new wr _)) (by simp [byteV, Value.oneCell']) (by omega) (by unfold maxLen; omega) (by omega) (by simp; omega) (wr.heap.size + 1) (by simp) ?_; intro gg cap w1 hown1 hgrow hat hltg) | fail)
      all_goals
        clear q1 q2 q3
        go_wp2_with fail
        refine ⟨⟨k + 1, by omega, by go_num, ?_, ?_⟩, by simp [intOf]; omega⟩
        · have e : 2 * (k + 1) = 2 * k + 2 := by omega
          have e1 : ((s[k].toNat : Int) / 16).toNat = s[k].toNat / 16 := by omega
          have e2 : ((s[k].toNat : Int) % 16).toNat = s[k].toNat % 16 := by omega
          rw [e1, e2] at hown1
          rw [e, take_snoc s k hlt, hexL_snoc, List.map_append]
          exact hown1
        · exact ((HB.out.alloc hbs _).drew).grown hgrow (by simp; omega) (fun i e => (HOWN.out.lt i e).1)
    · have ek : k = s.size := by omega
      have hcv := run_convert_own (P := Try.prog) wr 22 9 5 _ Try.underlying22 Try.underlying5 Try.underlying9 HOWN.out
      have EK := Lib.hid ek; clear ek
      go_wp2_with fail
      go_ret2
      refine ⟨?_, HB.out⟩
      have e1 : s.data.toList.take k = s.data.toList := List.take_of_length_le (by rw [EK.out]; simp)
      rw [e1]
      rfl
end Go.Proofs.Ytejjeihikmipdaa
