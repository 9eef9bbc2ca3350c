/-
  What EncodeHex of the program returns.
-/
import Derived.Test.YtejjeihikmipdaaDoorBase
import Derived.Test.YtejjeihikmipdaaDoorFig
import Derived.LoopTactic
import Derived.Outline
import Derived.Deep.RegionHeld3
import Derived.Deep.AppendLies
import Derived.Deep.QuietTactic
import Derived.BigQuiet
namespace Go.Proofs.YtejjeihikmipdaaDoor
open Go.RowKit
set_option linter.unusedVariables false
set_option linter.unusedSimpArgs false

def TextTrue (l : List UInt8) (B : Nat) (w : World) (e : Ending) (w' : World) : Prop :=
  e = .returned (.tuple #[.string ⟨l.toArray⟩, .bool true]) ∧ Below B w w'

theorem implEncode_long (s : ByteArray) (w : World) (hs : s.size ≤ maxLen) (h : 20000 < s.size) :
    Calls Tryd.prog 10 #[.string s] w fun e w' => e = .returned (.tuple #[.string ⟨#[]⟩, .bool false]) ∧ w = w' := by
  unfold maxLen at hs
  go_enter Tryd.func10, Tryd.ntmps10
  go_wp2_with fail
  go_ret2
  exact ⟨rfl, rfl⟩
theorem implEncode_short (s : ByteArray) (w : World) (h : s.size ≤ 20000) :
    Calls Tryd.prog 10 #[.string s] w (TextTrue (hexL s.data.toList) w.heap.size w) := by
  obtain ⟨i0, hi, hz0, hz1, hz2⟩ := info_parts infoU8
  go_enter Tryd.func10, Tryd.ntmps10
  go_wp2_with (at_make; refine wpList_make_own _ rfl _ _ 22 rfl w.heap.size 5 i0 (.int .u8 0) 1 Tryd.underlying22 hi hz0 hz1 .i64 .i64 _ (2 * s.size) rfl rfl (by omega) (by rw [hz2]; omega) (by unfold maxLen; omega) (Nat.le_refl _) ?_; intro w0 hown0 hgrow0)
  have HOWN0 := Lib.hid hown0; clear hown0
  have HG0 := Lib.hid ((Below.refl w.heap.size w).grown hgrow0 (Nat.le_refl _) (fun k e => by cases e)); clear hgrow0
  go_loopw [4, 5, 15] (fun v c i wr => ∃ (k : Nat), k ≤ s.size ∧ i = .int .i64 k ∧ wr.ownsRow w.heap.size 5 1 v (2 * k) ((hexL (s.data.toList.take k)).map byteV) ∧ Below w.heap.size w wr) (fun _ _ i _ => s.size - (intOf i).toNat)
  case atStart => exact ⟨0, Nat.zero_le _, rfl, HOWN0.out, HG0.out⟩
  case round =>
    obtain ⟨k, hk, rfl, hown, hb⟩ := hrel
    have HOWN := Lib.hid hown; clear hown
    have HB := Lib.hid hb; clear hb
    by_cases hlt : k < s.size
    · have hc0 : s[k].toNat < 256 := s[k].toNat_lt
      have hq0 : (0 : Int) ≤ (s[k].toNat : Int) / 16 := by omega
      have hq1 : (s[k].toNat : Int) / 16 < 16 := by omega
      have hr0 : (0 : Int) ≤ (s[k].toNat : Int) % 16 := by omega
      have hr1 : (s[k].toNat : Int) % 16 < 16 := by omega
      have hand : bits .and .u8 (s[k].toNat : Int) 15 = (s[k].toNat : Int) % 16 := u8_and15 _ (by omega) (by omega)
      have hd1 : ∀ (h : ((s[k].toNat : Int) / 16).toNat < (⟨#[48, 49, 50, 51, 52, 53, 54, 55, 56, 57, 97, 98, 99, 100, 101, 102]⟩ : ByteArray).size), (⟨#[48, 49, 50, 51, 52, 53, 54, 55, 56, 57, 97, 98, 99, 100, 101, 102]⟩ : ByteArray)[((s[k].toNat : Int) / 16).toNat]'h = digitB (s[k].toNat / 16) := hexDigits_get _ (by omega) _ (by omega)
      have hd2 : ∀ (h : ((s[k].toNat : Int) % 16).toNat < (⟨#[48, 49, 50, 51, 52, 53, 54, 55, 56, 57, 97, 98, 99, 100, 101, 102]⟩ : ByteArray).size), (⟨#[48, 49, 50, 51, 52, 53, 54, 55, 56, 57, 97, 98, 99, 100, 101, 102]⟩ : ByteArray)[((s[k].toNat : Int) % 16).toNat]'h = digitB (s[k].toNat % 16) := hexDigits_get _ (by omega) _ (by omega)
      have hbs := HB.out.size
      go_wp2_with fail
      go_region_held3 (fun _ => True) (trivial) (first | (refine step_append_lies _ (by rfl) _ _ _ (by rfl) w.heap.size 5 i0 _ 1 1 Tryd.underlying22 hi hz0 hz1 hz2 rfl (by omega) u4 (2 * k) _ (by rfl) ((HOWN.out.alloc _).drew) ⟨wr.heap.size, 0, none⟩ 2 2 [byteV (digitB (s[k].toNat / 16)), byteV (digitB (s[k].toNat % 16))] (by rfl) (by rfl) (World.news_of_block (cs := #[byteV (digitB (s[k].toNat / 16)), byteV (digitB (s[k].toNat % 16))]) (t := 5) (fr := (0, 0)) (heap_alloc_new wr _)) (by simp [byteV, Value.oneCell']) (by omega) (by unfold maxLen; omega) (by omega) (by simp; omega) (wr.heap.size + 1) (by simp) ?_; intro gg cap w1 hown1 hgrow hat hltg) | fail)
      all_goals
        go_wp2_with fail
        refine ⟨⟨k + 1, by omega, by go_num, ?_, ?_⟩, by simp [intOf]; omega⟩
        · have e : 2 * (k + 1) = 2 * k + 2 := by omega
          rw [e, take_snoc s k hlt, hexL_snoc, List.map_append]
          exact hown1
        · exact ((HB.out.alloc hbs _).drew).grown hgrow (by simp; omega) (fun i e => (HOWN.out.lt i e).1)
    · have ek : k = s.size := by omega
      have hcv := run_convert_own (P := Tryd.prog) wr 22 9 5 _ Tryd.underlying22 Tryd.underlying5 Tryd.underlying9 HOWN.out
      have EK := Lib.hid ek; clear ek
      go_wp2_with fail
      go_ret2
      refine ⟨?_, HB.out⟩
      have e1 : s.data.toList.take k = s.data.toList := List.take_of_length_le (by rw [EK.out]; simp)
      rw [e1]
      rfl

end Go.Proofs.YtejjeihikmipdaaDoor
