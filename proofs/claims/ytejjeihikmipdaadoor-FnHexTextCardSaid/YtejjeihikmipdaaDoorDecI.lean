/-
  What DecodeHex of the program returns.
-/
import Derived.Test.YtejjeihikmipdaaDoorHexI
import Derived.Test.YtejjeihikmipdaaDoorDecP
namespace Go.Proofs.YtejjeihikmipdaaDoor
open Go.RowKit
set_option linter.unusedVariables false
set_option linter.unusedSimpArgs false

theorem strIndexByte (s : ByteArray) (c : UInt8) (w : World) :
    Calls Tryd.prog 27 #[.string s, .int .u8 c.toNat] w fun e w' => e = .returned (.int .i64 (Lib.indexByte s.data.toList c)) ∧ w = w' := by
  go_enter Tryd.func27, Tryd.ntmps27
  go_wp2
  rw [run_callFunc_extern Tryd.func41 (by kernel_rfl) (by kernel_rfl) (by kernel_rfl) (e := Extern.BytealgIndexByte.indexByte) (by kernel_rfl), Lib.run_indexByteString]
  simp only [Result.andThen]
  rw [Oper.upon_value]
  go_wp2
  go_ret
  exact ⟨by simp, rfl⟩

theorem hexIndex (c : UInt8) (w : World) :
    Calls Tryd.prog 27 #[.string ⟨#[48, 49, 50, 51, 52, 53, 54, 55, 56, 57, 97, 98, 99, 100, 101, 102]⟩, .int .u8 c.toNat] w fun e w' => e = .returned (.int .i64 (hexVal c)) ∧ w = w' :=
  (strIndexByte _ c w).mono fun e w' ⟨he, hw⟩ => ⟨by rw [he, indexByte_hexVal], hw⟩

/-- Of a text of even length: the bytes, and true; or the empty text and false where a byte is no digit. -/
def DecPost (s : ByteArray) (B : Nat) (w : World) (e : Ending) (w' : World) : Prop :=
  Below B w w' ∧ ((AllHex s.data.toList s.size ∧ e = .returned (.tuple #[.string ⟨(decL s.data.toList (s.size / 2)).toArray⟩, .bool true])) ∨
    (¬ AllHex s.data.toList s.size ∧ e = .returned (.tuple #[.string ⟨#[]⟩, .bool false])))

theorem implDecode_bad (s : ByteArray) (w : World) (hs : s.size ≤ maxLen) (h : s.size % 2 = 1 ∨ 40000 < s.size) :
    Calls Tryd.prog 12 #[.string s] w fun e w' => e = .returned (.tuple #[.string ⟨#[]⟩, .bool false]) ∧ w = w' := by
  unfold maxLen at hs
  by_cases h1 : s.size % 2 = 1
  · have q : (s.size : Int) % 2 = 1 := by omega
    by_cases h2 : 40000 < s.size
    all_goals
      go_enter Tryd.func12, Tryd.ntmps12
      go_wp2_with fail
      go_ret2
      exact ⟨rfl, rfl⟩
  · have h2 : 40000 < s.size := by omega
    have q : (s.size : Int) % 2 = 0 := by omega
    go_enter Tryd.func12, Tryd.ntmps12
    go_wp2_with fail
    go_ret2
    exact ⟨rfl, rfl⟩
set_option maxHeartbeats 1000000 in
theorem implDecode_good (s : ByteArray) (w : World) (hs : s.size ≤ 40000) (hev : s.size % 2 = 0) :
    Calls Tryd.prog 12 #[.string s] w (DecPost s w.heap.size w) := by
  obtain ⟨i0, hi, hz0, hz1, hz2⟩ := info_parts infoU8
  have q : (s.size : Int) % 2 = 0 := by omega
  have HEV := Lib.hid hev; clear hev
  go_enter Tryd.func12, Tryd.ntmps12
  go_wp2_with (at_make; refine wpList_make_own _ rfl _ _ 22 rfl w.heap.size 5 i0 (.int .u8 0) 1 Tryd.underlying22 hi hz0 hz1 .i64 .i64 _ (s.size / 2) rfl rfl (by omega) (by rw [hz2]; omega) (by unfold maxLen; omega) (Nat.le_refl _) ?_; intro w0 hown0 hgrow0)
  have HOWN0 := Lib.hid hown0; clear hown0
  have HG0 := Lib.hid ((Below.refl w.heap.size w).grown hgrow0 (Nat.le_refl _) (fun k e => by cases e)); clear hgrow0
  go_loopw [4, 5, 6, 7] (fun v i _ _ wr => ∃ (k : Nat), 2 * k ≤ s.size ∧ i = .int .i64 (2 * (k : Int)) ∧ wr.ownsRow w.heap.size 5 1 v k ((decL s.data.toList k).map byteV) ∧ Below w.heap.size w wr ∧ AllHex s.data.toList (2 * k)) (fun _ i _ _ _ => s.size - (intOf i).toNat)
  case atStart => exact ⟨0, Nat.zero_le _, by go_num, HOWN0.out, HG0.out, fun j hj => by omega⟩
  case round =>
    obtain ⟨k, hk, rfl, hown, hb, hall⟩ := hrel
    have HOWN := Lib.hid hown; clear hown
    have HB := Lib.hid hb; clear hb
    have HALL := Lib.hid hall; clear hall
    by_cases hlt : 2 * k < s.size
    · have hlt1 : 2 * k + 1 < s.size := by have := HEV.out; omega
      have hbs := HB.out.size
      have ha0 := at_get s (2 * k) hlt
      have ha1 := at_get s (2 * k + 1) hlt1
      have HA0 := Lib.hid ha0; clear ha0
      have HA1 := Lib.hid ha1; clear ha1
      have hv0 := hexVal_bd s[2 * k]
      have hv1 := hexVal_bd s[2 * k + 1]
      go_wp2_with fail
      refine (hexIndex _ _).mono ?_
      rintro e w' ⟨rfl, rfl⟩
      generalize hx : hexVal s[2 * k] = x at *
      have HX := Lib.hid hx; clear hx
      go_wp2_with fail
      refine (hexIndex _ _).mono ?_
      rintro e w' ⟨rfl, rfl⟩
      generalize hy : hexVal s[2 * k + 1] = y at *
      have HY := Lib.hid hy; clear hy
      by_cases hx0 : x < 0
      · go_wp2_with fail
        go_ret2
        exact ⟨HB.out, .inr ⟨fun hA => by have := hA (2 * k) hlt; rw [HA0.out, HX.out] at this; omega, rfl⟩⟩
      · by_cases hy0 : y < 0
        · go_wp2_with fail
          go_ret2
          exact ⟨HB.out, .inr ⟨fun hA => by have := hA (2 * k + 1) hlt1; rw [HA1.out, HY.out] at this; omega, rfl⟩⟩
        · have hor : bits .or .i64 (x * 16) y = 16 * x + y := i64_join x y (by omega) (by omega) (by omega) (by omega)
          go_wp2_with (at_builtin; refine wpList_append_own _ rfl _ _ 22 rfl w.heap.size 5 i0 (.int .u8 0) 1 1 Tryd.underlying22 hi hz0 hz1 hz2 rfl (by decide) _ _ _ rfl (HOWN.out.alloc _) ⟨wr.heap.size, 0, none⟩ 1 1 [.int .u8 (16 * x + y)] rfl rfl ?c1 ?c2 ?c3 ?c4 ?c5 ?_)
          case c1 => exact cell_one_new _ _ _
          case c2 => simp [Value.oneCell']
          case c3 => unfold maxLen; omega
          case c4 => omega
          case c5 => simp; omega
          intro v' w1 hown1 hgrow _
          have HOWN1 := Lib.hid hown1; clear hown1
          have HB1 := Lib.hid ((HB.out.alloc hbs _).grown hgrow (by simp; omega) (fun i e => (HOWN.out.lt i e).1)); clear hgrow
          clear hor
          go_wp2_with fail
          refine ⟨⟨k + 1, by omega, by go_num, ?_, HB1.out, ?_⟩, by simp [intOf]; omega⟩
          · have e0 : byteV (decB (hexVal (at' s.data.toList (2 * k))) (hexVal (at' s.data.toList (2 * k + 1)))) = .int .u8 (16 * x + y) := by
              rw [HA0.out, HA1.out, HX.out, HY.out]
              unfold byteV
              rw [decB_nat x y (by omega) (by omega) (by omega) (by omega)]
            rw [decL_succ, List.map_append, List.map_cons, List.map_nil, e0]
            exact HOWN1.out
          · intro j hj
            by_cases h1 : j < 2 * k
            · exact HALL.out j h1
            · by_cases h2 : j = 2 * k
              · rw [h2, HA0.out, HX.out]; omega
              · have h3 : j = 2 * k + 1 := by omega
                rw [h3, HA1.out, HY.out]; omega
    · have ek : k = s.size / 2 := by have := HEV.out; omega
      have hcv := run_convert_own (P := Tryd.prog) wr 22 9 5 _ Tryd.underlying22 Tryd.underlying5 Tryd.underlying9 HOWN.out
      have EK := Lib.hid ek; clear ek
      go_wp2_with fail
      go_ret2
      refine ⟨HB.out, .inl ⟨fun j hj => HALL.out j (by omega), ?_⟩⟩
      rw [← EK.out]
      rfl
end Go.Proofs.YtejjeihikmipdaaDoor
