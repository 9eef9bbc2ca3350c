/-
  What DrawEncodeHex returns: a text of at most 20001 bytes.
-/
import Derived.Test.YtejjeihikmipdaaDoorText
namespace Go.Proofs.YtejjeihikmipdaaDoor
open Go.RowKit
set_option linter.unusedVariables false
set_option linter.unusedSimpArgs false

def OneText (m : Nat) (w : World) (e : Ending) (w' : World) : Prop := ∃ s : ByteArray, s.size ≤ m ∧ e = .returned (.string s) ∧ Below w.heap.size w w'

theorem drawEncodeHex_any {w : World} {a : Option Addr} {len cap : Nat} (h : BytesAt w.heap.size w a len) :
    Calls Tryd.prog 9 #[.slice a len cap] w (OneText 20001 w) := by
  have HY := Lib.hid h; clear h
  go_enter Tryd.func9, Tryd.ntmps9
  go_wp2_with fail
  refine (l01New_any (Nat.le_refl _) HY.out).mono ?_
  rintro e w1 ⟨rfl, hb1, hz1, hc1⟩
  have HC1 := Lib.hid hc1; clear hc1
  have HB1 := Lib.hid hb1; clear hb1
  have HZ1 := Lib.hid hz1; clear hz1
  go_wp2_with fail
  refine (l01Once_any _ HC1.out).mono ?_
  rintro e w2 ⟨v, rfl, hc2, hs2⟩
  have HC2 := Lib.hid hc2; clear hc2
  have HB2 := Lib.hid (HB1.out.trans (hs2.below (Nat.le_refl _))); clear hs2
  cases v
  · go_wp2_with fail
    refine (l01Below_any _ HC2.out).mono ?_
    rintro e w3 ⟨x, ⟨hx0, hx1, _⟩, rfl, hc3, hs3⟩
    have hx2 := hx1 (by omega)
    clear hx1
    have HC3 := Lib.hid hc3; clear hc3
    have HB3 := Lib.hid (HB2.out.trans (hs3.below (Nat.le_refl _))); clear hs3
    obtain ⟨n, rfl⟩ := Int.eq_ofNat_of_zero_le hx0
    go_wp2_with fail
    refine (l01Text_any n (by omega) HC3.out).mono ?_
    rintro e w4 ⟨s, hs, rfl, hc4, hg4⟩
    have hsz := HB3.out.size
    have HB4 := Lib.hid (Goes.below HB3.out hg4 (Nat.le_refl _) hsz); clear hg4 hsz hc4
    go_wp2_with fail
    go_ret
    exact ⟨s, by omega, rfl, HB4.out⟩
  · go_wp2_with fail
    refine (l01Below_any _ HC2.out).mono ?_
    rintro e w3 ⟨x, ⟨hx0, hx1, _⟩, rfl, hc3, hs3⟩
    have hx2 := hx1 (by omega)
    clear hx1
    have HB3 := Lib.hid (HB2.out.trans (hs3.below (Nat.le_refl _))); clear hs3 hc3
    obtain ⟨n, rfl⟩ := Int.eq_ofNat_of_zero_le hx0
    have ex : (20000 : Int) + (n : Int) = ((20000 + n : Nat) : Int) := by omega
    have EX := Lib.hid ex; clear ex
    go_wp2_with fail
    rw [EX.out]
    refine (l01Long_any (20000 + n) 200 _ (by omega)).mono ?_
    rintro e w4 ⟨s, hs, rfl, hb4⟩
    have hsz := HB3.out.size
    have HB4 := Lib.hid (HB3.out.trans (hb4.mono hsz)); clear hb4 hsz
    have HS := Lib.hid hs; clear hs
    go_wp2_with fail
    go_ret
    exact ⟨s, by rw [HS.out]; omega, rfl, HB4.out⟩
end Go.Proofs.YtejjeihikmipdaaDoor
