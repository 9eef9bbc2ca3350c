/-
  What DrawFormatInt returns: an integer.
-/
import Derived.Test.YtejjeihikmipdaaDoorDraw
namespace Go.Proofs.YtejjeihikmipdaaDoor
open Go.RowKit
set_option linter.unusedVariables false
set_option linter.unusedSimpArgs false

def OneInt (w : World) (e : Ending) (w' : World) : Prop := ∃ n : Int, InI64 n ∧ e = .returned (.int .i64 n) ∧ Below w.heap.size w w'

theorem drawFormatInt_any {w : World} {a : Option Addr} {len cap : Nat} (h : BytesAt w.heap.size w a len) :
    Calls Tryd.prog 13 #[.slice a len cap] w (OneInt w) := by
  have HY := Lib.hid h; clear h
  go_enter Tryd.func13, Tryd.ntmps13
  go_wp2_with fail
  refine (l01New_any (Nat.le_refl _) HY.out).mono ?_
  rintro e w1 ⟨rfl, hb1, hz1, hc1⟩
  have HC1 := Lib.hid hc1; clear hc1
  have HB1 := Lib.hid hb1; clear hb1
  have HZ1 := Lib.hid hz1; clear hz1
  go_wp2_with fail
  refine (l01Once_any _ HC1.out).mono ?_
  rintro e w2 ⟨v, rfl, hc2, hs2⟩
  have HC2 := Lib.hid hc2; clear hc2
  have HB2 := Lib.hid (HB1.out.trans (hs2.below (Nat.le_refl _))); clear hs2
  cases v
  · go_wp2_with fail
    refine (l01Number_any HC2.out).mono ?_
    rintro e w3 ⟨x, hx, rfl, hc3, hs3⟩
    have HX := Lib.hid hx; clear hx
    have hsz := HB2.out.size
    have HB3 := Lib.hid (Goes.below HB2.out hs3 (Nat.le_refl _) hsz); clear hs3 hsz hc3
    go_wp2_with fail
    go_ret
    exact ⟨_, HX.out, rfl, HB3.out⟩
  · go_wp2_with fail
    refine (l01Below_any _ HC2.out).mono ?_
    rintro e w3 ⟨x, ⟨hx0, hx1, _⟩, rfl, hc3, hs3⟩
    have hx2 := hx1 (by omega)
    clear hx1
    have HC3 := Lib.hid hc3; clear hc3
    have HB3 := Lib.hid (HB2.out.trans (hs3.below (Nat.le_refl _))); clear hs3
    go_wp2_with fail
    refine (l01Below_any _ HC3.out).mono ?_
    rintro e w4 ⟨y, ⟨hy0, hy1, _⟩, rfl, hc4, hs4⟩
    have hy2 := hy1 (by omega)
    clear hy1
    have HB4 := Lib.hid (HB3.out.trans (hs4.below (Nat.le_refl _))); clear hs4 hc4
    go_wp2_with fail
    go_ret
    exact ⟨_, wrap64_wf _, rfl, HB4.out⟩
end Go.Proofs.YtejjeihikmipdaaDoor
