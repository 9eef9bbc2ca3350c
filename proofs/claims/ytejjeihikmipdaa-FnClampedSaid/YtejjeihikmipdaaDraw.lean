/-
  Draws that make memory: l01PickInt, l01Number, DrawClamp.
-/
import Derived.Test.YtejjeihikmipdaaCur
import Derived.Deep.DeepFit
namespace Go.Proofs.Ytejjeihikmipdaa
set_option linter.unusedVariables false
set_option linter.unusedSimpArgs false
open Go.RowKit

/-- A draw returns an integer of which P holds; the cursor at b goes on; of what lay there nothing else has turned. -/
def DrawnG (T B b : Nat) (P : Int → Prop) (w : World) (e : Ending) (w' : World) : Prop :=
  ∃ n : Int, P n ∧ e = .returned (.int .i64 n) ∧ Cur T B w' b ∧ Goes b w w'

theorem l01PickInt_any {B b g : Nat} {w : World} {len cap : Nat} {cs : Array Value} (f : Nat → Int) (h : Cur 48 B w b) (hg : w.heap[g]? = some (.cells cs 3 (0, 0))) (hne : g ≠ b) (hl : 0 < len) (hmax : len ≤ maxLen)
    (hf : ∀ j, j < len → cs[j]? = some (.int .i64 (f j))) :
    Calls Try.prog 30 #[.pointer (some ⟨b, 0, none⟩), .slice (some ⟨g, 0, none⟩) len cap] w (Drawn 48 B b (fun n => ∃ j, j < len ∧ n = f j) w) := by
  unfold maxLen at hmax
  have HC := Lib.hid h; clear h
  have HF := Lib.hid hf; clear hf
  have HG := Lib.hid hg; clear hg
  go_enter Try.func30, Try.ntmps30
  go_wp2_with fail
  refine (l01Below_any _ HC.out).mono ?_
  rintro e w1 ⟨x, ⟨hx0, hx1, _⟩, rfl, hc1, hs1⟩
  have hx2 := hx1 (by omega)
  clear hx1
  obtain ⟨j, rfl⟩ := Int.eq_ofNat_of_zero_le hx0
  have hcell : w1.cell? ⟨g, j, none⟩ = some (.int .i64 (f j)) := by
    rw [cell_of_cells ((hs1.block g hne).trans HG.out)]; exact HF.out j (by omega)
  have HC1 := Lib.hid hc1; clear hc1
  have HS1 := Lib.hid hs1; clear hs1
  go_wp2_with fail
  go_ret
  exact ⟨_, ⟨j, by omega, rfl⟩, rfl, HC1.out, HS1.out⟩

def numList : List Int := [-1, 0, 127, 128, 16383, 16384, 1000000000, 1000000001, 9223372036854775807, -9223372036854775808]
theorem numList_wf : ∀ j, j < 10 → InI64 (numList.getD j 0) := by
  show ∀ j, j < 10 → (Lit.int .i64 (numList.getD j 0)).wf = true
  decide

theorem l01Number_any {B b : Nat} {w : World} (h : Cur 48 B w b) :
    Calls Try.prog 23 #[.pointer (some ⟨b, 0, none⟩)] w (DrawnG 48 B b InI64 w) := by
  have HC := Lib.hid h; clear h
  go_enter Try.func23, Try.ntmps23
  go_wp2_with fail
  refine (l01Below_any _ HC.out).mono ?_
  rintro e w1 ⟨x, ⟨hx0, hx1, _⟩, rfl, hc1, hs1⟩
  have hx2 := hx1 (by omega)
  clear hx1
  have HC1 := Lib.hid hc1; clear hc1
  have HS1 := Lib.hid hs1; clear hs1
  by_cases h0 : x = 0
  · subst h0
    go_wp2_with fail
    refine (l01PickInt_any (fun j => numList.getD j 0) (HC1.out.alloc _) (heap_alloc_new _ _) (by have := HC1.out.lt; omega) (by omega) (by unfold maxLen; omega) ?_).mono ?_
    · intro j hj
      match j, hj with
      | 0, _ => rfl
      | 1, _ => rfl
      | 2, _ => rfl
      | 3, _ => rfl
      | 4, _ => rfl
      | 5, _ => rfl
      | 6, _ => rfl
      | 7, _ => rfl
      | 8, _ => rfl
      | 9, _ => rfl
    rintro e w2 ⟨y, ⟨j, hj, rfl⟩, rfl, hc2, hs2⟩
    have hw := numList_wf j hj
    generalize numList.getD j 0 = y at *
    have HC2 := Lib.hid hc2; clear hc2
    have HS2 := Lib.hid hs2; clear hs2
    go_wp2_with fail
    go_ret
    exact ⟨_, hw, rfl, HC2.out, (((Goes.refl _ _).steps HS1.out).alloc _).steps HS2.out⟩
  · by_cases h1 : x = 1
    · subst h1
      go_wp2_with fail
      refine (l01Below_any _ HC1.out).mono ?_
      rintro e w2 ⟨y, ⟨hy0, hy1, _⟩, rfl, hc2, hs2⟩
      have hy2 := hy1 (by omega)
      clear hy1
      have HC2 := Lib.hid hc2; clear hc2
      have HS2 := Lib.hid hs2; clear hs2
      go_wp2_with fail
      go_ret
      exact ⟨_, inI64_of (by omega) (by omega), rfl, HC2.out, ((Goes.refl _ _).steps HS1.out).steps HS2.out⟩
    · go_wp2_with fail
      refine (l01Below_any _ HC1.out).mono ?_
      rintro e w2 ⟨y, ⟨hy0, hy1, _⟩, rfl, hc2, hs2⟩
      have hy2 := hy1 (by omega)
      clear hy1
      have HC2 := Lib.hid hc2; clear hc2
      have HS2 := Lib.hid hs2; clear hs2
      go_wp2_with fail
      go_ret
      exact ⟨_, inI64_of (by omega) (by omega), rfl, HC2.out, ((Goes.refl _ _).steps HS1.out).steps HS2.out⟩

/-- Three integers. -/
def Three (B : Nat) (w : World) (e : Ending) (w' : World) : Prop :=
  ∃ n a b : Int, InI64 n ∧ InI64 a ∧ InI64 b ∧ e = .returned (.tuple #[.int .i64 n, .int .i64 a, .int .i64 b]) ∧ Below B w w'

theorem drawClamp_any {w : World} {a : Option Addr} {len cap : Nat} (h : BytesAt w.heap.size w a len) :
    Calls Try.prog 9 #[.slice a len cap] w (Three w.heap.size w) := by
  have HY := Lib.hid h; clear h
  go_enter Try.func9, Try.ntmps9
  go_wp2_with fail
  refine (l01New_any (Nat.le_refl _) HY.out).mono ?_
  rintro e w1 ⟨rfl, hb1, hz1, hc1⟩
  have HC1 := Lib.hid hc1; clear hc1
  have HB1 := Lib.hid hb1; clear hb1
  have HZ1 := Lib.hid hz1; clear hz1
  go_wp2_with fail
  refine (l01Once_any _ HC1.out).mono ?_
  rintro e w2 ⟨v, rfl, hc2, hs2⟩
  have HC2 := Lib.hid hc2; clear hc2
  have HB2 := Lib.hid (HB1.out.trans (hs2.below (Nat.le_refl _))); clear hs2
  cases v
  · go_wp2_with fail
    refine (l01Below_any _ HC2.out).mono ?_
    rintro e w3 ⟨x, ⟨hx0, hx1, _⟩, rfl, hc3, hs3⟩
    have hx2 := hx1 (by omega)
    clear hx1
    have HC3 := Lib.hid hc3; clear hc3
    have HB3 := Lib.hid (HB2.out.trans (hs3.below (Nat.le_refl _))); clear hs3
    go_wp2_with fail
    refine (l01Below_any _ HC3.out).mono ?_
    rintro e w4 ⟨y, ⟨hy0, hy1, _⟩, rfl, hc4, hs4⟩
    have hy2 := hy1 (by omega)
    clear hy1
    have HC4 := Lib.hid hc4; clear hc4
    have HB4 := Lib.hid (HB3.out.trans (hs4.below (Nat.le_refl _))); clear hs4
    go_wp2_with fail
    refine (l01Below_any _ HC4.out).mono ?_
    rintro e w5 ⟨z, ⟨hz0, hz1, _⟩, rfl, hc5, hs5⟩
    have hz2 := hz1 (by omega)
    clear hz1
    have HB5 := Lib.hid (HB4.out.trans (hs5.below (Nat.le_refl _))); clear hs5 hc5
    go_wp2_with fail
    go_ret3
    exact ⟨_, _, _, inI64_of (by omega) (by omega), inI64_of (by omega) (by omega), inI64_of (by omega) (by omega), rfl, HB5.out⟩
  · go_wp2_with fail
    refine (l01Number_any HC2.out).mono ?_
    rintro e w3 ⟨x, hx, rfl, hc3, hs3⟩
    have HC3 := Lib.hid hc3; clear hc3
    have HX := Lib.hid hx; clear hx
    have hsz := HB2.out.size
    have HB3 := Lib.hid (Goes.below HB2.out hs3 (Nat.le_refl _) hsz); clear hs3 hsz
    go_wp2_with fail
    refine (l01Number_any HC3.out).mono ?_
    rintro e w4 ⟨y, hy, rfl, hc4, hs4⟩
    have HC4 := Lib.hid hc4; clear hc4
    have HY1 := Lib.hid hy; clear hy
    have hsz := HB3.out.size
    have HB4 := Lib.hid (Goes.below HB3.out hs4 (Nat.le_refl _) hsz); clear hs4 hsz
    go_wp2_with fail
    refine (l01Number_any HC4.out).mono ?_
    rintro e w5 ⟨z, hz, rfl, hc5, hs5⟩
    have HZ := Lib.hid hz; clear hz
    have hsz := HB4.out.size
    have HB5 := Lib.hid (Goes.below HB4.out hs5 (Nat.le_refl _) hsz); clear hs5 hsz hc5
    go_wp2_with fail
    go_ret3
    exact ⟨_, _, _, HX.out, HY1.out, HZ.out, rfl, HB5.out⟩
end Go.Proofs.Ytejjeihikmipdaa
