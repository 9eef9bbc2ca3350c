/-
  Draws that make memory: l01PickInt, l01Number.
-/
import Derived.Test.YtejjeihikmipdaaDoorCur
import Derived.Deep.DeepFit
namespace Go.Proofs.YtejjeihikmipdaaDoor
set_option linter.unusedVariables false
set_option linter.unusedSimpArgs false
open Go.RowKit

/-- A draw returns an integer of which P holds; the cursor at b goes on; of what lay there nothing else has turned. -/
def DrawnG (T B b : Nat) (P : Int → Prop) (w : World) (e : Ending) (w' : World) : Prop :=
  ∃ n : Int, P n ∧ e = .returned (.int .i64 n) ∧ Cur T B w' b ∧ Goes b w w'

theorem l01PickInt_any {B b g : Nat} {w : World} {len cap : Nat} {cs : Array Value} (f : Nat → Int) (h : Cur 54 B w b) (hg : w.heap[g]? = some (.cells cs 3 (0, 0))) (hne : g ≠ b) (hl : 0 < len) (hmax : len ≤ maxLen)
    (hf : ∀ j, j < len → cs[j]? = some (.int .i64 (f j))) :
    Calls Tryd.prog 36 #[.pointer (some ⟨b, 0, none⟩), .slice (some ⟨g, 0, none⟩) len cap] w (Drawn 54 B b (fun n => ∃ j, j < len ∧ n = f j) w) := by
  unfold maxLen at hmax
  have HC := Lib.hid h; clear h
  have HF := Lib.hid hf; clear hf
  have HG := Lib.hid hg; clear hg
  go_enter Tryd.func36, Tryd.ntmps36
  go_wp2_with fail
  refine (l01Below_any _ HC.out).mono ?_
  rintro e w1 ⟨x, ⟨hx0, hx1, _⟩, rfl, hc1, hs1⟩
  have hx2 := hx1 (by omega)
  clear hx1
  obtain ⟨j, rfl⟩ := Int.eq_ofNat_of_zero_le hx0
  have hcell : w1.cell? ⟨g, j, none⟩ = some (.int .i64 (f j)) := by
    rw [cell_of_cells ((hs1.block g hne).trans HG.out)]; exact HF.out j (by omega)
  have HC1 := Lib.hid hc1; clear hc1
  have HS1 := Lib.hid hs1; clear hs1
  go_wp2_with fail
  go_ret
  exact ⟨_, ⟨j, by omega, rfl⟩, rfl, HC1.out, HS1.out⟩

def numList : List Int := [-1, 0, 127, 128, 16383, 16384, 1000000000, 1000000001, 9223372036854775807, -9223372036854775808]
theorem numList_wf : ∀ j, j < 10 → InI64 (numList.getD j 0) := by
  show ∀ j, j < 10 → (Lit.int .i64 (numList.getD j 0)).wf = true
  decide

theorem l01Number_any {B b : Nat} {w : World} (h : Cur 54 B w b) :
    Calls Tryd.prog 28 #[.pointer (some ⟨b, 0, none⟩)] w (DrawnG 54 B b InI64 w) := by
  have HC := Lib.hid h; clear h
  go_enter Tryd.func28, Tryd.ntmps28
  go_wp2_with fail
  refine (l01Below_any _ HC.out).mono ?_
  rintro e w1 ⟨x, ⟨hx0, hx1, _⟩, rfl, hc1, hs1⟩
  have hx2 := hx1 (by omega)
  clear hx1
  have HC1 := Lib.hid hc1; clear hc1
  have HS1 := Lib.hid hs1; clear hs1
  by_cases h0 : x = 0
  · subst h0
    go_wp2_with fail
    refine (l01PickInt_any (fun j => numList.getD j 0) (HC1.out.alloc _) (heap_alloc_new _ _) (by have := HC1.out.lt; omega) (by omega) (by unfold maxLen; omega) ?_).mono ?_
    · intro j hj
      match j, hj with
      | 0, _ => rfl
      | 1, _ => rfl
      | 2, _ => rfl
      | 3, _ => rfl
      | 4, _ => rfl
      | 5, _ => rfl
      | 6, _ => rfl
      | 7, _ => rfl
      | 8, _ => rfl
      | 9, _ => rfl
    rintro e w2 ⟨y, ⟨j, hj, rfl⟩, rfl, hc2, hs2⟩
    have hw := numList_wf j hj
    generalize numList.getD j 0 = y at *
    have HC2 := Lib.hid hc2; clear hc2
    have HS2 := Lib.hid hs2; clear hs2
    go_wp2_with fail
    go_ret
    exact ⟨_, hw, rfl, HC2.out, (((Goes.refl _ _).steps HS1.out).alloc _).steps HS2.out⟩
  · by_cases h1 : x = 1
    · subst h1
      go_wp2_with fail
      refine (l01Below_any _ HC1.out).mono ?_
      rintro e w2 ⟨y, ⟨hy0, hy1, _⟩, rfl, hc2, hs2⟩
      have hy2 := hy1 (by omega)
      clear hy1
      have HC2 := Lib.hid hc2; clear hc2
      have HS2 := Lib.hid hs2; clear hs2
      go_wp2_with fail
      go_ret
      exact ⟨_, inI64_of (by omega) (by omega), rfl, HC2.out, ((Goes.refl _ _).steps HS1.out).steps HS2.out⟩
    · go_wp2_with fail
      refine (l01Below_any _ HC1.out).mono ?_
      rintro e w2 ⟨y, ⟨hy0, hy1, _⟩, rfl, hc2, hs2⟩
      have hy2 := hy1 (by omega)
      clear hy1
      have HC2 := Lib.hid hc2; clear hc2
      have HS2 := Lib.hid hs2; clear hs2
      go_wp2_with fail
      go_ret
      exact ⟨_, inI64_of (by omega) (by omega), rfl, HC2.out, ((Goes.refl _ _).steps HS1.out).steps HS2.out⟩

end Go.Proofs.YtejjeihikmipdaaDoor
