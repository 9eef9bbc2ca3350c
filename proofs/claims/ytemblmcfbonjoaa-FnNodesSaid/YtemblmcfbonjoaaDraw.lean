/-
  Draws that make memory: l01PickInt, l01Number.
-/
import Derived.Test.YtemblmcfbonjoaaCur
import Derived.Deep.DeepFit
namespace Go.Proofs.Ytemblmcfbonjoaa
set_option linter.unusedVariables false
set_option linter.unusedSimpArgs false
open Go.RowKit

/-- A draw returns an integer of which P holds; the cursor at b goes on; of what lay there nothing else has turned. -/
def DrawnG (T B b : Nat) (P : Int → Prop) (w : World) (e : Ending) (w' : World) : Prop :=
  ∃ n : Int, P n ∧ e = .returned (.int .i64 n) ∧ Cur T B w' b ∧ Goes b w w'

theorem l01PickInt_any {B b g : Nat} {w : World} {len cap : Nat} {cs : Array Value} (f : Nat → Int) (h : Cur 99 B w b) (hg : w.heap[g]? = some (.cells cs 3 (0, 0))) (hne : g ≠ b) (hl : 0 < len) (hmax : len ≤ maxLen)
    (hf : ∀ j, j < len → cs[j]? = some (.int .i64 (f j))) :
    Calls Try.prog 88 #[.pointer (some ⟨b, 0, none⟩), .slice (some ⟨g, 0, none⟩) len cap] w (Drawn 99 B b (fun n => ∃ j, j < len ∧ n = f j) w) := by
  unfold maxLen at hmax
  have HC := Lib.hid h; clear h
  have HF := Lib.hid hf; clear hf
  have HG := Lib.hid hg; clear hg
  go_enter Try.func88, Try.ntmps88
  go_wp2_with fail
  refine (l01Below_any _ HC.out).mono ?_
  rintro e w1 ⟨x, ⟨hx0, hx1, _⟩, rfl, hc1, hs1⟩
  have hx2 := hx1 (by omega)
  clear hx1
  obtain ⟨j, rfl⟩ := Int.eq_ofNat_of_zero_le hx0
  have hcell : w1.cell? ⟨g, j, none⟩ = some (.int .i64 (f j)) := by
    rw [cell_of_cells ((hs1.block g hne).trans HG.out)]; exact HF.out j (by omega)
  have HC1 := Lib.hid hc1; clear hc1
  have HS1 := Lib.hid hs1; clear hs1
  go_wp2_with fail
  go_ret
  exact ⟨_, ⟨j, by omega, rfl⟩, rfl, HC1.out, HS1.out⟩
end Go.Proofs.Ytemblmcfbonjoaa
