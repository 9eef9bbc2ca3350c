/-
  Trees of leads, of the model: groups by their numbers.
-/
import Derived.Test.YtibgfbkepkjmbaaGreatG22
import Derived.Test.YtibgfbkepkjmbaaGreatWhole
import Derived.Test.YtibgfbkepkjmbaaGreatG1
import Derived.Test.YtibgfbkepkjmbaaGreatG2
import Derived.Test.YtibgfbkepkjmbaaGreatGlsP
namespace Go.Proofs.YtibgfbkepkjmbaaGreat
open Go.RowKit
set_option linter.unusedVariables false
set_option linter.unusedSimpArgs false

theorem Turn.put1 {g k : Nat} (W : World) (x : Value) : Turn g (g + 1) W (W.setCell ⟨g, k, none⟩ x) :=
  ⟨rfl, rfl, rfl, by rw [heap_setCell_size]; exact Nat.le_refl _, fun i hi h => Below.heap_setCell _ _ _ _ (by show i ≠ g; omega)⟩

/-- The ends of the leads of a list. -/
def endP (ls : List Nd) (f : Nat → Nat) (k : Nat) : Nat × Nat := ((atN ls (f k)).x.toNat, (atN ls (f k)).y.toNat)

def lstF (xs : List Int) (k : Nat) : Nat := (atZ xs k).toNat

/-- Is the list a tree of leads that joins all nodes? -/
noncomputable def spanB (ns ls : List Nd) (xs : List Int) : Bool := wholeB ns ls && (lstB ls.length xs && (decide ((xs.length : Int) = (ns.length : Int) - 1) && allB (endP ls (lstF xs)) ns.length xs.length))

theorem lead_nat {ns ls : List Nd} (hw : winB ns ls = true) {m : Nat} (hm : m < ls.length) : ∃ i j : Nat, atN ls m = ⟨i, j⟩ ∧ i < ns.length ∧ j < ns.length := by
  obtain ⟨i, j, e, _, h1, h2, h3, h4⟩ := leadOkB_spec (((winB_iff ns ls).1 hw).2.2 m hm).1
  exact ⟨i, j, e, h1, h2⟩

theorem endP_is {ls : List Nd} {f : Nat → Nat} {k i j : Nat} (h : atN ls (f k) = ⟨i, j⟩) : endP ls f k = (i, j) := by
  unfold endP
  rw [h]
  simp

theorem endP_lt {ns ls : List Nd} (hw : winB ns ls = true) {f : Nat → Nat} {k : Nat} (h : f k < ls.length) : (endP ls f k).1 < ns.length ∧ (endP ls f k).2 < ns.length := by
  obtain ⟨i, j, e, h1, h2⟩ := lead_nat hw h
  rw [endP_is e]
  exact ⟨h1, h2⟩

end Go.Proofs.YtibgfbkepkjmbaaGreat
