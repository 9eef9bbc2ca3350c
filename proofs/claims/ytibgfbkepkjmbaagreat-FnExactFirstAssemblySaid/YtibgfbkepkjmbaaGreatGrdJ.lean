/-
  GreedyColors, of the program.
-/
import Derived.Test.YtibgfbkepkjmbaaGreatBlk
import Derived.Test.YtibgfbkepkjmbaaGreatGrdS
import Derived.Test.YtibgfbkepkjmbaaGreatG12
namespace Go.Proofs.YtibgfbkepkjmbaaGreat
open Go.RowKit
set_option linter.unusedVariables false
set_option linter.unusedSimpArgs false

theorem grdW_g (ns ls : List Nd) : grdW ns ls = grdL (besM (gA ns ls) (gL ns ls).length) (wF ns ls).length := by
  by_cases hh : wholeB ns ls = true
  · unfold grdW gA gL
    rw [if_pos hh, if_pos hh, if_pos hh]
  · unfold grdW wF
    rw [if_neg hh, if_neg hh]
    rfl

theorem grdW_le (ns ls : List Nd) : (grdW ns ls).length ≤ 20 := by
  rw [grdW_g, grdL_len]
  have := wF_thirteen ns ls
  omega

theorem besR (ds : List Int) (q n : Nat) : (fun k : Nat => fltN (fun h : Nat => decide ((k : Int) ≠ (h : Int)) && decide (0 < (fltN (sharedP ds k h) q).length)) n) = rowM (besM ds q) n := by
  funext k
  unfold rowM
  exact fltN_congr n fun h _ => (besM_sub ds k h q).symm

theorem Held.setN {w W : World} {fs : List (Nat × Nat × Value)} {g o : Nat} {x : Value} (h : Held w W fs) (hn : Nblk g fs) (hg : w.heap.size ≤ g) : Held w (W.setCell ⟨g, o, none⟩ x) fs :=
  ⟨h.1.setFar hn, by rw [heap_setCell_size]; exact h.2.1, below_setCell h.2.2 hg⟩

theorem Cls.setC {W : World} {B g c k n : Nat} {vb : Value} {us : List Value} {rs : List (List Int)} {xs : List Int} (h : Cls W B vb (.slice (some ⟨g, 0, none⟩) n c) us rs xs) (hn : n = xs.length) (z : Int) : Cls (W.setCell ⟨g, k, none⟩ (.int .i64 z)) B vb (.slice (some ⟨g, 0, none⟩) n c) us rs (xs.set k z) := by
  refine ⟨h.rows.heap_ fun j _ _ e => Below.heap_setCell _ _ _ _ ?_, h.cols.set_ hn k z, h.apart⟩
  show j ≠ g
  rintro rfl
  rcases e with e | ⟨i, hi, e⟩
  · exact h.rows.row.far h.cols (k := j) rfl e
  · exact h.apart i hi j e rfl

end Go.Proofs.YtibgfbkepkjmbaaGreat
