/-
  Panes, of the program: border, areDifferent, paneTest.
-/
import Derived.Test.YtfckgidilbjokaaGreatGlsG
import Derived.Test.YtfckgidilbjokaaGreatG3
namespace Go.Proofs.YtfckgidilbjokaaGreat
open Go.RowKit
set_option linter.unusedVariables false
set_option linter.unusedSimpArgs false

/-- The nodes at which the darts begin. -/
def bordL (ls : List Nd) (r : List Int) (n : Nat) : List Int := (r.take n).map fun d => dF ls d.toNat
theorem bordL_succ {ls : List Nd} {r : List Int} {n q : Nat} (h : n < r.length) (hq : atZ r n = (q : Int)) : bordL ls r (n + 1) = bordL ls r n ++ [dF ls q] := by
  unfold bordL
  rw [List.take_succ_eq_append_getElem h, atZ_get h, hq]
  simp
theorem bordL_len (ls : List Nd) (r : List Int) (n : Nat) : (bordL ls r n).length ≤ n := by unfold bordL; rw [List.length_map, List.length_take]; omega
def bord (ls : List Nd) (r : List Int) : List Int := bordL ls r r.length
theorem bord_len (ls : List Nd) (r : List Int) : (bord ls r).length = r.length := by unfold bord bordL; simp
noncomputable def paneW (ns ls : List Nd) (f : Int) : List Int := if idxB (wF ns ls).length f = true then bord ls (atR (wF ns ls) f.toNat) else []
theorem paneW_len (ns ls : List Nd) (f : Int) : (paneW ns ls f).length ≤ 40 := by
  unfold paneW
  by_cases h : idxB (wF ns ls).length f = true
  · rw [if_pos h, bord_len]
    obtain ⟨k, rfl, hk⟩ := idx_nat h
    exact (row_len hk).1
  · rw [if_neg h]; simp

end Go.Proofs.YtfckgidilbjokaaGreat
