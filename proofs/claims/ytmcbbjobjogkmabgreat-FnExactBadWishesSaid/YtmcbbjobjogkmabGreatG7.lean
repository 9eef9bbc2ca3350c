/-
  Several texts in one: a claim has at most 60 files.
-/
import Derived.Test.YtmcbbjobjogkmabGreatGlsG
import Derived.Test.YtmcbbjobjogkmabGreatG3
import Derived.Test.YtmcbbjobjogkmabGreatG12

namespace Go.Proofs.YtmcbbjobjogkmabGreat
open Go.RowKit
set_option linter.unusedVariables false
set_option linter.unusedSimpArgs false

/-- The nodes at which the darts begin. -/
def bordL (ls : List Nd) (r : List Int) (n : Nat) : List Int := (r.take n).map fun d => dF ls d.toNat

theorem bordL_succ {ls : List Nd} {r : List Int} {n q : Nat} (h : n < r.length) (hq : atZ r n = (q : Int)) : bordL ls r (n + 1) = bordL ls r n ++ [dF ls q] := by
  unfold bordL
  rw [List.take_succ_eq_append_getElem h, atZ_get h, hq]
  simp

theorem bordL_len (ls : List Nd) (r : List Int) (n : Nat) : (bordL ls r n).length ≤ n := by unfold bordL; rw [List.length_map, List.length_take]; omega

def bord (ls : List Nd) (r : List Int) : List Int := bordL ls r r.length

theorem bord_len (ls : List Nd) (r : List Int) : (bord ls r).length = r.length := by unfold bord bordL; simp

noncomputable def paneW (ns ls : List Nd) (f : Int) : List Int := if idxB (wF ns ls).length f = true then bord ls (atR (wF ns ls) f.toNat) else []

theorem paneW_len (ns ls : List Nd) (f : Int) : (paneW ns ls f).length ≤ 40 := by
  unfold paneW
  by_cases h : idxB (wF ns ls).length f = true
  · rw [if_pos h, bord_len]
    obtain ⟨k, rfl, hk⟩ := idx_nat h
    exact (row_len hk).1
  · rw [if_neg h]; simp

/-- Are they pairwise different? -/
def diffB (xs : List Int) : Bool := decide xs.Nodup

theorem diff_take {xs : List Int} {m : Nat} (h : m < xs.length) : (xs.take (m + 1)).Nodup ↔ (xs.take m).Nodup ∧ ¬ (xs.take m).contains (atZ xs m) = true := by
  rw [List.take_succ_eq_append_getElem h, atZ_get h, List.nodup_append]
  simp only [List.nodup_cons, List.not_mem_nil, not_false_iff, List.nodup_nil, and_true, true_and, List.mem_singleton, List.contains_iff_mem]
  constructor
  · rintro ⟨h1, h2⟩
    exact ⟨h1, fun hm => h2 _ hm _ rfl rfl⟩
  · rintro ⟨h1, h2⟩
    exact ⟨h1, fun a ha b hb e => h2 (by rw [← hb, ← e]; exact ha)⟩

theorem diff_no {xs : List Int} {m : Nat} (h : ¬ (xs.take m).Nodup) : diffB xs = false := decide_eq_false fun hn => h (hn.sublist (List.take_sublist _ _))

end Go.Proofs.YtmcbbjobjogkmabGreat

namespace Go.Proofs.YtmcbbjobjogkmabGreat
open Go.RowKit
set_option linter.unusedVariables false
set_option linter.unusedSimpArgs false

/-- Is f a pane, where o is the wall around? -/
def testB (ls : List Nd) (rs : List (List Int)) (o f : Int) : Bool := idxB rs.length f && (decide (f ≠ o) && diffB (bord ls (atR rs f.toNat)))

/-- The cells of the test: the wall around, the glass. -/
def tstFs (b1 b2 : Nat) (o : Int) (v1 v2 v3 v4 : Value) : List (Nat × Nat × Value) := [(b2, 0, .int .i64 o), (b1, 0, v1), (b1, 1, v2), (b1, 2, v3), (b1, 3, v4)]

noncomputable def paneB (ns ls : List Nd) (f : Int) : Bool := testB ls (wF ns ls) (outW ns ls) f

noncomputable def panesW (ns ls : List Nd) : List Int := fltN (fun k => paneB ns ls k) (wF ns ls).length

theorem panesW_len (ns ls : List Nd) : (panesW ns ls).length ≤ 40 := by
  have := fltN_len (fun k => paneB ns ls k) (wF ns ls).length
  have := wF_len (ns := ns) (ls := ls)
  unfold panesW
  omega

theorem g_bord {ns ls : List Nd} {k : Nat} (h : k < (wF ns ls).length) (r : List Int) : bord (gL ns ls) r = bord ls r := by
  unfold gL
  rw [if_pos (wF_row h).1]

theorem g_test (ns ls : List Nd) (f : Int) : testB (gL ns ls) (wF ns ls) (outW ns ls) f = paneB ns ls f := by
  unfold paneB testB
  by_cases h : idxB (wF ns ls).length f = true
  · obtain ⟨k, rfl, hk⟩ := idx_nat h
    rw [g_bord hk]
  · rw [show idxB (wF ns ls).length f = false by simpa using h]
    rfl

end Go.Proofs.YtmcbbjobjogkmabGreat

namespace Go.Proofs.YtmcbbjobjogkmabGreat
open Go.RowKit
set_option linter.unusedVariables false
set_option linter.unusedSimpArgs false

theorem paneB_is (ns ls : List Nd) (f : Int) : paneB ns ls f = (decide (0 < (paneW ns ls f).length) && (decide (f ≠ outW ns ls) && diffB (paneW ns ls f))) := by
  unfold paneB testB paneW
  by_cases h : idxB (wF ns ls).length f = true
  · rw [if_pos h, h]
    obtain ⟨k, rfl, hk⟩ := idx_nat h
    rw [bord_len, show decide (0 < (atR (wF ns ls) (k : Int).toNat).length) = true from decide_eq_true (row_len hk).2]
  · rw [if_neg h, show idxB (wF ns ls).length f = false by simpa using h]
    rfl

end Go.Proofs.YtmcbbjobjogkmabGreat
