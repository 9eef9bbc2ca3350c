/-
  Slices of ints in memory that a call itself has made, by append.
-/
import Derived.Test.YtfppnaknnijobabWinP
import Derived.Test.YtfppnaknnijobabHeld
import Derived.Test.YtfppnaknnijobabBase
import Derived.Laws.OwnMore
import Derived.Laws.AppendOwn
import Derived.Maps.AppendAt
namespace Go.Proofs.Ytfppnaknnijobab
open Go.RowKit
set_option linter.unusedVariables false
set_option linter.unusedSimpArgs false

theorem infoInt : (Try.prog.info? 3).map (fun i => (i.zero, i.size, i.bytes)) = some (some (.int .i64 0), 1, 8) := by kernel_rfl

/-- The slice v reads as the ints xs; its memory is a block of its own from B on. -/
def Ints (w : World) (B : Nat) (v : Value) (xs : List Int) : Prop := w.ownsRow B 3 1 v xs.length (xs.map fun x => .int .i64 x)

theorem Ints.nil (w : World) (B : Nat) : Ints w B (.slice none 0 0) [] := World.ownsRow_nil w B _ 1
theorem Ints.made (w : World) (b B : Nat) (hb : b = w.heap.size) (hB : B ≤ b) : Ints (w.alloc (.cells #[] 3)) B (.slice (some ⟨b, 0, none⟩) 0 0) [] := by
  subst hb
  exact World.ownsRow_made _ _ _ hB (by unfold maxLen; omega) rfl
theorem Ints.own {w : World} {B : Nat} {v : Value} {xs : List Int} (h : Ints w B v xs) : ∀ k, v.ownBlock = some k → B ≤ k ∧ k < w.heap.size := World.ownsRow.lt h
theorem Ints.step {w w' : World} {B : Nat} {v : Value} {xs : List Int} (h : Ints w B v xs) (hb : Below w.heap.size w w') : Ints w' B v xs :=
  World.ownsRow.kept h (row := none) ⟨hb.os, hb.tape, hb.output, hb.size, fun k hk _ => hb.block k (by omega)⟩ (by cases v.ownBlock <;> simp)
theorem Ints.mono {w : World} {B b' : Nat} {v : Value} {xs : List Int} (h : Ints w B v xs) (hb : b' ≤ B) : Ints w b' v xs := by
  refine ⟨h.1, ?_⟩
  rcases h.2 with h0 | ⟨g, cap, cur, hv, hg, r⟩
  · exact .inl h0
  · exact .inr ⟨g, cap, cur, hv, Nat.le_trans hb hg, r⟩
theorem Ints.form {w : World} {B : Nat} {v : Value} {xs : List Int} (h : Ints w B v xs) :
    ∃ a cap, v = .slice a xs.length cap ∧ xs.length ≤ maxLen ∧ ∀ j (hj : j < xs.length), ∃ g, a = some ⟨g, 0, none⟩ ∧ B ≤ g ∧ g < w.heap.size ∧ w.cell? ⟨g, j, none⟩ = some (.int .i64 xs[j]) ∧ w.frozen? ⟨g, j, none⟩ = false := by
  have H := h
  unfold Ints at h
  rcases h.2 with ⟨rfl, h0⟩ | ⟨g, cap, cur, rfl, hb, hg, hnc, hcm, hcs, ht⟩
  · exact ⟨none, 0, by rw [h0], by rw [h0]; exact Nat.zero_le _, fun j hj => by omega⟩
  · refine ⟨some ⟨g, 0, none⟩, cap, rfl, Nat.le_trans hnc hcm, fun j hj => ⟨g, rfl, hb, lt_of_block hg, ?_, World.ownsRow.frozenAt H j⟩⟩
    rw [World.ownsRow.cellAt H j (by omega)]
    simp [hj]
theorem Ints.more {w' : World} {B : Nat} {v : Value} {xs : List Int} {x : Int} (h : w'.ownsRow B 3 1 v (xs.length + 1) (xs.map (fun x => Value.int .i64 x) ++ [.int .i64 x])) : Ints w' B v (xs ++ [x]) := by
  unfold Ints
  rw [List.length_append, List.map_append]
  exact h

/-- A block from B on turns: cells below B stay. -/
theorem Held.stepB {w W w1 : World} {B : Nat} {fs : List (Nat × Nat × Value)} (h : Held w W fs) (hs : Bs B fs) (hb : Below B W w1) (hB : w.heap.size ≤ B) : Held w w1 fs :=
  ⟨h.1.keep hs fun b o hlt => hb.cell (p := ⟨b, o, none⟩) hlt, h.2.1.mono hb.size, h.2.2.trans (hb.mono hB)⟩
theorem grown_below {B : Nat} {W W' : World} {v : Value} {xs : List Int} {o : Obj} (h : Ints W B v xs) (hB : B ≤ W.heap.size) (hg : (W.alloc o).grownBy W' v.ownBlock) : Below B W W' :=
  ((Below.refl B W).alloc hB o).grown hg (by simp; omega) fun k e => (h.own k e).1

/-- The places before n of the leads that end at node k. -/
def atL (ls : List Nd) (k : Int) : Nat → List Int
  | 0 => []
  | n + 1 => if (atN ls n).x = k ∨ (atN ls n).y = k then atL ls k n ++ [(n : Int)] else atL ls k n
theorem atL_len (ls : List Nd) (k : Int) : ∀ n, (atL ls k n).length ≤ n
  | 0 => Nat.le_refl _
  | n + 1 => by
    have := atL_len ls k n
    unfold atL
    split
    · simp; omega
    · omega
def hasB (ns ls : List Nd) (k : Int) : Bool := winB ns ls && idxB ns.length k
def atsI (ns ls : List Nd) (k : Int) : List Int := if hasB ns ls k = true then atL ls k ls.length else []
/-- What is returned: the ints xs in new memory. -/
def IntsNew (xs : List Int) (w : World) (e : Ending) (w' : World) : Prop := ∃ v, e = .returned v ∧ Ints w' w.heap.size v xs ∧ Below w.heap.size w w'

theorem other_ge {ns ls : List Nd} {i : Nat} (hw : winB ns ls = true) (hi : i < ls.length) (k : Int) : 0 ≤ otherI (atN ls i) k ↔ ((atN ls i).x = k ∨ (atN ls i).y = k) := by
  obtain ⟨a, b, e, h⟩ := leadOkB_spec (((winB_iff ns ls).1 hw).2.2 i hi).1
  rw [e]
  unfold otherI
  simp only
  by_cases h1 : k = (a : Int)
  · rw [if_pos h1]; omega
  · rw [if_neg h1]
    by_cases h2 : k = (b : Int)
    · rw [if_pos h2]; omega
    · rw [if_neg h2]; omega
end Go.Proofs.Ytfppnaknnijobab
