/-
  Slices of strings that a call owns; the texts by which the laws mark what was returned.
-/
import Derived.Test.YtejjeihikmipdaaDoorFmtP
import Derived.Laws.OwnMore
namespace Go.Proofs.YtejjeihikmipdaaDoor
open Go.RowKit
set_option linter.unusedVariables false
set_option linter.unusedSimpArgs false

/-- The k-th mark. -/
def mkT (k : Nat) : ByteArray := ⟨(109 :: digs k).toArray⟩
def marks (k n : Nat) : List ByteArray := (List.range n).map fun i => mkT (k + i)

/-- A slice value of n strings (type number e) that lies in a block from 'base' on. -/
def Strs (e base : Nat) (w : World) (v : Value) (fs : List ByteArray) : Prop := w.ownsRow base e 1 v fs.length (fs.map Value.string)

theorem Strs.form {e base : Nat} {w : World} {v : Value} {fs : List ByteArray} (h : Strs e base w v fs) :
    (v = .slice none 0 0 ∧ fs = []) ∨ ∃ g cap, v = .slice (some ⟨g, 0, none⟩) fs.length cap ∧ base ≤ g ∧ g < w.heap.size ∧ (∀ j (hj : j < fs.length), w.cell? ⟨g, j, none⟩ = some (.string fs[j])) ∧ (∀ j, w.frozen? ⟨g, j, none⟩ = false) := by
  unfold Strs at h
  rcases h.2 with ⟨rfl, h0⟩ | ⟨g, cap, cur, rfl, hb, hg, hnc, hcm, hcs, ht⟩
  · exact .inl ⟨rfl, List.eq_nil_of_length_eq_zero h0⟩
  · refine .inr ⟨g, cap, rfl, hb, lt_of_block hg, fun j hj => ?_, fun j => World.ownsRow.frozenAt h j⟩
    rw [World.ownsRow.cellAt h j (by omega)]
    simp [hj]

theorem Strs.form' {e base : Nat} {w : World} {v : Value} {fs : List ByteArray} (h : Strs e base w v fs) :
    ∃ a cap, v = .slice a fs.length cap ∧ ∀ j (hj : j < fs.length), ∃ g, a = some ⟨g, 0, none⟩ ∧ base ≤ g ∧ g < w.heap.size ∧ w.cell? ⟨g, j, none⟩ = some (.string fs[j]) ∧ w.frozen? ⟨g, j, none⟩ = false := by
  rcases h.form with ⟨rfl, rfl⟩ | ⟨g, cap, rfl, hb, hl, hc, hf⟩
  · exact ⟨none, 0, rfl, fun j hj => by simp at hj⟩
  · exact ⟨some ⟨g, 0, none⟩, cap, rfl, fun j hj => ⟨g, rfl, hb, hl, hc j hj, hf j⟩⟩

theorem marks_length (k n : Nat) : (marks k n).length = n := by simp [marks]
theorem marks_set (k0 k : Nat) (fs : List ByteArray) (h : k < fs.length) : (marks k0 k ++ fs.drop k).set k (mkT (k0 + k)) = marks k0 (k + 1) ++ fs.drop (k + 1) := by
  rw [List.set_append_right _ _ (by rw [marks_length]; exact Nat.le_refl _), marks_length, Nat.sub_self, List.drop_eq_getElem_cons h, List.set_cons_zero]
  simp [marks, List.range_succ]
theorem marks_get (k0 n j : Nat) (h : j < n) : (marks k0 n)[j]'(by rw [marks_length]; exact h) = mkT (k0 + j) := by simp [marks]

theorem Strs.len {e base : Nat} {w : World} {v : Value} {fs : List ByteArray} (h : Strs e base w v fs) : fs.length ≤ maxLen := by
  unfold Strs at h
  rcases h.2 with ⟨rfl, h0⟩ | ⟨g, cap, cur, rfl, hb, hg, hnc, hcm, hcs, ht⟩
  · rw [h0]; exact Nat.zero_le _
  · exact Nat.le_trans hnc hcm

theorem Strs.kept {e base : Nat} {w w' : World} {v : Value} {fs : List ByteArray} (h : Strs e base w v fs) {row : Option Nat} (hg : w.grownBy w' row) (hne : v.ownBlock = none ∨ v.ownBlock ≠ row) : Strs e base w' v fs :=
  World.ownsRow.kept h hg hne
theorem Strs.below {e base B : Nat} {w w' : World} {v : Value} {fs : List ByteArray} (h : Strs e base w v fs) (hb : Below B w w') (hB : w.heap.size ≤ B) : Strs e base w' v fs :=
  World.ownsRow.kept h (row := none) ⟨hb.os, hb.tape, hb.output, hb.size, fun k hk _ => hb.block k (by omega)⟩ (by cases v.ownBlock <;> simp)
theorem Strs.mono {e base b' : Nat} {w : World} {v : Value} {fs : List ByteArray} (h : Strs e base w v fs) (hb : b' ≤ base) : Strs e b' w v fs := by
  refine ⟨h.1, ?_⟩
  rcases h.2 with h0 | ⟨g, cap, cur, hv, hg, r⟩
  · exact .inl h0
  · exact .inr ⟨g, cap, cur, hv, Nat.le_trans hb hg, r⟩
theorem Strs.nil (e base : Nat) (w : World) : Strs e base w (.slice none 0 0) [] := World.ownsRow_nil w base e 1

theorem Strs.own {e base : Nat} {w : World} {v : Value} {fs : List ByteArray} (h : Strs e base w v fs) : ∀ k, v.ownBlock = some k → base ≤ k ∧ k < w.heap.size := World.ownsRow.lt h
theorem Strs.drewN {e base : Nat} {w : World} {v : Value} {fs : List ByteArray} (h : Strs e base w v fs) (n : Nat) : Strs e base (w.drewN n) v fs := h
/-- A slice that lay below another's base stays as the other is written. -/
theorem Strs.apart {e b1 b2 : Nat} {w w' : World} {v1 v2 : Value} {f1 f2 : List ByteArray} {H : Nat} (h1 : Strs e b1 w v1 f1) (h2 : Strs e b2 w v2 f2) (hg : w.grownBy w' v2.ownBlock) (hlt : ∀ k, v1.ownBlock = some k → k < H) (hb : H ≤ b2) : Strs e b1 w' v1 f1 := by
  refine h1.kept hg ?_
  cases hv : v1.ownBlock with
  | none => exact .inl rfl
  | some k =>
    refine .inr fun e2 => ?_
    have a := hlt k hv
    have b := (h2.own k e2.symm).1
    omega

/-- Behind a call that only makes blocks, in a world that has been drawn from. -/
theorem below_step {B : Nat} {w wr w1 : World} {p : Addr} {x : Value} (hb : Below B w wr) (hB : B ≤ wr.heap.size) (h1 : Below wr.drew.heap.size wr.drew w1) (hp : p.block < wr.heap.size) (hc : wr.cell? p = some x) :
    Below B w w1 ∧ w1.cell? p = some x :=
  ⟨(hb.drew).trans (h1.mono hB), (h1.cell hp).trans hc⟩
end Go.Proofs.YtejjeihikmipdaaDoor
