/-
  Memory of which only a stretch of blocks has turned; markWindow.
-/
import Derived.Test.YtfppnaknnijobabMarkW
import Derived.Test.YtfppnaknnijobabLawI
namespace Go.Proofs.Ytfppnaknnijobab
open Go.RowKit
set_option linter.unusedVariables false
set_option linter.unusedSimpArgs false

/-- From w to w' only blocks from Lo on and before Hi have turned. -/
structure Turn (Lo Hi : Nat) (w w' : World) : Prop where
  os : w'.os = w.os
  tape : w'.tape = w.tape
  output : w'.output = w.output
  size : w.heap.size ≤ w'.heap.size
  block : ∀ i, i < w.heap.size → (i < Lo ∨ Hi ≤ i) → w'.heap[i]? = w.heap[i]?

theorem Turn.of_below {Lo Hi : Nat} {w w' : World} (h : Below w.heap.size w w') : Turn Lo Hi w w' := ⟨h.os, h.tape, h.output, h.size, fun i hi _ => h.block i hi⟩
theorem Turn.trans {Lo Hi : Nat} {w w1 w2 : World} (a : Turn Lo Hi w w1) (b : Turn Lo Hi w1 w2) : Turn Lo Hi w w2 :=
  ⟨b.os.trans a.os, b.tape.trans a.tape, b.output.trans a.output, Nat.le_trans a.size b.size, fun i hi h => (b.block i (Nat.lt_of_lt_of_le hi a.size) h).trans (a.block i hi h)⟩
theorem Turn.of_grown {Lo Hi : Nat} {w w' : World} {row : Option Nat} (h : w.grownBy w' row) (hr : ∀ g, row = some g → Lo ≤ g ∧ g < Hi) : Turn Lo Hi w w' :=
  ⟨h.os, h.tape, h.output, h.size, fun i hi ho => h.block i hi (fun e => by have := hr i e.symm; omega)⟩
theorem Ints.turn {Lo Hi B : Nat} {w w' : World} {v : Value} {xs : List Int} (h : Ints w B v xs) (t : Turn Lo Hi w w') (hk : ∀ k, v.ownBlock = some k → k < Lo ∨ Hi ≤ k) : Ints w' B v xs := by
  refine ⟨h.1, ?_⟩
  rcases h.2 with h0 | ⟨g, cap, cur, hv, hb, hg, r⟩
  · exact .inl h0
  · exact .inr ⟨g, cap, cur, hv, hb, (t.block g (lt_of_block hg) (hk g (by rw [hv]; rfl))).trans hg, r⟩
def Out (Lo Hi : Nat) : List (Nat × Nat × Value) → Prop
  | [] => True
  | (b, _, _) :: fs => (b < Lo ∨ Hi ≤ b) ∧ Out Lo Hi fs
theorem Cs.turn {Lo Hi : Nat} {W W' : World} (t : Turn Lo Hi W W') : ∀ {fs : List (Nat × Nat × Value)}, Out Lo Hi fs → Bs W.heap.size fs → Cs W fs → Cs W' fs
  | [], _, _, _ => trivial
  | (_, _, _) :: _, ho, hb, hc => ⟨(World.cell?_of_block (t.block _ hb.1 ho.1)).trans hc.1, Cs.turn t ho.2 hb.2 hc.2⟩
theorem Held.turn {Lo Hi : Nat} {w W W' : World} {fs : List (Nat × Nat × Value)} (h : Held w W fs) (t : Turn Lo Hi W W') (ho : Out Lo Hi fs) (hLo : w.heap.size ≤ Lo) : Held w W' fs :=
  ⟨h.1.turn t ho h.2.1, h.2.1.mono t.size, h.2.2.trans ⟨t.os, t.tape, t.output, t.size, fun k hk => t.block k (by have := h.2.2.size; omega) (.inl (by omega))⟩⟩
theorem Mine.grown {w w' : World} {B : Nat} {T : TypeId} {v : Value} {xs : List Nd} {row : Option Nat} (h : Mine w B T v xs) (hg : w.grownBy w' row) (hr : ∀ g, row = some g → g < B) : Mine w' B T v xs := by
  obtain ⟨A, c, n, rfl, hl, hc, hx⟩ := h
  refine ⟨A, c, n, rfl, hl, hc, fun h0 => ?_⟩
  obtain ⟨g, rfl, hB, hn, hh⟩ := hx h0
  exact ⟨g, rfl, hB, hn, hh.keep (hg.block g hh.lt fun e => by have := hr g e.symm; omega)⟩

end Go.Proofs.Ytfppnaknnijobab
