/-
  The model's darts around a node.
-/
import Derived.Test.YtfppnaknnijobabAroP
import Derived.Test.YtfppnaknnijobabNodeA
import Derived.Test.YtfppnaknnijobabDetV
namespace Go.Proofs.Ytfppnaknnijobab
open Go.RowKit
set_option linter.unusedVariables false
set_option linter.unusedSimpArgs false

theorem Ints.set_ {w : World} {B g c n : Nat} {xs : List Int} (h : Ints w B (.slice (some ⟨g, 0, none⟩) n c) xs) (hn : n = xs.length) (j : Nat) (x : Int) :
    Ints (w.setCell ⟨g, j, none⟩ (.int .i64 x)) B (.slice (some ⟨g, 0, none⟩) n c) (xs.set j x) := by
  subst hn
  have := (World.ownsRow.stored h j (.int .i64 x)).1
  unfold Ints
  rw [List.length_set, List.map_set]
  exact this
theorem Ints.at_ {w : World} {B g c n : Nat} {xs : List Int} (h : Ints w B (.slice (some ⟨g, 0, none⟩) n c) xs) {j : Nat} (hj : j < xs.length) :
    w.cell? ⟨g, j, none⟩ = some (.int .i64 (atZ xs j)) ∧ w.frozen? ⟨g, j, none⟩ = false ∧ g < w.heap.size ∧ B ≤ g ∧ n = xs.length := by
  obtain ⟨a, cap, e, _, hg⟩ := h.form
  obtain ⟨g', rfl, hB, hl, hc, hf⟩ := hg j hj
  injection e with e1 e2 e3
  injection e1 with e1
  injection e1 with e1
  subst e1
  rw [atZ_get hj] at hc
  exact ⟨hc, hf, hl, hB, e2⟩
theorem Ints.some_ {w : World} {B : Nat} {v : Value} {xs : List Int} (h : Ints w B v xs) (h0 : 0 < xs.length) : ∃ g c, v = .slice (some ⟨g, 0, none⟩) xs.length c := by
  obtain ⟨a, cap, rfl, _, hg⟩ := h.form
  obtain ⟨g, rfl, _⟩ := hg 0 h0
  exact ⟨g, cap, rfl⟩
theorem stable_ints (B : Nat) (v : Value) (xs : List Int) : Stable fun W => Ints W B v xs := fun _ _ h hb => h.step hb
theorem Held.setB {w W : World} {B g j : Nat} {x : Value} {fs : List (Nat × Nat × Value)} (h : Held w W fs) (hs : Bs B fs) (hg : B ≤ g) (hB : w.heap.size ≤ B) : Held w (W.setCell ⟨g, j, none⟩ x) fs :=
  h.stepB hs ((Below.refl B W).setCell (p := ⟨g, j, none⟩) hg x) hB
theorem aro_cells {w W : World} {fs : List (Nat × Nat × Value)} {b1 o1 : Nat} {ns : List Nd} (h : Held w W fs) (h1 : CellsAt W b1 o1 ns) (hb1 : b1 < W.heap.size)
    {k b x : Nat} (hk : k < ns.length) (hb : b < ns.length) (hx : x < ns.length) :
    Held w W (fs ++ (P1 b1 o1 ns k ++ (P1 b1 o1 ns b ++ P1 b1 o1 ns x))) :=
  ⟨h.1.append ((P1_cs h1 hk).append ((P1_cs h1 hb).append (P1_cs h1 hx))), h.2.1.append ((P1_bs hb1).append ((P1_bs hb1).append (P1_bs hb1))), h.2.2⟩

end Go.Proofs.Ytfppnaknnijobab
