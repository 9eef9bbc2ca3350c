/-
  A slice of pairs of ints that comes in reads as a list of pairs.
-/
import Derived.Test.YtfppnaknnijobabPairs
import Derived.Deep.Slices
import Derived.Deep.Fields
import Derived.ChangeSame
import Derived.ProofKit
namespace Go.Proofs.Ytfppnaknnijobab
open Go.RowKit Go.ChangeShapes Go.WideShapes Go.Deep
set_option linter.unusedVariables false
set_option linter.unusedSimpArgs false

theorem list_of_all {n : Nat} {R : Nat → Nd → Prop} (h : ∀ i, i < n → ∃ p, R i p) : ∃ xs : List Nd, xs.length = n ∧ ∀ i, i < n → R i (atN xs i) := by
  refine ⟨(List.range n).map fun i => if hi : i < n then Classical.choose (h i hi) else ⟨0, 0⟩, by simp, fun i hi => ?_⟩
  have e : atN ((List.range n).map fun i => if hi : i < n then Classical.choose (h i hi) else ⟨0, 0⟩) i = Classical.choose (h i hi) := by
    unfold atN
    simp [List.getD, List.getElem?_map, List.getElem?_range, hi]
  rw [e]
  exact Classical.choose_spec (h i hi)

section
variable {H : Type} {enc : TypeId × Value → H} {P : Program} {w : World} {base : Nat} {spare : Nat → Bool} {held : Bool}
theorem prs_open {t e : TypeId} {f0 f1 : Field} {fuel : Nat} {cs : List Value} {x : DataW H × List MemPlace} (ht : P.underlying t = some (.slice e)) (he : P.underlying e = some (.struct #[f0, f1]))
    (hone : oneCellFields P #[f0, f1] = true) (hC : P.cellsOf e = 2) (hk0 : P.underlying f0.type = some (.int .i64)) (hk1 : P.underlying f1.type = some (.int .i64))
    (h : DataW.trod enc P w base spare held fuel t cs = some x) : ∃ v xs, cs = [v] ∧ Prs w v xs := by
  rcases open_slice ht h with ⟨h0, _⟩ | ⟨a, len, cap, m, n, D, Pl, hcs, hb, hl, hm, hmm, hx, hi⟩
  · exact ⟨_, [], h0, Prs.nil_ w⟩
  · have hle : len ≤ m := by rw [hmm]; split <;> omega
    have hall : ∀ i, i < len → ∃ p : Nd, w.cell? (a.add (i * 2)) = some (.int .i64 p.x) ∧ w.cell? (a.add (i * 2 + 1)) = some (.int .i64 p.y) := by
      intro i hil
      obtain ⟨cs', hc, ht'⟩ := hi i (by omega)
      rw [hC] at hc
      obtain ⟨ys, n', hn', hy, hlen, hyl, hf⟩ := DataW.trod_struct he ht'
      obtain ⟨_, hcl, hat⟩ := World.cells?_some hc
      have hcl2 : cs'.length = 2 := hcl
      match cs', hcl2 with
      | [u0, u1], _ =>
        obtain ⟨o0, k0⟩ := hone_of hone 0 f0 rfl
        obtain ⟨o1, k1⟩ := hone_of hone 1 f1 rfl
        have g0 := hf 0 f0 rfl
        have g1 := hf 1 f1 rfl
        rw [o0, k0] at g0
        rw [o1, k1] at g1
        have y0 : ys[0]? = some (ys[0]'(by rw [hyl]; simp)) := List.getElem?_eq_getElem _
        have y1 : ys[1]? = some (ys[1]'(by rw [hyl]; simp)) := List.getElem?_eq_getElem _
        obtain ⟨p, e0, _, _⟩ := DataW.trod_int hk0 (g0.trans y0)
        obtain ⟨q, e1, _, _⟩ := DataW.trod_int hk1 (g1.trans y1)
        have c0 := hat 0 (by omega)
        have c1 := hat 1 (by omega)
        rw [Go.Deep.add_add] at c0 c1
        simp only [Nat.add_zero] at c0
        refine ⟨⟨p, q⟩, ?_, ?_⟩
        · rw [c0]; simpa using e0
        · rw [c1]; simpa using e1
    obtain ⟨xs, hxl, hxs⟩ := list_of_all hall
    subst hxl
    refine ⟨_, xs, hcs, some a, cap, rfl, hl, hm, fun h0 => ?_⟩
    obtain ⟨b, off, spot⟩ := a
    have hspot : spot = none := by
      have := (hxs 0 h0).1
      simp [Addr.add] at this
      exact World.cell?_spot this
    subst hspot
    have hp := fun i hi => hxs i hi
    simp only [Go.WideShapes.add_plain] at hp
    exact ⟨b, off, rfl, World.block_lt_of_cell? w _ (hp 0 h0).1, fun k hk => by
      have := hp k hk
      rw [← Nat.add_assoc] at this
      exact this⟩
end
end Go.Proofs.Ytfppnaknnijobab
