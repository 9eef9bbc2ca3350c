/-
  A struct of a struct of two ints and a slice of pairs that comes in.
-/
import Derived.Test.YtfppnaknnijobabOpen
import Derived.Lib.SmallJoins
import Derived.ChangeArms
import Derived.OpenShut
namespace Go.Proofs.Ytfppnaknnijobab
open Go.RowKit Go.ChangeShapes Go.WideShapes Go.Deep Go.Joins
set_option linter.unusedVariables false
set_option linter.unusedSimpArgs false

/-- All parts are ints of 64 bits. -/
def PrsIn (xs : List Nd) : Prop := ∀ k, k < xs.length → (-9223372036854775808 ≤ (atN xs k).x ∧ (atN xs k).x ≤ 9223372036854775807) ∧ (-9223372036854775808 ≤ (atN xs k).y ∧ (atN xs k).y ≤ 9223372036854775807)

section
variable {H : Type} {enc : TypeId × Value → H} {P : Program} {w : World} {base : Nat} {spare : Nat → Bool} {held : Bool}
theorem i64_of_wf {a : Int} (h : (Lit.int .i64 a).wf = true) : -9223372036854775808 ≤ a ∧ a ≤ 9223372036854775807 := by
  exact bounds_i64 h
theorem prs_openB {t e : TypeId} {f0 f1 : Field} {fuel : Nat} {cs : List Value} {x : DataW H × List MemPlace} (ht : P.underlying t = some (.slice e)) (he : P.underlying e = some (.struct #[f0, f1]))
    (hone : oneCellFields P #[f0, f1] = true) (hC : P.cellsOf e = 2) (hk0 : P.underlying f0.type = some (.int .i64)) (hk1 : P.underlying f1.type = some (.int .i64))
    (h : DataW.trod enc P w base spare held fuel t cs = some x) : ∃ v xs, cs = [v] ∧ Prs w v xs ∧ PrsIn xs := by
  rcases open_slice ht h with ⟨h0, _⟩ | ⟨a, len, cap, m, n, D, Pl, hcs, hb, hl, hm, hmm, hx, hi⟩
  · exact ⟨_, [], h0, Prs.nil_ w, fun k hk => absurd hk (by simp)⟩
  · have hle : len ≤ m := by rw [hmm]; split <;> omega
    have hall : ∀ i, i < len → ∃ p : Nd, w.cell? (a.add (i * 2)) = some (.int .i64 p.x) ∧ w.cell? (a.add (i * 2 + 1)) = some (.int .i64 p.y) ∧ (Lit.int .i64 p.x).wf = true ∧ (Lit.int .i64 p.y).wf = true := by
      intro i hil
      obtain ⟨cs', hc, ht'⟩ := hi i (by omega)
      rw [hC] at hc
      obtain ⟨ys, n', hn', hy, hlen, hyl, hf⟩ := DataW.trod_struct he ht'
      obtain ⟨_, hcl, hat⟩ := World.cells?_some hc
      have hcl2 : cs'.length = 2 := hcl
      match cs', hcl2 with
      | [u0, u1], _ =>
        obtain ⟨o0, k0⟩ := hone_of hone 0 f0 rfl
        obtain ⟨o1, k1⟩ := hone_of hone 1 f1 rfl
        have g0 := hf 0 f0 rfl
        have g1 := hf 1 f1 rfl
        rw [o0, k0] at g0
        rw [o1, k1] at g1
        have y0 : ys[0]? = some (ys[0]'(by rw [hyl]; simp)) := List.getElem?_eq_getElem _
        have y1 : ys[1]? = some (ys[1]'(by rw [hyl]; simp)) := List.getElem?_eq_getElem _
        obtain ⟨p, e0, _, wp⟩ := DataW.trod_int hk0 (g0.trans y0)
        obtain ⟨q, e1, _, wq⟩ := DataW.trod_int hk1 (g1.trans y1)
        have c0 := hat 0 (by omega)
        have c1 := hat 1 (by omega)
        rw [Go.Deep.add_add] at c0 c1
        simp only [Nat.add_zero] at c0
        refine ⟨⟨p, q⟩, ?_, ?_, wp, wq⟩
        · rw [c0]; simpa using e0
        · rw [c1]; simpa using e1
    obtain ⟨xs, hxl, hxs⟩ := list_of_all hall
    subst hxl
    refine ⟨_, xs, hcs, ⟨some a, cap, rfl, hl, hm, fun h0 => ?_⟩, fun k hk => ⟨i64_of_wf (hxs k hk).2.2.1, i64_of_wf (hxs k hk).2.2.2⟩⟩
    obtain ⟨b, off, spot⟩ := a
    have hspot : spot = none := by
      have := (hxs 0 h0).1
      simp [Addr.add] at this
      exact World.cell?_spot this
    subst hspot
    have hp := fun i hi => hxs i hi
    simp only [Go.WideShapes.add_plain] at hp
    exact ⟨b, off, rfl, World.block_lt_of_cell? w _ (hp 0 h0).1, fun k hk => by
      have := hp k hk
      rw [← Nat.add_assoc] at this
      exact ⟨this.1, this.2.1⟩⟩
theorem flaw_open {r : Reach} {b0 : Nat} {t : TypeId} {f0 f1 g0 g1 : Field} {v : Value} {d : DataW H} {p : List MemPlace} (hs : P.underlying t = some (.struct #[f0, f1])) (ho0 : f0.offset = 0) (hk0 : P.cellsOf f0.type = 2) (ho1 : f1.offset = 2) (hk1 : P.cellsOf f1.type = 1) (hC : P.cellsOf t = 3)
    (hn : P.underlying f0.type = some (.struct #[g0, g1])) (hone : oneCellFields P #[g0, g1] = true) (hg0 : P.underlying g0.type = some (.int .i64)) (hg1 : P.underlying g1.type = some (.int .i64))
    (hv : Value.okWide P w r b0 t v) (h : DataW.Trod enc P w base spare held t v d p) :
    ∃ (a b : Int) (v1 : Value) (y0 y1 : DataW H × List MemPlace) (n : Nat), v = .agg #[.int .i64 a, .int .i64 b, v1] ∧ d = .agg [y0.1, y1.1] ∧ p = y0.2 ++ y1.2 ∧
      (Lit.int .i64 a).wf = true ∧ (Lit.int .i64 b).wf = true ∧ DataW.trod enc P w base spare held n f1.type [v1] = some y1 := by
  obtain ⟨cs, rfl, hsz⟩ := okWide_struct hs hv
  obtain ⟨c0, c1, c2, rfl⟩ := array3 (hsz.trans hC)
  obtain ⟨fuel, hf⟩ := h
  obtain ⟨y0, y1, n, hx, _, h0, h1⟩ := trod_struct2 hs hf
  rw [ho0, hk0] at h0
  rw [ho1, hk1] at h1
  simp only [Prod.mk.injEq] at hx
  obtain ⟨z0, z1, m, hz, _, k0, k1⟩ := trod_struct2 hn h0
  obtain ⟨o0, q0⟩ := hone_of hone 0 g0 rfl
  obtain ⟨o1, q1⟩ := hone_of hone 1 g1 rfl
  rw [o0, q0] at k0
  rw [o1, q1] at k1
  obtain ⟨a, e0, _, w0⟩ := DataW.trod_int hg0 k0
  obtain ⟨b, e1, _, w1⟩ := DataW.trod_int hg1 k1
  obtain rfl : c0 = .int .i64 a := by simpa [Value.cells] using e0
  obtain rfl : c1 = .int .i64 b := by simpa [Value.cells] using e1
  exact ⟨a, b, c2, y0, y1, n, rfl, hx.1, hx.2, w0, w1, by simpa [Value.cells] using h1⟩
end
end Go.Proofs.Ytfppnaknnijobab
