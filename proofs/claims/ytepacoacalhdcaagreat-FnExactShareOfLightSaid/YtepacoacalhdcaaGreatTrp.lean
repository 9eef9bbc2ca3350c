/-
  Slices of structs of three ints in memory.
-/
import Derived.Test.YtepacoacalhdcaaGreatG5
import Derived.Test.YtepacoacalhdcaaGreatG1
import Derived.Test.YtepacoacalhdcaaGreatG2
namespace Go.Proofs.YtepacoacalhdcaaGreat
open Go.RowKit Go.ChangeShapes Go.WideShapes Go.Deep
set_option linter.unusedVariables false
set_option linter.unusedSimpArgs false

def atT (xs : List Tr) (k : Nat) : Tr := xs.getD k ⟨0, 0, 0⟩

theorem atT_get {xs : List Tr} {k : Nat} (h : k < xs.length) : xs[k] = atT xs k := by unfold atT; simp [List.getD, h]

theorem takeTr {xs : List Tr} {k : Nat} (h : k < xs.length) : xs.take (k + 1) = xs.take k ++ [atT xs k] := by rw [List.take_succ_eq_append_getElem h, atT_get h]

def flT : List Tr → List Value
  | [] => []
  | t :: r => .int .i64 t.x :: .int .i64 t.y :: .int .i64 t.z :: flT r

theorem flT_len : ∀ xs : List Tr, (flT xs).length = xs.length * 3
  | [] => rfl
  | t :: r => by simp only [flT, List.length_cons, flT_len r]; omega

theorem flT_app : ∀ a b : List Tr, flT (a ++ b) = flT a ++ flT b
  | [], b => rfl
  | t :: r, b => by simp only [List.cons_append, flT, flT_app r b]

theorem flT_get : ∀ (xs : List Tr) (k : Nat), k < xs.length → (flT xs)[k * 3]? = some (.int .i64 (atT xs k).x) ∧ (flT xs)[k * 3 + 1]? = some (.int .i64 (atT xs k).y) ∧ (flT xs)[k * 3 + 2]? = some (.int .i64 (atT xs k).z)
  | [], k, h => by simp at h
  | t :: r, 0, _ => ⟨rfl, rfl, rfl⟩
  | t :: r, k + 1, h => by
    have ih := flT_get r k (by simpa using h)
    rw [show (k + 1) * 3 = k * 3 + 1 + 1 + 1 by omega, show k * 3 + 1 + 1 + 1 + 1 = (k * 3 + 1) + 1 + 1 + 1 by omega, show k * 3 + 1 + 1 + 1 + 2 = (k * 3 + 2) + 1 + 1 + 1 by omega]
    simp only [flT, List.getElem?_cons_succ]
    exact ih

theorem flT_set : ∀ (xs : List Tr) (k : Nat) (t : Tr), k < xs.length → flT (xs.set k t) = (((flT xs).set (k * 3) (.int .i64 t.x)).set (k * 3 + 1) (.int .i64 t.y)).set (k * 3 + 2) (.int .i64 t.z)
  | [], k, t, h => by simp at h
  | a :: r, 0, t, _ => rfl
  | a :: r, k + 1, t, h => by
    rw [show (k + 1) * 3 = k * 3 + 1 + 1 + 1 by omega, show k * 3 + 1 + 1 + 1 + 1 = (k * 3 + 1) + 1 + 1 + 1 by omega, show k * 3 + 1 + 1 + 1 + 2 = (k * 3 + 2) + 1 + 1 + 1 by omega]
    simp only [flT, List.set_cons_succ, flT_set r k t (by simpa using h)]

/-- The slice value v reads as the triples xs. -/
def Trs (w : World) (v : Value) (xs : List Tr) : Prop :=
  ∃ (A : Option Addr) (c : Nat), v = .slice A xs.length c ∧ xs.length ≤ c ∧ c ≤ maxLen ∧ (0 < xs.length → ∃ b o, A = some ⟨b, o, none⟩ ∧ b < w.heap.size ∧
    ∀ k, k < xs.length → w.cell? ⟨b, o + k * 3, none⟩ = some (.int .i64 (atT xs k).x) ∧ w.cell? ⟨b, o + k * 3 + 1, none⟩ = some (.int .i64 (atT xs k).y) ∧ w.cell? ⟨b, o + k * 3 + 2, none⟩ = some (.int .i64 (atT xs k).z))

theorem Trs.step {w w' : World} {v : Value} {xs : List Tr} (h : Trs w v xs) (hb : Below w.heap.size w w') : Trs w' v xs := by
  obtain ⟨A, c, rfl, hl, hc, hx⟩ := h
  refine ⟨A, c, rfl, hl, hc, fun h0 => ?_⟩
  obtain ⟨b, o, rfl, hlt, hcs⟩ := hx h0
  have e : ∀ j, w'.cell? ⟨b, j, none⟩ = w.cell? ⟨b, j, none⟩ := fun j => hb.cell (p := ⟨b, j, none⟩) hlt
  exact ⟨b, o, rfl, Nat.lt_of_lt_of_le hlt hb.size, fun k hk => by rw [e, e, e]; exact hcs k hk⟩

theorem Trs.nil_ (w : World) : Trs w (.slice none 0 0) [] := ⟨none, 0, rfl, Nat.le_refl _, Nat.zero_le _, fun h => absurd h (by simp)⟩

theorem Trs.form {w : World} {v : Value} {xs : List Tr} (h : Trs w v xs) : ∃ (A : Option Addr) (c : Nat), v = .slice A xs.length c ∧ xs.length ≤ c ∧ c ≤ maxLen ∧
    ∀ k, k < xs.length → ∃ b o, A = some ⟨b, o, none⟩ ∧ b < w.heap.size ∧ w.cell? ⟨b, o + k * 3, none⟩ = some (.int .i64 (atT xs k).x) ∧ w.cell? ⟨b, o + k * 3 + 1, none⟩ = some (.int .i64 (atT xs k).y) ∧ w.cell? ⟨b, o + k * 3 + 2, none⟩ = some (.int .i64 (atT xs k).z) := by
  obtain ⟨A, c, rfl, hl, hc, hx⟩ := h
  refine ⟨A, c, rfl, hl, hc, fun k hk => ?_⟩
  obtain ⟨b, o, rfl, hlt, hcs⟩ := hx (by omega)
  exact ⟨b, o, rfl, hlt, hcs k hk⟩

theorem Trs.form2 {w : World} {v : Value} {xs : List Tr} (h : Trs w v xs) : ∃ (A : Option Addr) (c : Nat), v = .slice A xs.length c := by
  obtain ⟨A, c, rfl, _⟩ := h
  exact ⟨A, c, rfl⟩

theorem Trs.len {w : World} {v : Value} {xs : List Tr} (h : Trs w v xs) : xs.length ≤ 9223372036854775807 := by
  obtain ⟨A, c, rfl, hl, hc, hx⟩ := h
  unfold maxLen at hc
  omega

/-- The slice v reads as the triples xs; its memory is a block of its own from B on. -/
def Tps (w : World) (B : Nat) (T : TypeId) (v : Value) (xs : List Tr) : Prop := w.ownsRow B T 3 v xs.length (flT xs)

section

variable {w w' : World} {B : Nat} {T : TypeId} {v : Value} {xs : List Tr}

theorem Tps.nil (w : World) (B : Nat) (T : TypeId) : Tps w B T (.slice none 0 0) [] := World.ownsRow_nil w B T 3

theorem Tps.own (h : Tps w B T v xs) : ∀ k, v.ownBlock = some k → B ≤ k ∧ k < w.heap.size := World.ownsRow.lt h

theorem Tps.step (h : Tps w B T v xs) (hb : Below w.heap.size w w') : Tps w' B T v xs :=
  World.ownsRow.kept h (row := none) ⟨hb.os, hb.tape, hb.output, hb.size, fun k hk _ => hb.block k (by omega)⟩ (by cases v.ownBlock <;> simp)

theorem Tps.mono (h : Tps w B T v xs) {b' : Nat} (hb : b' ≤ B) : Tps w b' T v xs := by
  refine ⟨h.1, ?_⟩
  rcases h.2 with h0 | ⟨g, cap, cur, hv, hg, r⟩
  · exact .inl h0
  · exact .inr ⟨g, cap, cur, hv, Nat.le_trans hb hg, r⟩

theorem Tps.keep (h : Tps w B T v xs) (hk : ∀ k, v.ownBlock = some k → w'.heap[k]? = w.heap[k]?) : Tps w' B T v xs := by
  refine ⟨h.1, ?_⟩
  rcases h.2 with h0 | ⟨g, cap, cur, hv, hb, hg, r⟩
  · exact .inl h0
  · exact .inr ⟨g, cap, cur, hv, hb, (hk g (by rw [hv]; rfl)).trans hg, r⟩

theorem Tps.form (h : Tps w B T v xs) : ∃ a cap, v = .slice a xs.length cap ∧ xs.length ≤ cap ∧ cap ≤ maxLen ∧ ∀ j, j < xs.length → ∃ g, a = some ⟨g, 0, none⟩ ∧ B ≤ g ∧ g < w.heap.size ∧
    w.cell? ⟨g, j * 3, none⟩ = some (.int .i64 (atT xs j).x) ∧ w.cell? ⟨g, j * 3 + 1, none⟩ = some (.int .i64 (atT xs j).y) ∧ w.cell? ⟨g, j * 3 + 2, none⟩ = some (.int .i64 (atT xs j).z) ∧
    w.frozen? ⟨g, j * 3, none⟩ = false ∧ w.frozen? ⟨g, j * 3 + 1, none⟩ = false ∧ w.frozen? ⟨g, j * 3 + 2, none⟩ = false := by
  have H := h
  unfold Tps at H
  rcases h.2 with ⟨rfl, h0⟩ | ⟨g, cap, cur, rfl, hb, hg, hnc, hcm, hcs, ht⟩
  · exact ⟨none, 0, by rw [h0], by omega, Nat.zero_le _, fun j hj => by omega⟩
  · refine ⟨some ⟨g, 0, none⟩, cap, rfl, hnc, hcm, fun j hj => ⟨g, rfl, hb, lt_of_block hg, ?_⟩⟩
    obtain ⟨e0, e1, e2⟩ := flT_get xs j hj
    exact ⟨by rw [H.cellAt (j * 3) (by omega), e0], by rw [H.cellAt (j * 3 + 1) (by omega), e1], by rw [H.cellAt (j * 3 + 2) (by omega), e2], H.frozenAt _, H.frozenAt _, H.frozenAt _⟩

theorem Tps.trs (h : Tps w B T v xs) : Trs w v xs := by
  obtain ⟨a, cap, rfl, hl, hm, hc⟩ := h.form
  refine ⟨a, cap, rfl, hl, hm, fun h0 => ?_⟩
  obtain ⟨g, rfl, _, hg, _⟩ := hc 0 h0
  refine ⟨g, 0, rfl, hg, fun k hk => ?_⟩
  obtain ⟨g', e, _, _, k0, k1, k2, _⟩ := hc k hk
  simp only [Option.some.injEq, Addr.mk.injEq] at e
  obtain ⟨rfl, -, -⟩ := e
  rw [Nat.zero_add]
  exact ⟨k0, k1, k2⟩

theorem Tps.at_ {g n c j : Nat} (h : Tps w B T (.slice (some ⟨g, 0, none⟩) n c) xs) (hj : j < xs.length) :
    w.cell? ⟨g, j * 3, none⟩ = some (.int .i64 (atT xs j).x) ∧ w.cell? ⟨g, j * 3 + 1, none⟩ = some (.int .i64 (atT xs j).y) ∧ w.cell? ⟨g, j * 3 + 2, none⟩ = some (.int .i64 (atT xs j).z) ∧
    w.frozen? ⟨g, j * 3, none⟩ = false ∧ w.frozen? ⟨g, j * 3 + 1, none⟩ = false ∧ w.frozen? ⟨g, j * 3 + 2, none⟩ = false := by
  obtain ⟨a, cap, e, _, _, hc⟩ := h.form
  obtain ⟨g', rfl, _, _, r⟩ := hc j hj
  simp only [Value.slice.injEq, Option.some.injEq, Addr.mk.injEq] at e
  obtain ⟨⟨rfl, -, -⟩, -, -⟩ := e
  exact r

/-- One triple is stored, part by part. -/
theorem Tps.set {g n c k : Nat} (h : Tps w B T (.slice (some ⟨g, 0, none⟩) n c) xs) (hn : n = xs.length) (hk : k < xs.length) (t : Tr) :
    Tps (((w.setCell ⟨g, k * 3, none⟩ (.int .i64 t.x)).setCell ⟨g, k * 3 + 1, none⟩ (.int .i64 t.y)).setCell ⟨g, k * 3 + 2, none⟩ (.int .i64 t.z)) B T (.slice (some ⟨g, 0, none⟩) n c) (xs.set k t) := by
  subst hn
  unfold Tps at h
  have h0 := (World.ownsRow.stored h (k * 3) (.int .i64 t.x)).1
  have h1 := (World.ownsRow.stored h0 (k * 3 + 1) (.int .i64 t.y)).1
  have h2 := (World.ownsRow.stored h1 (k * 3 + 2) (.int .i64 t.z)).1
  unfold Tps
  rw [flT_set xs k t hk, List.length_set]
  exact h2

theorem Tps.more {u : Tr} (h : w'.ownsRow B T 3 v (xs.length + 1) (flT xs ++ [.int .i64 u.x, .int .i64 u.y, .int .i64 u.z])) : Tps w' B T v (xs ++ [u]) := by
  unfold Tps
  rw [List.length_append, flT_app]
  exact h

end

theorem Tps.some_ {w : World} {B : Nat} {T : TypeId} {v : Value} {xs : List Tr} (h : Tps w B T v xs) (h0 : 0 < xs.length) : ∃ g c, v = .slice (some ⟨g, 0, none⟩) xs.length c := by
  obtain ⟨a, c, rfl, _, _, hc⟩ := h.form
  obtain ⟨g, rfl, _⟩ := hc 0 h0
  exact ⟨g, c, rfl⟩

theorem stable_trs (v : Value) (xs : List Tr) : Stable fun W => Trs W v xs := fun _ _ h hb => h.step hb

theorem tlist_of_all {n : Nat} {R : Nat → Tr → Prop} (h : ∀ i, i < n → ∃ p, R i p) : ∃ xs : List Tr, xs.length = n ∧ ∀ i, i < n → R i (atT xs i) := by
  refine ⟨(List.range n).map fun i => if hi : i < n then Classical.choose (h i hi) else ⟨0, 0, 0⟩, by simp, fun i hi => ?_⟩
  have e : atT ((List.range n).map fun i => if hi : i < n then Classical.choose (h i hi) else ⟨0, 0, 0⟩) i = Classical.choose (h i hi) := by
    unfold atT
    simp [List.getD, List.getElem?_map, List.getElem?_range, hi]
  rw [e]
  exact Classical.choose_spec (h i hi)

section

variable {H : Type} {enc : TypeId × Value → H} {P : Program} {w : World} {base : Nat} {spare : Nat → Bool} {held : Bool}

theorem trs_open {t e : TypeId} {f0 f1 f2 : Field} {fuel : Nat} {cs : List Value} {x : DataW H × List MemPlace} (ht : P.underlying t = some (.slice e)) (he : P.underlying e = some (.struct #[f0, f1, f2]))
    (hone : oneCellFields P #[f0, f1, f2] = true) (hC : P.cellsOf e = 3) (hk0 : P.underlying f0.type = some (.int .i64)) (hk1 : P.underlying f1.type = some (.int .i64)) (hk2 : P.underlying f2.type = some (.int .i64))
    (h : DataW.trod enc P w base spare held fuel t cs = some x) : ∃ v xs, cs = [v] ∧ Trs w v xs := by
  rcases open_slice ht h with ⟨h0, _⟩ | ⟨a, len, cap, m, n, D, Pl, hcs, hb, hl, hm, hmm, hx, hi⟩
  · exact ⟨_, [], h0, Trs.nil_ w⟩
  · have hle : len ≤ m := by rw [hmm]; split <;> omega
    have hall : ∀ i, i < len → ∃ p : Tr, w.cell? (a.add (i * 3)) = some (.int .i64 p.x) ∧ w.cell? (a.add (i * 3 + 1)) = some (.int .i64 p.y) ∧ w.cell? (a.add (i * 3 + 2)) = some (.int .i64 p.z) := by
      intro i hil
      obtain ⟨cs', hc, ht'⟩ := hi i (by omega)
      rw [hC] at hc
      obtain ⟨ys, n', hn', hy, hlen, hyl, hf⟩ := DataW.trod_struct he ht'
      obtain ⟨_, hcl, hat⟩ := World.cells?_some hc
      have hcl2 : cs'.length = 3 := hcl
      match cs', hcl2 with
      | [u0, u1, u2], _ =>
        obtain ⟨o0, k0⟩ := hone_of hone 0 f0 rfl
        obtain ⟨o1, k1⟩ := hone_of hone 1 f1 rfl
        obtain ⟨o2, k2⟩ := hone_of hone 2 f2 rfl
        have g0 := hf 0 f0 rfl
        have g1 := hf 1 f1 rfl
        have g2 := hf 2 f2 rfl
        rw [o0, k0] at g0
        rw [o1, k1] at g1
        rw [o2, k2] at g2
        have y0 : ys[0]? = some (ys[0]'(by rw [hyl]; simp)) := List.getElem?_eq_getElem _
        have y1 : ys[1]? = some (ys[1]'(by rw [hyl]; simp)) := List.getElem?_eq_getElem _
        have y2 : ys[2]? = some (ys[2]'(by rw [hyl]; simp)) := List.getElem?_eq_getElem _
        obtain ⟨p, e0, _, _⟩ := DataW.trod_int hk0 (g0.trans y0)
        obtain ⟨q, e1, _, _⟩ := DataW.trod_int hk1 (g1.trans y1)
        obtain ⟨r, e2, _, _⟩ := DataW.trod_int hk2 (g2.trans y2)
        have c0 := hat 0 (by omega)
        have c1 := hat 1 (by omega)
        have c2 := hat 2 (by omega)
        rw [Go.Deep.add_add] at c0 c1 c2
        simp only [Nat.add_zero] at c0
        refine ⟨⟨p, q, r⟩, ?_, ?_, ?_⟩
        · rw [c0]; simpa using e0
        · rw [c1]; simpa using e1
        · rw [c2]; simpa using e2
    obtain ⟨xs, hxl, hxs⟩ := tlist_of_all hall
    subst hxl
    refine ⟨_, xs, hcs, some a, cap, rfl, hl, hm, fun h0 => ?_⟩
    obtain ⟨b, off, spot⟩ := a
    have hspot : spot = none := by
      have := (hxs 0 h0).1
      simp [Addr.add] at this
      exact World.cell?_spot this
    subst hspot
    have hp := fun i hi => hxs i hi
    simp only [Go.WideShapes.add_plain] at hp
    exact ⟨b, off, rfl, World.block_lt_of_cell? w _ (hp 0 h0).1, fun k hk => by
      have := hp k hk
      rw [← Nat.add_assoc, ← Nat.add_assoc] at this
      exact this⟩

end
end Go.Proofs.YtepacoacalhdcaaGreat
