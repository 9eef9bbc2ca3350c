/-
  Slices of pairs of ints in memory that a call itself has made, by append or as literals.
-/
import Derived.Test.YtfppnaknnijobabOwn
import Derived.Test.YtfppnaknnijobabInts
namespace Go.Proofs.Ytfppnaknnijobab
open Go.RowKit
set_option linter.unusedVariables false
set_option linter.unusedSimpArgs false

def cellsP : List Nd → List Value
  | [] => []
  | p :: ps => .int .i64 p.x :: .int .i64 p.y :: cellsP ps
theorem cellsP_len : ∀ xs : List Nd, (cellsP xs).length = xs.length * 2
  | [] => rfl
  | p :: ps => by simp only [cellsP, List.length_cons, cellsP_len ps]; omega
theorem cellsP_app : ∀ xs ys : List Nd, cellsP (xs ++ ys) = cellsP xs ++ cellsP ys
  | [], _ => rfl
  | p :: ps, ys => by simp only [cellsP, List.cons_append, cellsP_app ps ys]
theorem cellsP_get : ∀ (xs : List Nd) (j : Nat), j < xs.length → (cellsP xs)[j * 2]? = some (.int .i64 (atN xs j).x) ∧ (cellsP xs)[j * 2 + 1]? = some (.int .i64 (atN xs j).y)
  | p :: ps, 0, _ => ⟨rfl, rfl⟩
  | p :: ps, j + 1, h => by
    have := cellsP_get ps j (by simpa using h)
    rw [Nat.add_mul]
    exact this
theorem cellsP_set : ∀ (xs : List Nd) (j : Nat) (a b : Int), j < xs.length → ((cellsP xs).set (j * 2) (.int .i64 a)).set (j * 2 + 1) (.int .i64 b) = cellsP (xs.set j ⟨a, b⟩)
  | p :: ps, 0, _, _, _ => rfl
  | p :: ps, j + 1, a, b, h => by
    have := cellsP_set ps j a b (by simpa using h)
    rw [Nat.add_mul]
    simp only [cellsP, List.set_cons_succ, Nat.reduceMul]
    rw [← this]
theorem cellsP_one (xs : List Nd) : ∀ u ∈ cellsP xs, u.oneCell' = true := by
  induction xs with
  | nil => simp [cellsP]
  | cons p ps ih =>
    intro u hu
    simp only [cellsP, List.mem_cons] at hu
    rcases hu with rfl | rfl | hu
    · rfl
    · rfl
    · exact ih u hu

/-- The slice v reads as the pairs xs; its memory is a block of its own from B on. -/
def Own (w : World) (B : Nat) (T : TypeId) (v : Value) (xs : List Nd) : Prop := w.ownsRow B T 2 v xs.length (cellsP xs)
theorem Own.nil (w : World) (B : Nat) (T : TypeId) : Own w B T (.slice none 0 0) [] := World.ownsRow_nil w B _ 2
theorem Own.made (w : World) (b B : Nat) (T : TypeId) (hb : b = w.heap.size) (hB : B ≤ b) : Own (w.alloc (.cells #[] T)) B T (.slice (some ⟨b, 0, none⟩) 0 0) [] := by
  subst hb
  exact World.ownsRow_made _ _ _ hB (by unfold maxLen; omega) rfl
theorem Own.own {w : World} {B : Nat} {T : TypeId} {v : Value} {xs : List Nd} (h : Own w B T v xs) : ∀ k, v.ownBlock = some k → B ≤ k ∧ k < w.heap.size := World.ownsRow.lt h
theorem Own.step {w w' : World} {B : Nat} {T : TypeId} {v : Value} {xs : List Nd} (h : Own w B T v xs) (hb : Below w.heap.size w w') : Own w' B T v xs :=
  World.ownsRow.kept h (row := none) ⟨hb.os, hb.tape, hb.output, hb.size, fun k hk _ => hb.block k (by omega)⟩ (by cases v.ownBlock <;> simp)
theorem Own.mono {w : World} {B b' : Nat} {T : TypeId} {v : Value} {xs : List Nd} (h : Own w B T v xs) (hb : b' ≤ B) : Own w b' T v xs := by
  refine ⟨h.1, ?_⟩
  rcases h.2 with h0 | ⟨g, cap, cur, hv, hg, r⟩
  · exact .inl h0
  · exact .inr ⟨g, cap, cur, hv, Nat.le_trans hb hg, r⟩
theorem Own.keep {w w' : World} {B : Nat} {T : TypeId} {v : Value} {xs : List Nd} (h : Own w B T v xs) (hk : ∀ k, v.ownBlock = some k → w'.heap[k]? = w.heap[k]?) : Own w' B T v xs := by
  refine ⟨h.1, ?_⟩
  rcases h.2 with h0 | ⟨g, cap, cur, hv, hb, hg, r⟩
  · exact .inl h0
  · exact .inr ⟨g, cap, cur, hv, hb, (hk g (by rw [hv]; rfl)).trans hg, r⟩
theorem Own.form {w : World} {B : Nat} {T : TypeId} {v : Value} {xs : List Nd} (h : Own w B T v xs) :
    ∃ a cap, v = .slice a xs.length cap ∧ xs.length ≤ cap ∧ cap ≤ maxLen ∧ ((a = none ∧ xs = []) ∨ ∃ g, a = some ⟨g, 0, none⟩ ∧ B ≤ g ∧ g < w.heap.size ∧
      ∀ j, j < xs.length → w.cell? ⟨g, j * 2, none⟩ = some (.int .i64 (atN xs j).x) ∧ w.cell? ⟨g, j * 2 + 1, none⟩ = some (.int .i64 (atN xs j).y) ∧ w.frozen? ⟨g, j * 2, none⟩ = false ∧ w.frozen? ⟨g, j * 2 + 1, none⟩ = false) := by
  have H := h
  unfold Own at h
  rcases h.2 with ⟨rfl, h0⟩ | ⟨g, cap, cur, rfl, hb, hg, hnc, hcm, hcs, ht⟩
  · exact ⟨none, 0, by rw [h0], by rw [h0]; exact Nat.le_refl _, by unfold maxLen; omega, .inl ⟨rfl, List.eq_nil_of_length_eq_zero h0⟩⟩
  · refine ⟨some ⟨g, 0, none⟩, cap, rfl, hnc, hcm, .inr ⟨g, rfl, hb, lt_of_block hg, fun j hj => ?_⟩⟩
    have hc := cellsP_get xs j hj
    exact ⟨by rw [World.ownsRow.cellAt H _ (by omega)]; exact hc.1, by rw [World.ownsRow.cellAt H _ (by omega)]; exact hc.2, World.ownsRow.frozenAt H _, World.ownsRow.frozenAt H _⟩
theorem Own.prs {w : World} {B : Nat} {T : TypeId} {v : Value} {xs : List Nd} (h : Own w B T v xs) : Prs w v xs := by
  obtain ⟨a, cap, rfl, hc, hm, hx⟩ := h.form
  refine ⟨a, cap, rfl, hc, hm, fun h0 => ?_⟩
  rcases hx with ⟨_, rfl⟩ | ⟨g, rfl, _, hlt, hcs⟩
  · simp at h0
  · refine ⟨g, 0, rfl, hlt, fun k hk => ?_⟩
    rw [Nat.zero_add]
    exact ⟨(hcs k hk).1, (hcs k hk).2.1⟩
theorem Own.more {w' : World} {B : Nat} {T : TypeId} {v : Value} {xs ys : List Nd} (h : w'.ownsRow B T 2 v (xs.length + ys.length) (cellsP xs ++ cellsP ys)) : Own w' B T v (xs ++ ys) := by
  unfold Own
  rw [List.length_append, cellsP_app]
  exact h
theorem prs_news {w : World} {A : Addr} {c : Nat} {xs : List Nd} (h : Prs w (.slice (some A) xs.length c) xs) (h0 : 0 < xs.length) : ∀ j u, (cellsP xs)[j]? = some u → w.cell? (A.add j) = some u := by
  obtain ⟨A', c', he, _, _, hx⟩ := h
  obtain ⟨b, o, hA, _, hcs⟩ := hx h0
  injection he with e1 _ _
  rw [← e1] at hA
  injection hA with hA
  subst hA
  intro j u hu
  have hj : j < xs.length * 2 := by
    rw [← cellsP_len]
    exact (List.getElem?_eq_some_iff.1 hu).1
  have hg := cellsP_get xs (j / 2) (by omega)
  have hc := hcs (j / 2) (by omega)
  rw [Go.WideShapes.add_plain]
  by_cases e : j % 2 = 0
  · rw [show j = j / 2 * 2 by omega] at hu ⊢
    rw [hg.1] at hu
    rw [← hu]
    exact hc.1
  · rw [show j = j / 2 * 2 + 1 by omega] at hu ⊢
    rw [hg.2] at hu
    rw [← hu, ← Nat.add_assoc]
    exact hc.2
theorem grown_belowP {B : Nat} {W W' : World} {T : TypeId} {v : Value} {xs : List Nd} (h : Own W B T v xs) (hB : B ≤ W.heap.size) (hg : W.grownBy W' v.ownBlock) : Below B W W' :=
  (Below.refl B W).grown hg hB fun k e => (h.own k e).1
/-- What is returned: the pairs xs in new memory. -/
def PrsNew (T : TypeId) (xs : List Nd) (w : World) (e : Ending) (w' : World) : Prop := ∃ v, e = .returned v ∧ Own w' w.heap.size T v xs ∧ Below w.heap.size w w'
end Go.Proofs.Ytfppnaknnijobab
