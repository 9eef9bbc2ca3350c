/-
  A region that draws its order and makes two new variables, into which its last two operations store.
-/
import Derived.Test.YtepacoacalhdcaaGreatG2
import Derived.Test.YtepacoacalhdcaaGreatG4
namespace Go.Proofs.YtepacoacalhdcaaGreat
open Go.RowKit
set_option linter.unusedVariables false
set_option linter.unusedSimpArgs false

/-- v1 and v2 point to two blocks of type T that were made since W0; p1 and p2 hold of their cells. -/
def Two (W0 : World) (T : TypeId) (p1 p2 : Array Value → Prop) (v1 v2 : Value) (W : World) : Prop :=
  ∃ b1 b2 c1 c2, v1 = .pointer (some ⟨b1, 0, none⟩) ∧ v2 = .pointer (some ⟨b2, 0, none⟩) ∧ b1 ≠ b2 ∧ W0.heap.size ≤ b1 ∧ W0.heap.size ≤ b2 ∧ W.heap[b1]? = some (.cells c1 T (0, 0)) ∧ W.heap[b2]? = some (.cells c2 T (0, 0)) ∧ p1 c1 ∧ p2 c2

theorem stable_two (W0 : World) (T : TypeId) (p1 p2 : Array Value → Prop) (v1 v2 : Value) : Stable fun W => Two W0 T p1 p2 v1 v2 W :=
  fun _ _ ⟨b1, b2, c1, c2, h1, h2, h3, h4, h5, h6, h7, h8⟩ hb => ⟨b1, b2, c1, c2, h1, h2, h3, h4, h5, (hb.block b1 (lt_of_block h6)).trans h6, (hb.block b2 (lt_of_block h7)).trans h7, h8⟩

def Sz (n : Nat) (cs : Array Value) : Prop := cs.size = n

theorem Two.left {W0 W : World} {T : TypeId} {n : Nat} {p2 : Array Value → Prop} {v1 v2 : Value} (h : Two W0 T (Sz n) p2 v1 v2 W) : NewB W0 T n v1 W := by
  obtain ⟨b1, b2, c1, c2, h1, h2, h3, h4, h5, h6, h7, h8, h9⟩ := h
  exact ⟨b1, c1, h1, h4, h6, h8⟩

theorem Two.right {W0 W : World} {T : TypeId} {n : Nat} {p1 : Array Value → Prop} {v1 v2 : Value} (h : Two W0 T p1 (Sz n) v1 v2 W) : NewB W0 T n v2 W := by
  obtain ⟨b1, b2, c1, c2, h1, h2, h3, h4, h5, h6, h7, h8, h9⟩ := h
  exact ⟨b2, c2, h2, h5, h7, h9⟩

section

variable {P : Program} {ops : Array Oper} {Q : Exit → Act → World → Prop} {md : Region.Mode}

theorem freeR_after {W0 w : World} {T : TypeId} {n : Nat} {r : Result Next} {cs : Array Value} {v1 : Value} (h : r = .ok (.value (.pointer (some ⟨w.heap.size, 0, none⟩))) (w.alloc (.cells cs T))) (hw : W0.heap.size ≤ w.heap.size) (hn : cs.size = n) (h1 : NewB W0 T n v1 w) : FreeR P (fun v => Two W0 T (Sz n) (Sz n) v1 v) w r := by
  subst h
  obtain ⟨b, c, rfl, hb, hc, hs⟩ := h1
  have hlt := lt_of_block hc
  exact ⟨⟨b, _, c, cs, rfl, rfl, by omega, hb, hw, (((Below.refl w.heap.size w).alloc (Nat.le_refl _) (.cells cs T)).block b hlt).trans hc, heap_alloc_new w _, hs, hn⟩, (Below.refl _ _).alloc (Nat.le_refl _) _⟩

theorem Two.swap {W0 W : World} {T : TypeId} {p1 p2 : Array Value → Prop} {v1 v2 : Value} (h : Two W0 T p1 p2 v1 v2 W) : Two W0 T p2 p1 v2 v1 W := by
  obtain ⟨b1, b2, c1, c2, h1, h2, h3, h4, h5, h6, h7, h8, h9⟩ := h
  exact ⟨b2, b1, c2, c1, h2, h1, h3.symm, h5, h4, h7, h6, h9, h8⟩

theorem freeR_before {W0 w : World} {T : TypeId} {n : Nat} {r : Result Next} {cs : Array Value} {v1 : Value} (h : r = .ok (.value (.pointer (some ⟨w.heap.size, 0, none⟩))) (w.alloc (.cells cs T))) (hw : W0.heap.size ≤ w.heap.size) (hn : cs.size = n) (h1 : NewB W0 T n v1 w) : FreeR P (fun v => Two W0 T (Sz n) (Sz n) v v1) w r := by
  subst h
  obtain ⟨b, c, rfl, hb, hc, hs⟩ := h1
  have hlt := lt_of_block hc
  exact ⟨⟨_, b, cs, c, rfl, rfl, by omega, hw, hb, heap_alloc_new w _, (((Below.refl w.heap.size w).alloc (Nat.le_refl _) (.cells cs T)).block b hlt).trans hc, hn, hs⟩, (Below.refl _ _).alloc (Nat.le_refl _) _⟩

theorem storeA {l rest : List Oper} {i : Nat} {oi : Oper} {fuel : Nat} {listed : Array Bool} {a : Act} {W0 : World} {T : TypeId} {va v1 v2 : Value} {fs : List (Nat × Nat × Value)} {ty : TypeId} {x y : Operand} {n : Nat} (cells : Array Value)
    (hva : va = v1 ∨ va = v2) (hi : l.drop i = oi :: rest) (hr : Region.ready md l.toArray listed = [i]) (hw : Region.wanted oi (yielded l.toArray a.tmps) = true) (ho : oi.op = .store ty x y) (hx : a.eval x = v1) (hy : a.eval y = .agg cells)
    (hB : Bs W0.heap.size fs) (hn : cells.size = n) (hinfo : (P.info? ty).map (·.size) = some cells.size) (h1 : cells.all (·.oneCell') = true)
    (h : wpAnyW P md l.toArray Q fuel (listed.setIfInBounds i true) (a.put oi.dst undef) (fun W => ((Held W0 W fs ∧ NewB W0 T n va W) ∧ Two W0 T (Sz n) (Sz n) v1 v2 W) ∧ Two W0 T (· = cells) (Sz n) v1 v2 W)) :
    wpAnyW P md l.toArray Q (fuel + 1) listed a (fun W => (Held W0 W fs ∧ NewB W0 T n va W) ∧ Two W0 T (Sz n) (Sz n) v1 v2 W) := by
  subst hn
  refine effW (v := undef) (fun W => Two W0 T (· = cells) (Sz cells.size) v1 v2 W) (Stable.and (Stable.and (Stable.held _ _) (stable_newB _ _ _ _)) (stable_two _ _ _ _ _ _)) (stable_two _ _ _ _ _ _) hi hr hw (fun W hS => ?_) h
  obtain ⟨⟨hH, _⟩, b1, b2, c1, c2, rfl, rfl, hne, hb1, hb2, hc1, hc2, hs1, hs2⟩ := hS
  unfold execOp
  simp only [ho, hx, hy, Instr.storeAt, Instr.sureAddr, Sem.run_bind, Sem.run_pure, Result.andThen_ok, run_storeVar_row W b1 T ty c1 cells hc1 hinfo hs1 h1]
  have k1 := setRow_heap W b1 c1 cells T _ hc1
  have k2 := (setRow_other W b1 b2 cells (Ne.symm hne)).trans hc2
  have t : Two W0 T (Sz cells.size) (Sz cells.size) (.pointer (some ⟨b1, 0, none⟩)) (.pointer (some ⟨b2, 0, none⟩)) (W.setRow b1 cells) := ⟨b1, b2, cells, c2, rfl, rfl, hne, hb1, hb2, k1, k2, rfl, hs2⟩
  exact ⟨rfl, ⟨⟨hH.setRow hB hb1 _, by rcases hva with rfl | rfl; exact t.left; exact t.right⟩, t⟩, b1, b2, cells, c2, rfl, rfl, hne, hb1, hb2, k1, k2, rfl, hs2⟩

theorem storeB {l rest : List Oper} {i : Nat} {oi : Oper} {fuel : Nat} {listed : Array Bool} {a : Act} {W0 : World} {T : TypeId} {va v1 v2 : Value} {fs : List (Nat × Nat × Value)} {ty : TypeId} {x y : Operand} {n : Nat} {d1 : Array Value} (cells : Array Value)
    (hva : va = v1 ∨ va = v2) (hi : l.drop i = oi :: rest) (hr : Region.ready md l.toArray listed = [i]) (hw : Region.wanted oi (yielded l.toArray a.tmps) = true) (ho : oi.op = .store ty x y) (hx : a.eval x = v2) (hy : a.eval y = .agg cells)
    (hB : Bs W0.heap.size fs) (hn : cells.size = n) (hd : d1.size = n) (hinfo : (P.info? ty).map (·.size) = some cells.size) (h1 : cells.all (·.oneCell') = true)
    (h : wpAnyW P md l.toArray Q fuel (listed.setIfInBounds i true) (a.put oi.dst undef) (fun W => (((Held W0 W fs ∧ NewB W0 T n va W) ∧ Two W0 T (Sz n) (Sz n) v1 v2 W) ∧ Two W0 T (· = d1) (Sz n) v1 v2 W) ∧ Two W0 T (· = d1) (· = cells) v1 v2 W)) :
    wpAnyW P md l.toArray Q (fuel + 1) listed a (fun W => ((Held W0 W fs ∧ NewB W0 T n va W) ∧ Two W0 T (Sz n) (Sz n) v1 v2 W) ∧ Two W0 T (· = d1) (Sz n) v1 v2 W) := by
  subst hn
  refine effW (v := undef) (fun W => Two W0 T (· = d1) (· = cells) v1 v2 W) (Stable.and (Stable.and (Stable.and (Stable.held _ _) (stable_newB _ _ _ _)) (stable_two _ _ _ _ _ _)) (stable_two _ _ _ _ _ _)) (stable_two _ _ _ _ _ _) hi hr hw (fun W hS => ?_) h
  obtain ⟨⟨⟨hH, _⟩, _⟩, b1, b2, c1, c2, rfl, rfl, hne, hb1, hb2, hc1, hc2, rfl, hs2⟩ := hS
  unfold execOp
  simp only [ho, hx, hy, Instr.storeAt, Instr.sureAddr, Sem.run_bind, Sem.run_pure, Result.andThen_ok, run_storeVar_row W b2 T ty c2 cells hc2 hinfo hs2 h1]
  have k2 := setRow_heap W b2 c2 cells T _ hc2
  have k1 := (setRow_other W b2 b1 cells hne).trans hc1
  have t : Two W0 T (Sz cells.size) (Sz cells.size) (.pointer (some ⟨b1, 0, none⟩)) (.pointer (some ⟨b2, 0, none⟩)) (W.setRow b2 cells) := ⟨b1, b2, c1, cells, rfl, rfl, hne, hb1, hb2, k1, k2, hd, rfl⟩
  exact ⟨rfl, ⟨⟨⟨hH.setRow hB hb2 _, by rcases hva with rfl | rfl; exact t.left; exact t.right⟩, t⟩, b1, b2, c1, cells, rfl, rfl, hne, hb1, hb2, k1, k2, rfl, rfl⟩, b1, b2, c1, cells, rfl, rfl, hne, hb1, hb2, k1, k2, rfl, rfl⟩

end

theorem Held.joined2 {w W0 W : World} {fs gs : List (Nat × Nat × Value)} {T : TypeId} {v1 v2 x1 y1 x2 y2 : Value} (h0 : Held w W0 gs) (h : Held W0 W fs) (ht : Two W0 T (· = #[x1, y1]) (· = #[x2, y2]) v1 v2 W) :
    ∃ b1 b2, v1 = .pointer (some ⟨b1, 0, none⟩) ∧ v2 = .pointer (some ⟨b2, 0, none⟩) ∧ Held w W ((b2, 0, x2) :: (b2, 1, y2) :: (b1, 0, x1) :: (b1, 1, y1) :: fs) := by
  obtain ⟨b1, b2, c1, c2, rfl, rfl, hne, hb1, hb2, hc1, hc2, rfl, rfl⟩ := ht
  exact ⟨b1, b2, rfl, rfl, h0.joined ((Held.none_ W0).joined h hc1) hc2⟩
end Go.Proofs.YtepacoacalhdcaaGreat
