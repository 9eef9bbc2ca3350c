/-
  A region that draws its order and makes one new variable, into which its last operation stores.
-/
import Derived.Test.YtfppnaknnijobabDetW
import Derived.Laws.Tables
namespace Go.Proofs.Ytfppnaknnijobab
open Go.RowKit
set_option linter.unusedVariables false
set_option linter.unusedSimpArgs false

/-- v points to a block of n cells of type T that was made since W0. -/
def NewB (W0 : World) (T : TypeId) (n : Nat) (v : Value) (W : World) : Prop := ∃ b cs, v = .pointer (some ⟨b, 0, none⟩) ∧ W0.heap.size ≤ b ∧ W.heap[b]? = some (.cells cs T (0, 0)) ∧ cs.size = n
def FullB (W0 : World) (T : TypeId) (cells : Array Value) (v : Value) (W : World) : Prop := ∃ b, v = .pointer (some ⟨b, 0, none⟩) ∧ W0.heap.size ≤ b ∧ W.heap[b]? = some (.cells cells T (0, 0))
theorem stable_newB (W0 : World) (T : TypeId) (n : Nat) (v : Value) : Stable fun W => NewB W0 T n v W := fun _ _ ⟨b, cs, h1, h2, h3, h4⟩ hb => ⟨b, cs, h1, h2, (hb.block b (lt_of_block h3)).trans h3, h4⟩
theorem stable_fullB (W0 : World) (T : TypeId) (cells : Array Value) (v : Value) : Stable fun W => FullB W0 T cells v W := fun _ _ ⟨b, h1, h2, h3⟩ hb => ⟨b, h1, h2, (hb.block b (lt_of_block h3)).trans h3⟩

section
variable {P : Program} {ops : Array Oper} {Q : Exit → Act → World → Prop} {md : Region.Mode}

theorem freeR_new {W0 w : World} {T : TypeId} {n : Nat} {r : Result Next} {cs : Array Value} (h : r = .ok (.value (.pointer (some ⟨w.heap.size, 0, none⟩))) (w.alloc (.cells cs T))) (hw : W0.heap.size ≤ w.heap.size) (hn : cs.size = n) : FreeR P (NewB W0 T n) w r := by
  subst h
  exact ⟨⟨_, _, rfl, hw, heap_alloc_new w _, hn⟩, (Below.refl _ _).alloc (Nat.le_refl _) _⟩

theorem allocV {l rest : List Oper} {i : Nat} {oi : Oper} {fuel : Nat} {listed : Array Bool} {a : Act} {W0 : World} {fs : List (Nat × Nat × Value)} (T : TypeId) (cs : Array Value) (hi : l.drop i = oi :: rest)
    (hr : Region.ready md l.toArray listed = [i]) (hw : Region.wanted oi (yielded l.toArray a.tmps) = true) (hy : ∀ W, (execOp a.eval oi).run P W = .ok (.value (.pointer (some ⟨W.heap.size, 0, none⟩))) (W.alloc (.cells cs T)))
    (h : ∀ v, wpAnyW P md l.toArray Q fuel (listed.setIfInBounds i true) (a.put oi.dst v) (fun W => Held W0 W fs ∧ NewB W0 T cs.size v W)) : wpAnyW P md l.toArray Q (fuel + 1) listed a (fun W => Held W0 W fs) :=
  freeW (NewB W0 T cs.size) (Stable.held _ _) (fun v => stable_newB _ _ _ v) hi hr hw (fun W hS => freeR_new (hy W) hS.2.2.size rfl) h

def EffR (v : Value) (G R : World → Prop) : Result Next → Prop
  | .ok (.value u) w' => u = v ∧ G w' ∧ R w'
  | .ok .skip w' => v = undef ∧ G w' ∧ R w'
  | _ => False
theorem effW {l rest : List Oper} {i : Nat} {oi : Oper} {v : Value} {fuel : Nat} {listed : Array Bool} {a : Act} {G : World → Prop} (R : World → Prop) (hst : Stable G) (hR : Stable R) (hi : l.drop i = oi :: rest)
    (hr : Region.ready md l.toArray listed = [i]) (hw : Region.wanted oi (yielded l.toArray a.tmps) = true) (hy : ∀ w, G w → EffR v G R ((execOp a.eval oi).run P w))
    (h : wpAnyW P md l.toArray Q fuel (listed.setIfInBounds i true) (a.put oi.dst v) (fun x => G x ∧ R x)) : wpAnyW P md l.toArray Q (fuel + 1) listed a G := by
  refine ⟨fun h0 => (by rw [hr] at h0; cases h0), fun j hj w hG => ?_⟩
  rw [hr] at hj
  obtain rfl : j = i := by simpa using hj
  unfold wpOp
  simp only [get_of_drop hi, hw, if_true]
  refine .inl ?_
  unfold Oper.wp
  have hd := hy w hG
  generalize (execOp a.eval oi).run P w = r at *
  cases r with
  | ok n w' =>
    cases n <;> simp only [EffR] at hd <;> simp only [Oper.upon]
    case value u => obtain ⟨rfl, h1, h2⟩ := hd; exact ⟨_, hst.and hR, fun _ hx => hx.1, ⟨h1, h2⟩, h⟩
    case skip => obtain ⟨rfl, h1, h2⟩ := hd; exact ⟨_, hst.and hR, fun _ hx => hx.1, ⟨h1, h2⟩, h⟩
  | halt x w' => simp [EffR] at hd

theorem Bs.lt {n : Nat} : ∀ {fs : List (Nat × Nat × Value)} {b o : Nat} {v : Value}, Bs n fs → (b, o, v) ∈ fs → b < n
  | (b', o', v') :: fs, b, o, v, h, hm => by
    rcases List.mem_cons.1 hm with e | hm
    · injection e with e1 _; rw [e1]; exact h.1
    · exact Bs.lt h.2 hm
theorem Held.setRow {W0 W : World} {fs : List (Nat × Nat × Value)} {b : Nat} (h : Held W0 W fs) (hB : Bs W0.heap.size fs) (hb : W0.heap.size ≤ b) (cs : Array Value) : Held W0 (W.setRow b cs) fs :=
  ⟨h.1.keep hB fun b' o hlt => World.cell?_of_block (setRow_other W b b' cs (by omega)), by rw [show (W.setRow b cs).heap.size = W.heap.size from by simp [World.setRow]]; exact h.2.1,
    h.2.2.trans ⟨rfl, rfl, rfl, by simp [World.setRow], fun k hk => setRow_other W b k cs (by omega)⟩⟩
theorem Held.after {w W0 W : World} {fs gs : List (Nat × Nat × Value)} (h0 : Held w W0 gs) (h : Held W0 W fs) : Held w W fs := ⟨h.1, h.2.1, h0.2.2.trans (h.2.2.mono h0.2.2.size)⟩
theorem Held.joined {w W0 W : World} {fs gs : List (Nat × Nat × Value)} {b : Nat} {x y : Value} {T : TypeId} (h0 : Held w W0 gs) (h : Held W0 W fs) (hc : W.heap[b]? = some (.cells #[x, y] T (0, 0))) : Held w W ((b, 0, x) :: (b, 1, y) :: fs) :=
  ⟨⟨by rw [cell_of_cells hc]; rfl, by rw [cell_of_cells hc]; rfl, h.1⟩, ⟨lt_of_block hc, lt_of_block hc, h.2.1⟩, (h0.after h).2.2⟩

theorem effR_store {ρ : Operand → Value} {o : Oper} {ty : TypeId} {x y : Operand} (ho : o.op = .store ty x y) {W0 W : World} {T : TypeId} {v : Value} {cells : Array Value} {fs : List (Nat × Nat × Value)} (hx : ρ x = v) (hy : ρ y = .agg cells)
    (hH : Held W0 W fs) (hB : Bs W0.heap.size fs) (hn : NewB W0 T cells.size v W) (hi : (P.info? ty).map (·.size) = some cells.size) (h1 : cells.all (·.oneCell') = true) :
    EffR undef (fun W => Held W0 W fs ∧ NewB W0 T cells.size v W) (fun W => FullB W0 T cells v W) ((execOp ρ o).run P W) := by
  obtain ⟨b, cs, rfl, hb, hc, hs⟩ := hn
  unfold execOp
  simp only [ho, hx, hy, Instr.storeAt, Instr.sureAddr, Sem.run_bind, Sem.run_pure, Result.andThen_ok, run_storeVar_row W b T ty cs cells hc hi hs h1]
  exact ⟨rfl, ⟨hH.setRow hB hb _, b, _, rfl, hb, setRow_heap W b cs cells T _ hc, rfl⟩, b, rfl, hb, setRow_heap W b cs cells T _ hc⟩
theorem storeV {l rest : List Oper} {i : Nat} {oi : Oper} {fuel : Nat} {listed : Array Bool} {a : Act} {W0 : World} {T : TypeId} {v1 : Value} {fs : List (Nat × Nat × Value)} {ty : TypeId} {x y : Operand} {n : Nat} (cells : Array Value)
    (hi : l.drop i = oi :: rest) (hr : Region.ready md l.toArray listed = [i]) (hw : Region.wanted oi (yielded l.toArray a.tmps) = true) (ho : oi.op = .store ty x y) (hx : a.eval x = v1) (hy : a.eval y = .agg cells)
    (hB : Bs W0.heap.size fs) (hn : cells.size = n) (hinfo : (P.info? ty).map (·.size) = some cells.size) (h1 : cells.all (·.oneCell') = true)
    (h : wpAnyW P md l.toArray Q fuel (listed.setIfInBounds i true) (a.put oi.dst undef) (fun W => (Held W0 W fs ∧ NewB W0 T n v1 W) ∧ FullB W0 T cells v1 W)) :
    wpAnyW P md l.toArray Q (fuel + 1) listed a (fun W => Held W0 W fs ∧ NewB W0 T n v1 W) := by
  subst hn
  exact effW (fun W => FullB W0 T cells v1 W) (Stable.and (Stable.held _ _) (stable_newB _ _ _ _)) (stable_fullB _ _ _ _) hi hr hw (fun W hS => effR_store ho hx hy hS.1 hB hS.2 hinfo h1) h
end
end Go.Proofs.Ytfppnaknnijobab
