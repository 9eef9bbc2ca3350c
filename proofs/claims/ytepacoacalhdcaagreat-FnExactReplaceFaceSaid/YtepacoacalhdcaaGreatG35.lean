/-
  Several texts in one: a claim has at most 60 files.
-/
import Derived.Conc.LoneCalls
import Derived.WalkKit
import Derived.WalkMore
import Derived.Conc.LoneSelect
import Derived.Test.YtepacoacalhdcaaGreatG1
import Derived.Test.YtepacoacalhdcaaGreatG37
import Derived.Test.YtepacoacalhdcaaGreatRowsP
import Derived.Conc.SmallLaws
import Derived.Conc.EventLaws

namespace Go.Proofs.YtepacoacalhdcaaGreat
open Go.RowKit Go.Conc
set_option linter.unusedVariables false
set_option linter.unusedSimpArgs false

/-- From here on, the region's operations l still to come, all comes to Q. -/
def wpS (P : Program) (ops : Array Oper) (Q : Exit → Act → World → Prop) (l : List Nat) (a : Act) (w : World) : Prop :=
  ∀ (b : Frame) (k : List Item) (cs : List Frame), ∃ e a' w', Q e a' w' ∧ Arrives P (lone (b.at a (.inRegion ops l :: k)) cs w) b k cs e a' w'

section

variable {P : Program} {ops : Array Oper} {Q : Exit → Act → World → Prop} {a : Act} {w : World} {i : Nat} {rest : List Nat} {o : Oper}

theorem wp_region_S {id : Nat} (h : wpS P ops Q (List.range ops.size) a w) : (Code.region id ops false).wp P Q a w :=
  fun b k cs => let ⟨e, a', w', q, r⟩ := h b k cs; ⟨e, a', w', q, .of_steps (.one step_region) r⟩

theorem wpS_list (l : List Oper) (n : Nat) (hl : ∀ j, l[j]? = ops[n + j]?) (h : wpList P ops Q l a w) : wpS P ops Q (List.range' n l.length) a w :=
  fun b k cs => wp_ops _ a w (by rw [wpOps_eq_wpList l n hl]; exact h) b k cs

theorem wpS_value (ho : ops[i]? = some o) (hg : o.guard = none) {v : Value} {w' : World} (hr : (execOp a.eval o).run P w = .ok (.value v) w') (h : wpS P ops Q rest (a.put o.dst v) w') : wpS P ops Q (i :: rest) a w := by
  intro b k cs
  obtain ⟨e, a', w'', hq, harr⟩ := h b k cs
  have hw : Region.wanted o (yielded ops a.tmps) = true := by simp [Region.wanted, hg]
  refine ⟨e, a', w'', hq, .of_steps (.one (step_lone_go ?_)) harr⟩
  have hfin : (b.at a (.inRegion ops (i :: rest) :: k)).finish v = b.at (a.put o.dst v) (.inRegion ops rest :: k) := by rw [Frame.finish_at, ho]; rfl
  rw [stepG_op ho hw, ← hfin]
  simp [stepG.apply, hr]

theorem stepG_comm_any {b : Frame} {k : List Item} {cs : List Frame} {cases : Array CommCase} {blocking : Bool} {shape : CommShape} {w' : World} (ho : ops[i]? = some o) (hg : o.guard = none) (hr : (execOp a.eval o).run P w = .ok (.comm cases blocking shape) w') :
    ∃ es, stepG P true (G (b.at a (.inRegion ops (i :: rest) :: k)) cs) w = .comm (G (b.at a (.inRegion ops (i :: rest) :: k)) cs) cases blocking shape w' es := by
  have hw : Region.wanted o (yielded ops a.tmps) = true := by simp [Region.wanted, hg]
  rw [stepG_oper ho hw]
  simp [stepG.apply, hr, G, Frame.at, GStep.after]

/-- A send into a buffer with room. -/
theorem wpS_send (ho : ops[i]? = some o) (hg : o.guard = none) {c cap s r : Nat} {buf : Array Value} {v z : Value} {tm : Bool} (hr : (execOp a.eval o).run P w = .ok (.comm #[scase c v z] true .send) w)
    (hc : w.heap[c]? = some (.chan cap buf false s r tm)) (hroom : buf.size < cap) (h : wpS P ops Q rest (a.put o.dst undef) (w.setChan c cap (buf.push v) false (s + 1) r tm)) : wpS P ops Q (i :: rest) a w := by
  intro b k cs
  obtain ⟨e, a', w'', hq, harr⟩ := h b k cs
  obtain ⟨es, hst⟩ := stepG_comm_any (b := b) (k := k) (cs := cs) (rest := rest) ho hg hr
  have hfin : (b.at a (.inRegion ops (i :: rest) :: k)).finish undef = b.at (a.put o.dst undef) (.inRegion ops rest :: k) := by rw [Frame.finish_at, ho]; rfl
  have hs := step_lone_send_room hst hc hroom
  rw [hfin] at hs
  exact ⟨e, a', w'', hq, .of_steps (.one hs) harr⟩

/-- A receive with comma-ok from a buffer that holds something. -/
theorem wpS_recv (ok : Bool) (ho : ops[i]? = some o) (hg : o.guard = none) {c cap s r : Nat} {buf : Array Value} {z : Value} {tm closed : Bool} (hr : (execOp a.eval o).run P w = .ok (.comm #[rcase c z] true (.recv ok)) w)
    (hc : w.heap[c]? = some (.chan cap buf closed s r tm)) (hsome : 0 < buf.size) (h : wpS P ops Q rest (a.put o.dst (got ok (buf.getD 0 undef) true)) (w.setChan c cap (buf.extract 1 buf.size) closed s (r + 1) tm)) : wpS P ops Q (i :: rest) a w := by
  intro b k cs
  obtain ⟨e, a', w'', hq, harr⟩ := h b k cs
  obtain ⟨es, hst⟩ := stepG_comm_any (b := b) (k := k) (cs := cs) (rest := rest) ho hg hr
  have hs := step_lone_recv_buf ok hst hc hsome
  rw [Frame.finish_at, ho] at hs
  exact ⟨e, a', w'', hq, .of_steps (.one hs) harr⟩

/-- A receive from a closed channel whose buffer is empty. -/
theorem wpS_shut (ok : Bool) (ho : ops[i]? = some o) (hg : o.guard = none) {c cap s r : Nat} {z : Value} {tm : Bool} (hr : (execOp a.eval o).run P w = .ok (.comm #[rcase c z] true (.recv ok)) w)
    (hc : w.heap[c]? = some (.chan cap #[] true s r tm)) (h : wpS P ops Q rest (a.put o.dst (got ok z false)) w) : wpS P ops Q (i :: rest) a w := by
  intro b k cs
  obtain ⟨e, a', w'', hq, harr⟩ := h b k cs
  obtain ⟨es, hst⟩ := stepG_comm_any (b := b) (k := k) (cs := cs) (rest := rest) ho hg hr
  have hs := step_lone_recv_shut ok hst hc
  rw [Frame.finish_at, ho] at hs
  exact ⟨e, a', w'', hq, .of_steps (.one hs) harr⟩

end
end Go.Proofs.YtepacoacalhdcaaGreat

namespace Go.Proofs.YtepacoacalhdcaaGreat
open Go.RowKit Go.Conc
set_option linter.unusedVariables false
set_option linter.unusedSimpArgs false

section

variable {P : Program} {ops : Array Oper} {Q : Exit → Act → World → Prop} {a : Act} {w : World} {i : Nat} {rest : List Nat} {o : Oper}

/-- The receive is ready: the buffer holds something. -/
theorem wpS_sel_recv (ho : ops[i]? = some o) (hg : o.guard = none) {c cap s r : Nat} {buf : Array Value} {z : Value} {tm closed : Bool} (hr : (execOp a.eval o).run P w = .ok (.comm #[rcase c z] false .select) w)
    (hc : w.heap[c]? = some (.chan cap buf closed s r tm)) (hsome : 0 < buf.size) (h : wpS P ops Q rest (a.put o.dst (.tuple #[goInt 0, .bool true, buf.getD 0 undef])) (w.setChan c cap (buf.extract 1 buf.size) closed s (r + 1) tm)) : wpS P ops Q (i :: rest) a w := by
  intro b k cs
  obtain ⟨e, a', w'', hq, harr⟩ := h b k cs
  obtain ⟨es, hst⟩ := stepG_comm_any (b := b) (k := k) (cs := cs) (rest := rest) ho hg hr
  have hs := step_lone_select_recv_buf hst hc hsome
  rw [Frame.finish_at, ho] at hs
  exact ⟨e, a', w'', hq, .of_steps (.one hs) harr⟩

/-- The channel is open and empty: the default. -/
theorem wpS_sel_none (ho : ops[i]? = some o) (hg : o.guard = none) {c cap s r : Nat} {z : Value} {tm : Bool} (hr : (execOp a.eval o).run P w = .ok (.comm #[rcase c z] false .select) w)
    (hc : w.heap[c]? = some (.chan cap #[] false s r tm)) (h : wpS P ops Q rest (a.put o.dst (.tuple #[goInt (-1), .bool false, z])) w) : wpS P ops Q (i :: rest) a w := by
  intro b k cs
  obtain ⟨e, a', w'', hq, harr⟩ := h b k cs
  obtain ⟨es, hst⟩ := stepG_comm_any (b := b) (k := k) (cs := cs) (rest := rest) ho hg hr
  have hs := step_lone_select_default hst hc
  rw [Frame.finish_at, ho] at hs
  exact ⟨e, a', w'', hq, .of_steps (.one hs) harr⟩

end
end Go.Proofs.YtepacoacalhdcaaGreat

namespace Go.Proofs.YtepacoacalhdcaaGreat
open Go.RowKit Go.Conc
set_option linter.unusedVariables false
set_option linter.unusedSimpArgs false

/-- The channel b holds T. -/
def CQ (W : World) (b cap : Nat) (T : List Int) (cl : Bool) : Prop := ∃ s r, W.heap[b]? = some (.chan cap (T.map fun x => Value.int .i64 x).toArray cl s r false)

section

variable {W W' : World} {b cap B : Nat} {T : List Int} {cl : Bool}

theorem CQ.lt (h : CQ W b cap T cl) : b < W.heap.size := by
  obtain ⟨s, r, h⟩ := h
  exact (Array.getElem?_eq_some_iff.1 h).1

theorem CQ.step (h : CQ W b cap T cl) (hb : Below W.heap.size W W') : CQ W' b cap T cl := by
  obtain ⟨s, r, h1⟩ := h
  exact ⟨s, r, (hb.block b (Array.getElem?_eq_some_iff.1 h1).1).trans h1⟩

theorem CQ.put (h : CQ W b cap T cl) {g j : Nat} (hne : b ≠ g) (x : Value) : CQ (W.setCell ⟨g, j, none⟩ x) b cap T cl := by
  obtain ⟨s, r, h1⟩ := h
  exact ⟨s, r, (Below.heap_setCell _ _ _ _ hne).trans h1⟩

theorem CQ.far (h : CQ W b cap T cl) {v : Value} {xs : List Int} (hi : Ints W B v xs) {p : Nat} (e : v.ownBlock = some p) : p ≠ b := by
  rintro rfl
  obtain ⟨s, r, h1⟩ := h
  obtain ⟨cur, hc⟩ := hi.typed e
  rw [h1] at hc
  cases hc

theorem CQ.grown {row : Option Nat} (h : CQ W b cap T cl) (hg : W.grownBy W' row) (hr : row ≠ some b) : CQ W' b cap T cl := by
  obtain ⟨s, r, h1⟩ := h
  exact ⟨s, r, (hg.block b (Array.getElem?_eq_some_iff.1 h1).1 fun e => hr e.symm).trans h1⟩

end

theorem wpS_rest {P : Program} {ops : Array Oper} {Q : Exit → Act → World → Prop} {a : Act} {w : World} (n : Nat) (h : wpList P ops Q (ops.toList.drop n) a w) : wpS P ops Q (List.range' n (ops.toList.drop n).length) a w :=
  wpS_list _ n (fun j => by simp [List.getElem?_drop]) h

theorem ext_one {α : Type} (x : α) (L : List α) : ((x :: L).toArray.extract 1 (x :: L).toArray.size) = L.toArray := by
  apply Array.toList_inj.1
  simp [List.extract_eq_take_drop]

theorem Turn.setChan {c cap s r : Nat} {buf : Array Value} {cl tm : Bool} (W : World) : Turn c (c + 1) W (W.setChan c cap buf cl s r tm) :=
  ⟨rfl, rfl, rfl, by rw [size_setChan]; exact Nat.le_refl _, fun i hi h => by simp only [World.setChan]; rw [Array.getElem?_setIfInBounds_ne (by omega)]⟩

theorem rowIs_setChan {W : World} {c cap s r b n : Nat} {buf : Array Value} {cl tm : Bool} {T : TypeId} {f : Nat → Value} (h : W.rowIs b T n f) (hne : b ≠ c) : (W.setChan c cap buf cl s r tm).rowIs b T n f :=
  h.of_block (by simp only [World.setChan]; rw [Array.getElem?_setIfInBounds_ne (by omega)])
end Go.Proofs.YtepacoacalhdcaaGreat
