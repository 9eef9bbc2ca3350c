/-
  Appending a list of pairs to an empty slice; the last operation of a region, which stores into a block that was there.
-/
import Derived.Test.YtfppnaknnijobabRow
import Derived.Test.YtfppnaknnijobabDetV
import Derived.Test.YtfppnaknnijobabLawN
namespace Go.Proofs.Ytfppnaknnijobab
open Go.RowKit
set_option linter.unusedVariables false
set_option linter.unusedSimpArgs false

/-- An empty slice in a block of its own from B on. -/
def NewE (B : Nat) (T : TypeId) (v : Value) (W : World) : Prop := ∃ b, v = .slice (some ⟨b, 0, none⟩) 0 0 ∧ B ≤ b ∧ W.heap[b]? = some (.cells #[] T (0, 0))
theorem stable_newE (B : Nat) (T : TypeId) (v : Value) : Stable fun W => NewE B T v W := fun _ _ ⟨b, h1, h2, h3⟩ hb => ⟨b, h1, h2, (hb.block b (lt_of_block h3)).trans h3⟩
theorem stable_own (B : Nat) (T : TypeId) (v : Value) (xs : List Nd) : Stable fun W => Own W B T v xs := fun _ _ h hb => h.step hb

section
variable {P : Program}
theorem run_append_empty {w : World} {B g : Nat} {t ty e : TypeId} {i : TypeInfo} {z v : Value} {xs : List Nd} (ht : P.underlying t = some (.slice e)) (hi : P.info? e = some i) (hz : i.zero = some z)
    (hsize : i.size = 2) (hby : i.bytes = 16) (hzs : z.cells.size = 2) (hg : w.heap[g]? = some (.cells #[] e (0, 0))) (hB : B ≤ g) (hv : Prs w v xs) (hlen : xs.length ≤ 1048576) :
    ∃ v' w', (Builtin.append_ #[t, t] ty #[.slice (some ⟨g, 0, none⟩) 0 0, v]).run P w = .ok v' w' ∧ Own w' B e v' xs ∧ Below w.heap.size w w' := by
  have hgl := lt_of_block hg
  have hown : w.ownsRow B e 2 (.slice (some ⟨g, 0, none⟩) 0 0) 0 [] := ⟨by simp, .inr ⟨g, 0, #[], rfl, hB, hg, Nat.le_refl _, Nat.zero_le _, rfl, rfl⟩⟩
  have HV := hv
  obtain ⟨A, c, rfl, hl, hc, hx⟩ := hv
  by_cases h0 : xs.length = 0
  · obtain rfl : xs = [] := List.eq_nil_of_length_eq_zero h0
    cases A with
    | none =>
      refine ⟨_, w, ?_, hown, Below.refl _ _⟩
      simp [Builtin.append_, run_underlying ht, sizeOf, typeInfo, hi, Builtin.lenOf, Builtin.firstCells, storeCells]
    | some a =>
      have hr := run_append_room (P := P) w t ty e i ht hi g 0 0 #[] hg a 0 c [] (by simp) (fun j u h => by simp at h) (fun u h => by simp at h) (Nat.le_refl _) (by simp)
      simp only [Nat.zero_mul, Nat.add_zero] at hr
      refine ⟨_, _, hr, ?_, ⟨rfl, rfl, rfl, by simp [World.setRow], fun k hk => ?_⟩⟩
      · exact ⟨by simp [cellsP], .inr ⟨g, 0, _, rfl, hB, setRow_heap w g #[] _ e _ hg, Nat.le_refl _, Nat.zero_le _, rfl, by simp [cellsP]⟩⟩
      · by_cases hkg : k = g
        · subst hkg; rw [setRow_heap w k #[] _ e _ hg, hg]; rfl
        · exact setRow_other w g k _ hkg
  · obtain ⟨b, o, rfl, hbl, hcs⟩ := hx (by omega)
    have hn := prs_news HV (by omega)
    have hr := run_append_grow (P := P) w t ty e i z ht hi hz ⟨g, 0, none⟩ 0 0 [] (by simp) (fun j u h => by simp at h) ⟨b, o, none⟩ xs.length c (cellsP xs) (by rw [cellsP_len, hsize]) hn (by omega) (by omega)
      (by rw [Nat.zero_add, nextslicecap_zero (by omega), hby]; omega)
    refine ⟨_, _, hr, ?_, (Below.refl _ _).drew.alloc (by simp) _⟩
    have hge := grownCap_ge w (0 + xs.length) 0 e
    have hcm := grownCap_le_maxLen w (0 + xs.length) 0 e (by unfold maxLen; omega)
    unfold Own
    refine ⟨cellsP_len _, .inr ⟨w.heap.size, _, _, by rw [Nat.zero_add], by omega, heap_alloc_new w.drew _, ?_, ?_, ?_, ?_⟩⟩
    · simpa using hge
    · simpa using hcm
    · simp only [Array.size_append, List.size_toArray, size_zeroCells, hzs, List.length_nil, cellsP_len, Nat.zero_add] at hge ⊢
      omega
    · rw [← cellsP_len]
      simp
theorem wpList_append_run {ops : Array Oper} {rest : List Oper} {o : Oper} {a : Act} {w : World} {Q : Exit → Act → World → Prop} (hgd : o.guard = none) (s x : Operand) (t : TypeId)
    (ho : o.op = .call { callee := .builtin .append, args := #[s, x], argTypes := #[t, t] }) (v' : Value) (w' : World) (hr : (Builtin.append_ #[t, t] o.type #[a.eval s, a.eval x]).run P w = .ok v' w')
    (h : wpList P ops Q rest (a.put o.dst v') w') : wpList P ops Q (o :: rest) a w :=
  wpList_plain hgd fun _ hK => by
    unfold Oper.wp execOp
    simp only [ho, resolve, invoke, builtin, Sem.run_bind, Sem.run_pure, Result.andThen_ok, List.map_toArray, List.map_cons, List.map_nil, hr]
    exact hK _ _ h
theorem freeR_append {ρ : Operand → Value} {o : Oper} {w : World} {s x : Operand} {t : TypeId} {B : Nat} {e : TypeId} {i : TypeInfo} {z u v : Value} {xs : List Nd} (hu : NewE B e u w) (hv : Prs w v xs) (hlen : xs.length ≤ 1048576)
    (ht : P.underlying t = some (.slice e)) (hi : P.info? e = some i) (hz : i.zero = some z) (hsize : i.size = 2) (hby : i.bytes = 16) (hzs : z.cells.size = 2)
    (ho : o.op = .call { callee := .builtin .append, args := #[s, x], argTypes := #[t, t] }) (hs : ρ s = u) (hx : ρ x = v) : FreeR P (fun u W => Own W B e u xs) w ((execOp ρ o).run P w) := by
  obtain ⟨b, rfl, hB, hg⟩ := hu
  obtain ⟨v', w', hr, h1, h2⟩ := run_append_empty (ty := o.type) ht hi hz hsize hby hzs hg hB hv hlen
  unfold execOp
  simp only [ho, resolve, invoke, builtin, Sem.run_bind, Sem.run_pure, Result.andThen_ok, List.map_toArray, List.map_cons, List.map_nil, hs, hx, hr]
  exact ⟨h1, h2⟩
theorem freeR_newE {w : World} {B : Nat} {T : TypeId} {r : Result Next} (h : r = .ok (.value (.slice (some ⟨w.heap.size, 0, none⟩) 0 0)) (w.alloc (.cells #[] T))) (hB : B ≤ w.heap.size) : FreeR P (NewE B T) w r := by
  subst h
  exact ⟨⟨_, rfl, hB, heap_alloc_new w _⟩, (Below.refl _ _).alloc (Nat.le_refl _) _⟩
end

/-- Block b holds n cells of type T. -/
def BlkN (b : Nat) (T : TypeId) (n : Nat) (W : World) : Prop := ∃ cs, W.heap[b]? = some (.cells cs T (0, 0)) ∧ cs.size = n
def BlkIs (b : Nat) (T : TypeId) (cells : Array Value) (W : World) : Prop := W.heap[b]? = some (.cells cells T (0, 0))
theorem stable_blkN (b : Nat) (T : TypeId) (n : Nat) : Stable fun W => BlkN b T n W := fun _ _ ⟨cs, h1, h2⟩ hb => ⟨cs, (hb.block b (lt_of_block h1)).trans h1, h2⟩
theorem stable_blkIs (b : Nat) (T : TypeId) (cells : Array Value) : Stable fun W => BlkIs b T cells W := fun _ _ h hb => (hb.block b (lt_of_block h)).trans h
theorem Own.setRow {W : World} {B b n : Nat} {T U : TypeId} {v : Value} {xs : List Nd} (h : Own W B T v xs) (hb : BlkN b U n W) (hne : T ≠ U) (cs : Array Value) : Own (W.setRow b cs) B T v xs := by
  refine h.keep fun k hk => setRow_other W b k cs fun e => ?_
  rcases h.2 with ⟨hv, _⟩ | ⟨g, cap, cur, hv, _, hg, _⟩
  · rw [hv] at hk; cases hk
  · rw [hv] at hk
    injection hk with hk
    obtain ⟨cs', hc, _⟩ := hb
    have e' : g = b := hk.trans e
    rw [e'] at hg
    rw [hg] at hc
    injection hc with hc
    injection hc with _ hc _
    exact hne hc
/-- Two slices of different element types lie in different blocks. -/
theorem Own.apart {W : World} {B B' : Nat} {T U : TypeId} {v u : Value} {xs ys : List Nd} (h : Own W B T v xs) (k : Own W B' U u ys) (hne : T ≠ U) : ∀ g, v.ownBlock = some g → u.ownBlock ≠ some g := by
  intro g hv hu
  rcases h.2 with ⟨rfl, _⟩ | ⟨b, cap, cur, rfl, _, hb, _⟩
  · cases hv
  · rcases k.2 with ⟨rfl, _⟩ | ⟨b', cap', cur', rfl, _, hb', _⟩
    · cases hu
    · injection hv with hv
      injection hu with hu
      have e : b = b' := hv.trans hu.symm
      rw [e, hb'] at hb
      injection hb with hb
      injection hb with _ hb _
      exact hne hb.symm
theorem Held.setRowAt {w W : World} {fs : List (Nat × Nat × Value)} {b : Nat} (h : Held w W fs) (hd : ∀ f ∈ fs, f.1 ≠ b) (hb : w.heap.size ≤ b) (cs : Array Value) : Held w (W.setRow b cs) fs := by
  refine ⟨?_, by rw [show (W.setRow b cs).heap.size = W.heap.size from by simp [World.setRow]]; exact h.2.1, h.2.2.trans ⟨rfl, rfl, rfl, by simp [World.setRow], fun k hk => setRow_other W b k cs (by omega)⟩⟩
  have hc := h.1
  clear h
  induction fs with
  | nil => trivial
  | cons f fs ih =>
    obtain ⟨b', o, v⟩ := f
    exact ⟨(World.cell?_of_block (setRow_other W b b' cs (hd _ (List.mem_cons_self ..)))).trans hc.1, ih (fun f hf => hd f (List.mem_cons_of_mem _ hf)) hc.2⟩

section
variable {P : Program} {Q : Exit → Act → World → Prop} {md : Region.Mode}
theorem storeK {l rest : List Oper} {i : Nat} {oi : Oper} {fuel : Nat} {listed : Array Bool} {a : Act} {b n : Nat} {T : TypeId} {G : World → Prop} {ty : TypeId} {x y : Operand} (cells : Array Value)
    (hst : Stable G) (hb : ∀ W, G W → BlkN b T n W) (hk : ∀ W, G W → G (W.setRow b cells))
    (hi : l.drop i = oi :: rest) (hr : Region.ready md l.toArray listed = [i]) (hw : Region.wanted oi (yielded l.toArray a.tmps) = true) (ho : oi.op = .store ty x y) (hx : a.eval x = .pointer (some ⟨b, 0, none⟩)) (hy : a.eval y = .agg cells)
    (hn : cells.size = n) (hinfo : (P.info? ty).map (·.size) = some cells.size) (h1 : cells.all (·.oneCell') = true)
    (h : wpAnyW P md l.toArray Q fuel (listed.setIfInBounds i true) (a.put oi.dst undef) (fun W => G W ∧ BlkIs b T cells W)) :
    wpAnyW P md l.toArray Q (fuel + 1) listed a G := by
  subst hn
  refine effW (v := undef) (fun W => BlkIs b T cells W) hst (stable_blkIs _ _ _) hi hr hw (fun W hG => ?_) h
  obtain ⟨cs, hc, hs⟩ := hb W hG
  unfold execOp
  simp only [ho, hx, hy, Instr.storeAt, Instr.sureAddr, Sem.run_bind, Sem.run_pure, Result.andThen_ok, run_storeVar_row W b T ty cs cells hc hinfo hs h1]
  exact ⟨rfl, hk W hG, setRow_heap W b cs cells T _ hc⟩
theorem BlkN.setRow {b n : Nat} {T : TypeId} {W : World} (h : BlkN b T n W) {cs : Array Value} (hn : cs.size = n) : BlkN b T n (W.setRow b cs) := by
  obtain ⟨c0, hc, _⟩ := h
  exact ⟨cs, setRow_heap W b c0 cs T _ hc, hn⟩
/-- Either of two operations may come up. -/
theorem freeOr {l : List Oper} {i j : Nat} {fuel : Nat} {listed : Array Bool} {a : Act} {G : World → Prop} (hr : Region.ready md l.toArray listed = [i, j])
    (hi : ∀ w, G w → wpOp P l.toArray Q i (fun a' w' => ∃ G' : World → Prop, Stable G' ∧ (∀ x, G' x → G x) ∧ G' w' ∧ wpAnyW P md l.toArray Q fuel (listed.setIfInBounds i true) a' G') a w)
    (hj : ∀ w, G w → wpOp P l.toArray Q j (fun a' w' => ∃ G' : World → Prop, Stable G' ∧ (∀ x, G' x → G x) ∧ G' w' ∧ wpAnyW P md l.toArray Q fuel (listed.setIfInBounds j true) a' G') a w) :
    wpAnyW P md l.toArray Q (fuel + 1) listed a G := by
  refine ⟨fun h0 => (by rw [hr] at h0; cases h0), fun k hk w hG => ?_⟩
  rw [hr] at hk
  rcases List.mem_cons.1 hk with rfl | hk
  · exact hi w hG
  · obtain rfl : k = j := by simpa using hk
    exact hj w hG
theorem freeOp {l rest : List Oper} {i : Nat} {oi : Oper} {fuel : Nat} {listed : Array Bool} {a : Act} {G : World → Prop} (R : Value → World → Prop) (hst : Stable G) (hR : ∀ v, Stable (R v)) (hi : l.drop i = oi :: rest)
    (hw : Region.wanted oi (yielded l.toArray a.tmps) = true) (hy : ∀ w, G w → FreeR P R w ((execOp a.eval oi).run P w))
    (h : ∀ v, (∃ W, R v W) → wpAnyW P md l.toArray Q fuel (listed.setIfInBounds i true) (a.put oi.dst v) (fun x => G x ∧ R v x)) :
    ∀ w, G w → wpOp P l.toArray Q i (fun a' w' => ∃ G' : World → Prop, Stable G' ∧ (∀ x, G' x → G x) ∧ G' w' ∧ wpAnyW P md l.toArray Q fuel (listed.setIfInBounds i true) a' G') a w := by
  intro w hG
  unfold wpOp
  simp only [get_of_drop hi, hw, if_true]
  refine .inl ?_
  unfold Oper.wp
  have hd := hy w hG
  generalize (execOp a.eval oi).run P w = r at *
  cases r with
  | ok n w' =>
    cases n <;> simp only [FreeR] at hd <;> simp only [Oper.upon]
    case value u => exact ⟨_, hst.and (hR u), fun _ hx => hx.1, ⟨hst _ _ hG hd.2, hd.1⟩, h u ⟨_, hd.1⟩⟩
    case enter f args => exact hd.mono fun e w'' he => by obtain ⟨u, rfl, h1, h2⟩ := he; exact ⟨_, hst.and (hR u), fun _ hx => hx.1, ⟨hst _ _ hG h2, h1⟩, h u ⟨_, h1⟩⟩
  | halt x w' => simp [FreeR] at hd
theorem freeX {l rest : List Oper} {i : Nat} {oi : Oper} {fuel : Nat} {listed : Array Bool} {a : Act} {G : World → Prop} (R : Value → World → Prop) (hst : Stable G) (hR : ∀ v, Stable (R v)) (hi : l.drop i = oi :: rest)
    (hr : Region.ready md l.toArray listed = [i]) (hw : Region.wanted oi (yielded l.toArray a.tmps) = true) (hy : ∀ w, G w → FreeR P R w ((execOp a.eval oi).run P w))
    (h : ∀ v, (∃ W, R v W) → wpAnyW P md l.toArray Q fuel (listed.setIfInBounds i true) (a.put oi.dst v) (fun x => G x ∧ R v x)) : wpAnyW P md l.toArray Q (fuel + 1) listed a G := by
  refine ⟨fun h0 => (by rw [hr] at h0; cases h0), fun j hj w hG => ?_⟩
  rw [hr] at hj
  obtain rfl : j = i := by simpa using hj
  exact freeOp R hst hR hi hw hy h w hG
end
end Go.Proofs.Ytfppnaknnijobab
