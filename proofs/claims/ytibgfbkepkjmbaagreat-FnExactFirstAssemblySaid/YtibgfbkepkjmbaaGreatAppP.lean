/-
  One pair more on a slice of pairs: the slice stays in its block, or moves to the heap's end; the elder slice stays as it was.
-/
import Derived.Test.YtibgfbkepkjmbaaGreatCopy
import Derived.Laws.AppendOwn
import Derived.Laws.OwnMore
namespace Go.Proofs.YtibgfbkepkjmbaaGreat
open Go.RowKit
set_option linter.unusedVariables false
set_option linter.unusedSimpArgs false

section

variable {P : Program}

theorem app_keep {w : World} {B : Nat} {t ty e : TypeId} {i : TypeInfo} {z v : Value} {xs : List Nd} (ht : P.underlying t = some (.slice e)) (hi : P.info? e = some i) (hz : i.zero = some z) (hsize : i.size = 2) (hby : i.bytes = 16) (hzs : z.cells.size = 2)
    (hown : Own w B e v xs) {ad : Addr} {c : Nat} {x : Nd} (hx : ∀ j u, (cellsP [x])[j]? = some u → w.cell? (ad.add j) = some u) (hn : xs.length ≤ 1048576) (hB : B ≤ w.heap.size) :
    ∃ v' w', (Builtin.append_ #[t, t] ty #[v, .slice (some ad) 1 c]).run P w = .ok v' w' ∧ Own w' B e v' (xs ++ [x]) ∧ Own w' B e v xs ∧ w.grownBy w' v.ownBlock ∧ (v'.ownBlock = v.ownBlock ∨ v'.ownBlock = some w.heap.size) := by
  obtain ⟨v', w', hr, h2, h3, -⟩ := run_append_own (P := P) w B t ty e i z 2 16 ht hi hz hsize hby hzs (by decide) v xs.length (cellsP xs) hown ad 1 c (cellsP [x]) rfl hx (cellsP_one _) (by unfold maxLen; omega) (by omega) hB
  have h2' : Own w' B e v' (xs ++ [x]) := Own.more (ys := [x]) h2
  refine ⟨v', w', hr, h2', ?_, h3, ?_⟩
  · rcases hown.2 with ⟨rfl, h0⟩ | ⟨g, cap, cur, hv, hBg, hg, hc, hm, hs, htk⟩
    · exact ⟨hown.1, .inl ⟨rfl, h0⟩⟩
    · subst hv
      by_cases hroom : xs.length + 1 ≤ cap
      · have := run_append_room (P := P) (w := w) t ty e i ht hi g xs.length cap cur hg ad 1 c (cellsP [x]) (by rw [hsize]; rfl) hx (cellsP_one _) hroom (by rw [hsize]; simp [cellsP]; omega)
        rw [hr] at this
        injection this with e1 _
        rcases h2.2 with ⟨hv, _⟩ | ⟨g', cap', cur', hv, hBg', hg', hc', hm', hs', htk'⟩
        · rw [hv] at e1; cases e1
        · rw [hv] at e1
          injection e1 with e1 _ e3
          injection e1 with e1
          injection e1 with e1
          subst e1; subst e3
          refine ⟨hown.1, .inr ⟨g', cap', cur', rfl, hBg', hg', by omega, hm', hs', ?_⟩⟩
          have := congrArg (fun l => l.take (xs.length * 2)) htk'
          simp only [List.take_take] at this
          rw [Nat.min_eq_left (by omega), List.take_append_of_le_length (by rw [cellsP_len]; exact Nat.le_refl _), List.take_of_length_le (l := cellsP xs) (by rw [cellsP_len]; exact Nat.le_refl _)] at this
          exact this
      · have := run_append_grow (P := P) w t ty e i z ht hi hz ⟨g, 0, none⟩ xs.length cap (cellsP xs) (by rw [hsize]; exact hown.1) (World.ownsRow.cells hown (g := g) rfl) ad 1 c (cellsP [x]) (by rw [hsize]; rfl) hx (by omega) (by omega)
          (growslice_fits (by omega) (by rw [hby]; omega))
        rw [hr] at this
        injection this with _ e2
        subst e2
        exact World.ownsRow.alloc (World.ownsRow.drew hown) _
  · rcases hown.2 with ⟨rfl, h0⟩ | ⟨g, cap, cur, hv, hBg, hg, hc, hm, hs, htk⟩
    · have := run_append_nil (P := P) w t ty e i z ht hi hz ad 1 c (cellsP [x]) (by rw [hsize]; rfl) hx (by omega) (by omega) (by rw [hby]; omega)
      rw [hr] at this
      injection this with e1 _
      subst e1
      exact .inr rfl
    · subst hv
      by_cases hroom : xs.length + 1 ≤ cap
      · have := run_append_room (P := P) (w := w) t ty e i ht hi g xs.length cap cur hg ad 1 c (cellsP [x]) (by rw [hsize]; rfl) hx (cellsP_one _) hroom (by rw [hsize]; simp [cellsP]; omega)
        rw [hr] at this
        injection this with e1 _
        subst e1
        exact .inl rfl
      · have := run_append_grow (P := P) w t ty e i z ht hi hz ⟨g, 0, none⟩ xs.length cap (cellsP xs) (by rw [hsize]; exact hown.1) (World.ownsRow.cells hown (g := g) rfl) ad 1 c (cellsP [x]) (by rw [hsize]; rfl) hx (by omega) (by omega)
          (growslice_fits (by omega) (by rw [hby]; omega))
        rw [hr] at this
        injection this with e1 _
        subst e1
        exact .inr rfl

theorem wpList_append_pair {ops : Array Oper} {rest : List Oper} {o : Oper} {a : Act} {w : World} {Q : Exit → Act → World → Prop} (hgd : o.guard = none) (s x : Operand) (t : TypeId)
    (ho : o.op = .call { callee := .builtin .append, args := #[s, x], argTypes := #[t, t] }) {B : Nat} {e : TypeId} {i : TypeInfo} {z : Value} (ht : P.underlying t = some (.slice e)) (hi : P.info? e = some i) (hz : i.zero = some z) (hsize : i.size = 2) (hby : i.bytes = 16) (hzs : z.cells.size = 2)
    {v : Value} {xs : List Nd} (hown : Own w B e v xs) (hs : a.eval s = v) {ad : Addr} {c : Nat} {y : Nd} (hx : a.eval x = .slice (some ad) 1 c) (hy : ∀ j u, (cellsP [y])[j]? = some u → w.cell? (ad.add j) = some u) (hn : xs.length ≤ 1048576) (hB : B ≤ w.heap.size)
    (h : ∀ v' w', Own w' B e v' (xs ++ [y]) → w.grownBy w' v.ownBlock → (v'.ownBlock = v.ownBlock ∨ v'.ownBlock = some w.heap.size) → wpList P ops Q rest (a.put o.dst v') w') :
    wpList P ops Q (o :: rest) a w := by
  obtain ⟨v', w', hr, h2, _, h3, hf⟩ := app_keep (P := P) (ty := o.type) ht hi hz hsize hby hzs hown hy hn hB
  refine wpList_plain hgd fun _ hK => ?_
  unfold Oper.wp execOp
  simp only [ho, resolve, invoke, builtin, Sem.run_bind, Sem.run_pure, Result.andThen_ok, List.map_toArray, List.map_cons, List.map_nil, hs, hx, hr]
  rw [hr]
  exact hK _ _ (h v' w' h2 h3 hf)

end

/-- Two cells of one block in view. -/
theorem pair_news {w : World} {b : Nat} {y : Nd} (h0 : w.cell? ⟨b, 0, none⟩ = some (.int .i64 y.x)) (h1 : w.cell? ⟨b, 1, none⟩ = some (.int .i64 y.y)) : ∀ j u, (cellsP [y])[j]? = some u → w.cell? ((⟨b, 0, none⟩ : Addr).add j) = some u := by
  intro j u h
  match j, h with
  | 0, h =>
    have e : (⟨b, 0, none⟩ : Addr).add 0 = ⟨b, 0, none⟩ := by unfold Addr.add; split <;> simp_all
    rw [e, h0]; simpa [cellsP] using h
  | 1, h =>
    have e : (⟨b, 0, none⟩ : Addr).add 1 = ⟨b, 1, none⟩ := by unfold Addr.add; split <;> simp_all
    rw [e, h1]; simpa [cellsP] using h
  | j + 2, h => simp [cellsP] at h

def Nrow (row : Option Nat) : List (Nat × Nat × Value) → Prop
  | [] => True
  | (b, _, _) :: fs => row ≠ some b ∧ Nrow row fs

theorem Cs.grown {W W' : World} {row : Option Nat} {n : Nat} (hn : n ≤ W.heap.size) (hg : W.grownBy W' row) : ∀ {fs : List (Nat × Nat × Value)}, Bs n fs → Nrow row fs → Cs W fs → Cs W' fs
  | [], _, _, _ => trivial
  | (b, _, _) :: _, hb, hr, hc => ⟨(World.cell?_of_block (hg.block b (Nat.lt_of_lt_of_le hb.1 hn) (fun e => hr.1 e.symm))).trans hc.1, Cs.grown hn hg hb.2 hr.2 hc.2⟩

/-- A row of the call's own grows; the cells in view lie elsewhere. -/
theorem Held.grown {w W W' : World} {fs : List (Nat × Nat × Value)} {row : Option Nat} (h : Held w W fs) (hg : W.grownBy W' row) (hr : Nrow row fs) (hB : ∀ k, row = some k → w.heap.size ≤ k) : Held w W' fs :=
  ⟨h.1.grown (Nat.le_refl _) hg h.2.1 hr, h.2.1.mono hg.size, h.2.2.trans ⟨hg.os, hg.tape, hg.output, hg.size, fun k hk => hg.block k (Nat.lt_of_lt_of_le hk h.2.2.size) (fun e => by have := hB k e.symm; omega)⟩⟩

def Nblk (b : Nat) : List (Nat × Nat × Value) → Prop
  | [] => True
  | (b', _, _) :: fs => b' ≠ b ∧ Nblk b fs

theorem Cs.setFar {W : World} {b o : Nat} {x : Value} : ∀ {fs : List (Nat × Nat × Value)}, Nblk b fs → Cs W fs → Cs (W.setCell ⟨b, o, none⟩ x) fs
  | [], _, _ => trivial
  | (b', o', _) :: _, hb, hc => ⟨(World.cell?_setCell_other W _ _ x (fun e => hb.1 (by injection e with e _ _; exact e.symm))).trans hc.1, Cs.setFar hb.2 hc.2⟩

theorem below_setCell {w W : World} {p : Addr} {x : Value} (h : Below w.heap.size w W) (hp : w.heap.size ≤ p.block) : Below w.heap.size w (W.setCell p x) :=
  Below.setCell h hp x

/-- The second cell of a pair in view is written. -/
theorem Held.put1 {w W : World} {fs : List (Nat × Nat × Value)} {b : Nat} {x y z : Value} (h : Held w W ((b, 0, x) :: (b, 1, y) :: fs)) (hn : Nblk b fs) (hb : w.heap.size ≤ b) : Held w (W.setCell ⟨b, 1, none⟩ z) ((b, 0, x) :: (b, 1, z) :: fs) :=
  ⟨⟨(World.cell?_setCell_other W _ _ z (fun e => by injection e with _ e _; cases e)).trans h.1.1, World.cell?_setCell_same W _ z h.1.2.1, h.1.2.2.setFar hn⟩, by rw [heap_setCell_size]; exact h.2.1, below_setCell h.2.2 hb⟩

/-- Both cells of a pair in view are written. -/
theorem Held.put2 {w W : World} {fs : List (Nat × Nat × Value)} {b : Nat} {x y x' z : Value} (h : Held w W ((b, 0, x) :: (b, 1, y) :: fs)) (hn : Nblk b fs) (hb : w.heap.size ≤ b) : Held w ((W.setCell ⟨b, 0, none⟩ x').setCell ⟨b, 1, none⟩ z) ((b, 0, x') :: (b, 1, z) :: fs) := by
  have h1 : Held w (W.setCell ⟨b, 0, none⟩ x') ((b, 0, x') :: (b, 1, y) :: fs) :=
    ⟨⟨World.cell?_setCell_same W _ x' h.1.1, (World.cell?_setCell_other W _ _ x' (fun e => by injection e with _ e _; cases e)).trans h.1.2.1, h.1.2.2.setFar hn⟩, by rw [heap_setCell_size]; exact h.2.1, below_setCell h.2.2 hb⟩
  exact h1.put1 hn hb

theorem Own.setFar {w : World} {B b o : Nat} {T : TypeId} {v x : Value} {xs : List Nd} (h : Own w B T v xs) (hb : v.ownBlock ≠ some b) : Own (w.setCell ⟨b, o, none⟩ x) B T v xs :=
  h.keep fun k hk => Below.heap_setCell w _ x k (fun e => hb (by rw [hk, e]))

theorem WinO.setFar {w : World} {B b o : Nat} {v1 v2 x : Value} {ns ls : List Nd} (h : WinO w B v1 v2 ns ls) (h1 : v1.ownBlock ≠ some b) (h2 : v2.ownBlock ≠ some b) : WinO (w.setCell ⟨b, o, none⟩ x) B v1 v2 ns ls := ⟨h.1.setFar h1, h.2.setFar h2⟩
end Go.Proofs.YtibgfbkepkjmbaaGreat
