/-
  The last operation of a region that draws, where it appends to a row made in the region itself; an append keeps the elder slice.
-/
import Derived.Test.YtfckgidilbjokacTrD
import Derived.Laws.AppendOwn
import Derived.Laws.OwnMore
namespace Go.Proofs.Ytfckgidilbjokac
open Go.RowKit
set_option linter.unusedVariables false
set_option linter.unusedSimpArgs false

section
variable {P : Program}
theorem app_keepT {w : World} {B : Nat} {t ty e : TypeId} {i : TypeInfo} {z v : Value} {xs : List Tr} (ht : P.underlying t = some (.slice e)) (hi : P.info? e = some i) (hz : i.zero = some z) (hsize : i.size = 3) (hby : i.bytes = 24) (hzs : z.cells.size = 3)
    (hown : Tps w B e v xs) {ad : Addr} {c : Nat} {x : Tr} (hx : ∀ j u, (flT [x])[j]? = some u → w.cell? (ad.add j) = some u) (hn : xs.length ≤ 1048576) (hB : B ≤ w.heap.size) :
    ∃ v' w', (Builtin.append_ #[t, t] ty #[v, .slice (some ad) 1 c]).run P w = .ok v' w' ∧ Tps w' B e v' (xs ++ [x]) ∧ Tps w' B e v xs ∧ w.grownBy w' v.ownBlock ∧ (v'.ownBlock = v.ownBlock ∨ v'.ownBlock = some w.heap.size) := by
  obtain ⟨v', w', hr, h2, h3, -⟩ := run_append_own (P := P) w B t ty e i z 3 24 ht hi hz hsize hby hzs (by decide) v xs.length (flT xs) hown ad 1 c (flT [x]) rfl hx (flT_one _) (by unfold maxLen; omega) (by omega) hB
  have h2' : Tps w' B e v' (xs ++ [x]) := Tps.more (u := x) (by simpa [flT] using h2)
  refine ⟨v', w', hr, h2', ?_, h3, ?_⟩
  · rcases hown.2 with ⟨rfl, h0⟩ | ⟨g, cap, cur, hv, hBg, hg, hc, hm, hs, htk⟩
    · exact ⟨hown.1, .inl ⟨rfl, h0⟩⟩
    · subst hv
      by_cases hroom : xs.length + 1 ≤ cap
      · have := run_append_room (P := P) (w := w) t ty e i ht hi g xs.length cap cur hg ad 1 c (flT [x]) (by rw [hsize]; rfl) hx (flT_one _) hroom (by rw [hsize]; simp [flT]; omega)
        rw [hr] at this
        injection this with e1 _
        rcases h2.2 with ⟨hv, _⟩ | ⟨g', cap', cur', hv, hBg', hg', hc', hm', hs', htk'⟩
        · rw [hv] at e1; cases e1
        · rw [hv] at e1
          injection e1 with e1 _ e3
          injection e1 with e1
          injection e1 with e1
          subst e1; subst e3
          refine ⟨hown.1, .inr ⟨g', cap', cur', rfl, hBg', hg', by omega, hm', hs', ?_⟩⟩
          have := congrArg (fun l => l.take (xs.length * 3)) htk'
          simp only [List.take_take] at this
          rw [Nat.min_eq_left (by omega), List.take_append_of_le_length (by rw [flT_len]; exact Nat.le_refl _), List.take_of_length_le (l := flT xs) (by rw [flT_len]; exact Nat.le_refl _)] at this
          exact this
      · have := run_append_grow (P := P) w t ty e i z ht hi hz ⟨g, 0, none⟩ xs.length cap (flT xs) (by rw [hsize]; exact hown.1) (World.ownsRow.cells hown (g := g) rfl) ad 1 c (flT [x]) (by rw [hsize]; rfl) hx (by omega) (by omega)
          (growslice_fits (by omega) (by rw [hby]; omega))
        rw [hr] at this
        injection this with _ e2
        subst e2
        exact World.ownsRow.alloc (World.ownsRow.drew hown) _
  · rcases hown.2 with ⟨rfl, h0⟩ | ⟨g, cap, cur, hv, hBg, hg, hc, hm, hs, htk⟩
    · have := run_append_nil (P := P) w t ty e i z ht hi hz ad 1 c (flT [x]) (by rw [hsize]; rfl) hx (by omega) (by omega) (by rw [hby]; omega)
      rw [hr] at this
      injection this with e1 _
      subst e1
      exact .inr rfl
    · subst hv
      by_cases hroom : xs.length + 1 ≤ cap
      · have := run_append_room (P := P) (w := w) t ty e i ht hi g xs.length cap cur hg ad 1 c (flT [x]) (by rw [hsize]; rfl) hx (flT_one _) hroom (by rw [hsize]; simp [flT]; omega)
        rw [hr] at this
        injection this with e1 _
        subst e1
        exact .inl rfl
      · have := run_append_grow (P := P) w t ty e i z ht hi hz ⟨g, 0, none⟩ xs.length cap (flT xs) (by rw [hsize]; exact hown.1) (World.ownsRow.cells hown (g := g) rfl) ad 1 c (flT [x]) (by rw [hsize]; rfl) hx (by omega) (by omega)
          (growslice_fits (by omega) (by rw [hby]; omega))
        rw [hr] at this
        injection this with e1 _
        subst e1
        exact .inr rfl
end
section
variable {P : Program} {Q : Exit → Act → World → Prop} {md : Region.Mode}
/-- Only number i may come up; it yields something (facts R), and what was known stays though elder blocks may turn. -/
theorem effX {l rest : List Oper} {i : Nat} {oi : Oper} {fuel : Nat} {listed : Array Bool} {a : Act} {G : World → Prop} (R : Value → World → Prop) (hst : Stable G) (hR : ∀ v, Stable (R v)) (hi : l.drop i = oi :: rest)
    (hr : Region.ready md l.toArray listed = [i]) (hw : Region.wanted oi (yielded l.toArray a.tmps) = true) (hy : ∀ w, G w → ∃ v w', (execOp a.eval oi).run P w = .ok (.value v) w' ∧ G w' ∧ R v w')
    (h : ∀ v, (∃ W, R v W) → wpAnyW P md l.toArray Q fuel (listed.setIfInBounds i true) (a.put oi.dst v) (fun x => G x ∧ R v x)) : wpAnyW P md l.toArray Q (fuel + 1) listed a G := by
  refine ⟨fun h0 => (by rw [hr] at h0; cases h0), fun j hj w hG => ?_⟩
  rw [hr] at hj
  obtain rfl : j = i := by simpa using hj
  unfold wpOp
  simp only [get_of_drop hi, hw, if_true]
  refine .inl ?_
  obtain ⟨v, w', hrun, h1, h2⟩ := hy w hG
  unfold Oper.wp
  rw [hrun]
  simp only [Oper.upon]
  exact ⟨_, hst.and (hR v), fun _ hx => hx.1, ⟨h1, h2⟩, h v ⟨_, h2⟩⟩
end
/-- A slice of one triple in a block of its own. -/
def LitT (B : Nat) (T : TypeId) (t : Tr) (v : Value) (W : World) : Prop := ∃ b, v = .slice (some ⟨b, 0, none⟩) 1 1 ∧ B ≤ b ∧ W.heap[b]? = some (.cells #[.int .i64 t.x, .int .i64 t.y, .int .i64 t.z] T (0, 0))
theorem stable_lit (B : Nat) (T : TypeId) (t : Tr) (v : Value) : Stable fun W => LitT B T t v W := fun _ _ ⟨b, h1, h2, h3⟩ hb => ⟨b, h1, h2, (hb.block b (lt_of_block h3)).trans h3⟩
theorem stable_tpsK (B : Nat) (T : TypeId) (v : Value) (xs : List Tr) : Stable fun W => Tps W B T v xs := fun _ _ h hb => h.step hb
section
variable {P : Program}
theorem freeR_lit {w : World} {B : Nat} {T : TypeId} {t : Tr} {r : Result Next} (h : r = .ok (.value (.slice (some ⟨w.heap.size, 0, none⟩) 1 1)) (w.alloc (.cells #[.int .i64 t.x, .int .i64 t.y, .int .i64 t.z] T))) (hB : B ≤ w.heap.size) : FreeR P (LitT B T t) w r := by
  subst h
  exact ⟨⟨_, rfl, hB, heap_alloc_new w _⟩, (Below.refl _ _).alloc (Nat.le_refl _) _⟩
theorem freeR_appendT {ρ : Operand → Value} {o : Oper} {w : World} {s x : Operand} {t : TypeId} {B : Nat} {e : TypeId} {i : TypeInfo} {z u v : Value} {xs : List Tr} (hu : NewE B e u w) (hv : Trs w v xs) (hlen : xs.length ≤ 1048576)
    (ht : P.underlying t = some (.slice e)) (hi : P.info? e = some i) (hz : i.zero = some z) (hsize : i.size = 3) (hby : i.bytes = 24) (hzs : z.cells.size = 3)
    (ho : o.op = .call { callee := .builtin .append, args := #[s, x], argTypes := #[t, t] }) (hs : ρ s = u) (hx : ρ x = v) : FreeR P (fun u W => Tps W B e u xs) w ((execOp ρ o).run P w) := by
  obtain ⟨b, rfl, hB, hg⟩ := hu
  obtain ⟨v', w', hr, h1, h2⟩ := run_append_emptyT (ty := o.type) ht hi hz hsize hby hzs hg hB hv hlen
  unfold execOp
  simp only [ho, resolve, invoke, builtin, Sem.run_bind, Sem.run_pure, Result.andThen_ok, List.map_toArray, List.map_cons, List.map_nil, hs, hx, hr]
  exact ⟨h1, h2⟩
/-- A triple from a block of its own is appended: all that was known stays, even if the two blocks are one. -/
theorem app_lit {ρ : Operand → Value} {o : Oper} {w : World} {s x : Operand} {t : TypeId} {B : Nat} {e : TypeId} {i : TypeInfo} {z u v : Value} {xs : List Tr} {c : Tr} (hu : Tps w B e u xs) (hv : LitT B e c v w) (hlen : xs.length ≤ 1048576)
    (ht : P.underlying t = some (.slice e)) (hi : P.info? e = some i) (hz : i.zero = some z) (hsize : i.size = 3) (hby : i.bytes = 24) (hzs : z.cells.size = 3)
    (ho : o.op = .call { callee := .builtin .append, args := #[s, x], argTypes := #[t, t] }) (hs : ρ s = u) (hx : ρ x = v) :
    ∃ v' w', (execOp ρ o).run P w = .ok (.value v') w' ∧ Tps w' B e v' (xs ++ [c]) ∧ Tps w' B e u xs ∧ LitT B e c v w' ∧ Below B w w' := by
  obtain ⟨b, rfl, hBb, hb⟩ := hv
  have hbl := lt_of_block hb
  have hnews : ∀ j q, (flT [c])[j]? = some q → w.cell? ((⟨b, 0, none⟩ : Addr).add j) = some q := by
    intro j q h
    rw [Addr.add_lit, Nat.zero_add, cell_of_cells hb]
    simpa [flT] using h
  obtain ⟨v', w', hr, h1, h2, h3, _⟩ := app_keepT (ty := o.type) (c := 1) ht hi hz hsize hby hzs hu hnews hlen (by omega)
  refine ⟨v', w', ?_, h1, h2, ⟨b, rfl, hBb, ?_⟩, (Below.refl B w).grown h3 (by omega) fun k e => (hu.own k e).1⟩
  · unfold execOp
    simp only [ho, resolve, invoke, builtin, Sem.run_bind, Sem.run_pure, Result.andThen_ok, List.map_toArray, List.map_cons, List.map_nil, hs, hx, hr]
  · by_cases hk : u.ownBlock = some b
    · rcases hu.2 with ⟨rfl, h0⟩ | ⟨g, cap, cur, rfl, hBg, hg, hc, hm, hs', htk⟩
      · cases hk
      · have hgb : g = b := by injection hk
        subst hgb
        rw [hb] at hg
        injection hg with hg
        injection hg with hg _ _
        subst hg
        have hcap : cap = 1 := by simp at hs'; omega
        subst hcap
        by_cases hroom : xs.length + 1 ≤ 1
        · have hx0 : xs = [] := List.eq_nil_of_length_eq_zero (by omega)
          subst hx0
          have := run_append_room (P := P) (w := w) t o.type e i ht hi g 0 1 _ hb ⟨g, 0, none⟩ 1 1 (flT [c]) (by rw [hsize]; rfl) hnews (flT_one _) (by omega) (by rw [hsize]; simp [flT])
          simp only [List.length_nil] at hr
          rw [hr] at this
          injection this with _ e2
          subst e2
          rw [setRow_heap w g _ _ _ _ hb]
          simp [flT, hsize]
        · have := run_append_grow (P := P) w t o.type e i z ht hi hz ⟨g, 0, none⟩ xs.length 1 (flT xs) (by rw [hsize]; exact hu.1) (World.ownsRow.cells hu (g := g) rfl) ⟨g, 0, none⟩ 1 1 (flT [c]) (by rw [hsize]; rfl) hnews (by omega) (by omega)
            (growslice_fits (by omega) (by rw [hby]; omega))
          rw [hr] at this
          injection this with _ e2
          subst e2
          exact (((Below.refl w.heap.size w).drew.alloc (by simp) _).block g hbl).trans hb
    · rw [h3.block b hbl (fun e => hk e.symm)]
      exact hb
theorem app_litG {G : World → Prop} {ys : List Tr} {ρ : Operand → Value} {o : Oper} {w : World} {s x : Operand} {t : TypeId} {B : Nat} {e : TypeId} {i : TypeInfo} {z u v : Value} {xs : List Tr} {c : Tr} (hu : Tps w B e u xs) (hv : LitT B e c v w) (hlen : xs.length ≤ 1048576)
    (ht : P.underlying t = some (.slice e)) (hi : P.info? e = some i) (hz : i.zero = some z) (hsize : i.size = 3) (hby : i.bytes = 24) (hzs : z.cells.size = 3)
    (ho : o.op = .call { callee := .builtin .append, args := #[s, x], argTypes := #[t, t] }) (hs : ρ s = u) (hx : ρ x = v) (hy : ys = xs ++ [c]) (hG : ∀ w', Tps w' B e u xs → LitT B e c v w' → Below B w w' → G w') :
    ∃ v' w', (execOp ρ o).run P w = .ok (.value v') w' ∧ G w' ∧ Tps w' B e v' ys := by
  subst hy
  obtain ⟨v', w', hr, h1, h2, h3, h4⟩ := app_lit hu hv hlen ht hi hz hsize hby hzs ho hs hx
  exact ⟨v', w', hr, hG w' h2 h3 h4, h1⟩
theorem app_litN {G : World → Prop} {ys : List Tr} {ρ : Operand → Value} {o : Oper} {w : World} {s x : Operand} {t : TypeId} {B : Nat} {e : TypeId} {i : TypeInfo} {z u v n0 : Value} {xs : List Tr} {c : Tr} (hu : Tps w B e u xs) (hv : LitT B e c v w) (hn0 : NewE B e n0 w) (hlen : xs.length ≤ 1048576)
    (ht : P.underlying t = some (.slice e)) (hi : P.info? e = some i) (hz : i.zero = some z) (hsize : i.size = 3) (hby : i.bytes = 24) (hzs : z.cells.size = 3)
    (ho : o.op = .call { callee := .builtin .append, args := #[s, x], argTypes := #[t, t] }) (hs : ρ s = u) (hx : ρ x = v) (hy : ys = xs ++ [c]) (hG : ∀ w', Tps w' B e u xs → LitT B e c v w' → NewE B e n0 w' → Below B w w' → G w') :
    ∃ v' w', (execOp ρ o).run P w = .ok (.value v') w' ∧ G w' ∧ Tps w' B e v' ys := by
  subst hy
  have hv0 := hv
  obtain ⟨b, rfl, hBb, hb⟩ := hv0
  obtain ⟨g0, rfl, hB0, h0⟩ := hn0
  have hbl := lt_of_block hb
  have h0l := lt_of_block h0
  have hnews : ∀ j q, (flT [c])[j]? = some q → w.cell? ((⟨b, 0, none⟩ : Addr).add j) = some q := by
    intro j q h
    rw [Addr.add_lit, Nat.zero_add, cell_of_cells hb]
    simpa [flT] using h
  obtain ⟨v', w', hr, h1, h2, h3, h4⟩ := app_lit hu hv hlen ht hi hz hsize hby hzs ho hs hx
  refine ⟨v', w', hr, hG w' h2 h3 ⟨g0, rfl, hB0, ?_⟩ h4, h1⟩
  obtain ⟨v2, w2, hr2, _, _, hgr, _⟩ := app_keepT (ty := o.type) (c := 1) ht hi hz hsize hby hzs hu hnews hlen (by omega)
  have hrr := hr
  unfold execOp at hr
  simp only [ho, resolve, invoke, builtin, Sem.run_bind, Sem.run_pure, Result.andThen_ok, List.map_toArray, List.map_cons, List.map_nil, hs, hx, hr2] at hr
  injection hr with _ hw
  subst hw
  by_cases hk : u.ownBlock = some g0
  · rcases hu.2 with ⟨rfl, _⟩ | ⟨g, cap, cur, rfl, hBg, hg, hc, hm, hs', htk⟩
    · cases hk
    · have hgb : g = g0 := by injection hk
      subst hgb
      rw [h0] at hg
      injection hg with hg
      injection hg with hg _ _
      subst hg
      have hcap : cap = 0 := by simp at hs'; omega
      subst hcap
      have := run_append_grow (P := P) w t o.type e i z ht hi hz ⟨g, 0, none⟩ xs.length 0 (flT xs) (by rw [hsize]; exact hu.1) (World.ownsRow.cells hu (g := g) rfl) ⟨b, 0, none⟩ 1 1 (flT [c]) (by rw [hsize]; rfl) hnews (by omega) (by omega)
        (growslice_fits (by omega) (by rw [hby]; omega))
      rw [hr2] at this
      injection this with _ e2
      subst e2
      exact (((Below.refl w.heap.size w).drew.alloc (by simp) _).block g h0l).trans h0
  · rw [hgr.block g0 h0l (fun e => hk e.symm)]
    exact h0
end
end Go.Proofs.Ytfckgidilbjokac
