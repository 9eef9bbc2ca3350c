/-
  PaneBox, of the model and of the program.
-/
import Derived.Test.YtmboilogcnmlnaaGreatBoxP
import Derived.Test.YtmboilogcnmlnaaGreatG2
import Derived.BigRegion
import Derived.Lib.MinMax
namespace Go.Proofs.YtmboilogcnmlnaaGreat
open Go.RowKit
set_option linter.unusedVariables false
set_option linter.unusedSimpArgs false

/-- Block b holds the node n. -/
def NB (W : World) (b : Nat) (n : Nd) : Prop := W.heap[b]? = some (.cells #[.int .i64 n.x, .int .i64 n.y] 39)

section

variable {W W' : World} {b g : Nat} {n : Nd}

theorem NB.lt (h : NB W b n) : b < W.heap.size := lt_of_block h

theorem NB.cells (h : NB W b n) : W.cell? ⟨b, 0, none⟩ = some (.int .i64 n.x) ∧ W.cell? ⟨b, 1, none⟩ = some (.int .i64 n.y) ∧ W.frozen? ⟨b, 0, none⟩ = false ∧ W.frozen? ⟨b, 1, none⟩ = false := by
  unfold NB at h
  refine ⟨(cell_of_cells (k := 0) h).trans rfl, (cell_of_cells (k := 1) h).trans rfl, ?_, ?_⟩ <;> simp [World.frozen?, h]

theorem NB.new (W : World) (b : Nat) (hb : b = W.heap.size) (n : Nd) : NB (W.alloc (.cells #[.int .i64 n.x, .int .i64 n.y] 39)) b n := by subst hb; exact heap_alloc_new W _

theorem NB.step (h : NB W b n) (hb : Below W.heap.size W W') : NB W' b n := (hb.block _ h.lt).trans h

theorem NB.put (h : NB W b n) (x y : Int) : NB ((W.setCell ⟨b, 0, none⟩ (.int .i64 x)).setCell ⟨b, 1, none⟩ (.int .i64 y)) b ⟨x, y⟩ := by
  have m0 := heap_setCell_self (k := 0) h (.int .i64 x)
  have m1 := heap_setCell_self (k := 1) m0 (.int .i64 y)
  exact m1

theorem NB.far (h : NB W b n) (hne : b ≠ g) (x y : Int) : NB ((W.setCell ⟨g, 0, none⟩ (.int .i64 x)).setCell ⟨g, 1, none⟩ (.int .i64 y)) b n :=
  (Below.heap_setCell _ _ _ _ hne).trans ((Below.heap_setCell _ _ _ _ hne).trans h)

end

theorem NB.of_new {W0 W : World} {b k : Nat} {x y : Int} (h : NewB W0 39 k (.pointer (some ⟨b, 0, none⟩)) W) (hk : k = 2) (c0 : W.cell? ⟨b, 0, none⟩ = some (.int .i64 x)) (c1 : W.cell? ⟨b, 1, none⟩ = some (.int .i64 y)) : NB W b ⟨x, y⟩ := by
  subst hk
  obtain ⟨b', cs, e, _, hc, hs⟩ := h
  simp only [Value.pointer.injEq, Option.some.injEq, Addr.mk.injEq] at e
  obtain ⟨rfl, -, -⟩ := e
  have d0 := cell_of_cells (k := 0) hc
  have d1 := cell_of_cells (k := 1) hc
  rw [c0] at d0
  rw [c1] at d1
  unfold NB
  rw [hc]
  congr 2
  obtain ⟨l⟩ := cs
  match l, hs with
  | [u, v], _ =>
    simp at d0 d1
    subst d0; subst d1
    rfl

/-- The result's cells (blocks r, r + 1) still 0; the corners so far. -/
structure Bx (w W : World) (r b c : Nat) (p q : Nd) : Prop where
  r0 : NB W r ⟨0, 0⟩
  r1 : NB W (r + 1) ⟨0, 0⟩
  lo : NB W b p
  hi : NB W c q
  o1 : r + 1 < b
  o2 : b < c
  o3 : w.heap.size ≤ r

section

variable {w W W' : World} {r b c : Nat} {p q : Nd}

theorem Bx.step (h : Bx w W r b c p q) (hb : Below W.heap.size W W') : Bx w W' r b c p q := ⟨h.r0.step hb, h.r1.step hb, h.lo.step hb, h.hi.step hb, h.o1, h.o2, h.o3⟩

theorem Bx.putL (h : Bx w W r b c p q) (x y : Int) : Bx w ((W.setCell ⟨b, 0, none⟩ (.int .i64 x)).setCell ⟨b, 1, none⟩ (.int .i64 y)) r b c ⟨x, y⟩ q :=
  ⟨h.r0.far (by have := h.o1; omega) x y, h.r1.far (by have := h.o1; omega) x y, h.lo.put x y, h.hi.far (by have := h.o2; omega) x y, h.o1, h.o2, h.o3⟩

theorem Bx.putH (h : Bx w W r b c p q) (x y : Int) : Bx w ((W.setCell ⟨c, 0, none⟩ (.int .i64 x)).setCell ⟨c, 1, none⟩ (.int .i64 y)) r b c p ⟨x, y⟩ :=
  ⟨h.r0.far (by have := h.o1; have := h.o2; omega) x y, h.r1.far (by have := h.o1; have := h.o2; omega) x y, h.lo.far (by have := h.o2; omega) x y, h.hi.put x y, h.o1, h.o2, h.o3⟩

end

theorem Bx.start {w wG : World} (s : Nat) (hs : s = wG.heap.size) (hw : w.heap.size ≤ s) (p q : Nd) : Bx w ((((wG.alloc (.cells #[.int .i64 0, .int .i64 0] 39)).alloc (.cells #[.int .i64 0, .int .i64 0] 39)).alloc (.cells #[.int .i64 p.x, .int .i64 p.y] 39)).alloc (.cells #[.int .i64 q.x, .int .i64 q.y] 39)) s (s + 1 + 1) (s + 1 + 1 + 1) p q :=
  ⟨(((NB.new _ _ hs ⟨0, 0⟩).step (below_alloc _ _)).step (below_alloc _ _)).step (below_alloc _ _), ((NB.new _ _ (by simp [hs]) ⟨0, 0⟩).step (below_alloc _ _)).step (below_alloc _ _), (NB.new _ _ (by simp [hs]) p).step (below_alloc _ _), NB.new _ _ (by simp [hs]) q, by omega, by omega, hw⟩

theorem Held.set2 {w W : World} {fs : List (Nat × Nat × Value)} {g : Nat} (h : Held w W fs) (hs : Bs g fs) (hg : w.heap.size ≤ g) (x y : Value) : Held w ((W.setCell ⟨g, 0, none⟩ x).setCell ⟨g, 1, none⟩ y) fs :=
  (h.setB (j := 0) (x := x) hs (Nat.le_refl g) hg).setB (j := 1) (x := y) hs (Nat.le_refl g) hg

theorem Keeps.set2 {B g : Nat} {w W : World} (h : Keeps B w W) (hg : g < B) (x y : Value) : Keeps B w ((W.setCell ⟨g, 0, none⟩ x).setCell ⟨g, 1, none⟩ y) :=
  ⟨by simpa using h.1, fun k h1 h2 => (Below.heap_setCell _ _ _ _ (by show k ≠ g; omega)).trans ((Below.heap_setCell _ _ _ _ (by show k ≠ g; omega)).trans (h.2 k h1 h2))⟩

set_option maxRecDepth 100000 in
set_option maxHeartbeats 4000000 in
theorem specBox (ns ls : List Nd) (vn vl : Value) (f : Int) (w : World) (hn : Prs w vn ns) (hl : Prs w vl ls) :
    Calls Tryz.prog 22 #[.agg #[vn, vl], .int .i64 f] w (BoxIs (boxW ns ls f) w) := by
  have HN := Lib.hid hn
  have HL := Lib.hid hl
  have HP := Lib.hid (fun w h1 h2 => specPaneNodes ns ls vn vl f w h1 h2)
  unfold IntsNew at HP
  have h40 := paneW_len ns ls f
  have HNO := Lib.hid (pane_nodesB ns ls f)
  have HEND := Lib.hid (boxW_end ns ls f)
  have HNUL := Lib.hid (boxW_nil ns ls f)
  have HBS := Lib.hid (bxS_succ ns (paneW ns ls f))
  have HBZ := Lib.hid (show bxS ns (paneW ns ls f) 0 = (atN ns (atZ (paneW ns ls f) 0).toNat, atN ns (atZ (paneW ns ls f) 0).toNat) from rfl)
  have H0 := Lib.hid (held_pair w vn vl 31)
  obtain ⟨A, c, rfl⟩ := prs_form2 hn
  obtain ⟨A2, c2, rfl⟩ := prs_form2 hl
  clear hn hl
  generalize boxW ns ls f = res at *
  generalize paneW ns ls f = xs at *
  generalize bxS ns xs = X at *
  have HR0 := Lib.hid (NB.new (w.alloc (.cells #[.slice A ns.length c, .slice A2 ls.length c2] 31)) (w.heap.size + 1) (by simp) ⟨0, 0⟩)
  have HR1 := Lib.hid (NB.new ((w.alloc (.cells #[.slice A ns.length c, .slice A2 ls.length c2] 31)).alloc (.cells #[.int .i64 0, .int .i64 0] 39)) (w.heap.size + 1 + 1) (by simp) ⟨0, 0⟩)
  have HR2 := Lib.hid (HR0.out.step (below_alloc _ (.cells #[.int .i64 0, .int .i64 0] 39)))
  have H1 := Lib.hid ((H0.out.alloc (.cells #[.int .i64 0, .int .i64 0] 39)).alloc (.cells #[.int .i64 0, .int .i64 0] 39))
  clear H0 HR0
  obtain ⟨x0, x1, _⟩ := H1.out.1
  go_enter Tryz.func22, Tryz.ntmps22
  go_wp2_with fail
  refine (HP.out _ (HN.out.step H1.out.below) (HL.out.step H1.out.below)).mono ?_
  rintro e w1 ⟨v, rfl, hv, hb⟩
  have H2 := Lib.hid (H1.out.step hb)
  have HR3 := Lib.hid (HR2.out.step hb)
  have HR4 := Lib.hid (HR1.out.step hb)
  have HV := Lib.hid hv.seq
  clear hb hv H1 HR1 HR2 x0 x1
  obtain ⟨V, cv, rfl⟩ := seq_form2 HV.out
  by_cases h0 : xs.length = 0
  · have h0i : (xs.length : Int) = 0 := by omega
    have hx0 := Lib.hid (HNUL.out h0)
    have HQ := Lib.hid h0; clear h0
    obtain ⟨e0, e1, f0, f1⟩ := HR3.out.cells
    obtain ⟨e2, e3, f2, f3⟩ := HR4.out.cells
    have d1 : w.heap.size + 1 + 1 ≠ w.heap.size + 1 := by omega
    have d2 : w.heap.size + 1 ≠ w.heap.size + 1 + 1 := by omega
    go_wp2_with fail
    have K1 := (HR3.out.put 0 0).far (g := w.heap.size + 1 + 1) (by omega) 0 0
    have K2 := (HR4.out.far (g := w.heap.size + 1) (by omega) 0 0).put 0 0
    obtain ⟨r0, r1, -, -⟩ := K1.cells
    obtain ⟨r2, r3, -, -⟩ := K2.cells
    refine bodyPost_ret (v := .tuple #[.agg #[.int .i64 0, .int .i64 0], .agg #[.int .i64 0, .int .i64 0]]) (by simp [results, Tryz.results22, go_sem, r0, r1, r2, r3]) rfl ⟨by rw [hx0.out], ?_⟩
    exact ((H2.out.set2 (g := w.heap.size + 1) ⟨Nat.lt_succ_self _, Nat.lt_succ_self _, trivial⟩ (Nat.le_succ _) _ _).set2 (g := w.heap.size + 1 + 1) ⟨by omega, by omega, trivial⟩ (by omega) _ _).below
  · have h0i : ¬ (xs.length : Int) = 0 := by omega
    have HE2 := Lib.hid (HEND.out h0)
    obtain ⟨a0, ha0, hna0, -⟩ := HNO.out 0 (by omega)
    obtain ⟨A6, c6, e6, -, -, hcs⟩ := HV.out.form
    simp only [Value.slice.injEq] at e6
    obtain ⟨rfl, -, -⟩ := e6
    obtain ⟨bb, oo, rfl, hbl, c0⟩ := hcs 0 (by omega)
    rw [ha0, Nat.add_zero] at c0
    obtain ⟨bn, on, cn, he, hbn, hcn⟩ := prs_at2 (HN.out.step H2.out.below) hna0
    simp only [Value.slice.injEq] at he
    obtain ⟨rfl, -, -⟩ := he
    obtain ⟨c1, c2'⟩ := hcn a0 hna0
    clear hcs hcn
    have HBZ2 := Lib.hid (show X 0 = (atN ns a0, atN ns a0) from by rw [HBZ.out, ha0, Int.toNat_natCast])
    have HNA := Lib.hid ha0; clear ha0
    have HH := Lib.hid (held_plus H2.out (gs := [(bb, oo, .int .i64 a0), (bn, on + a0 * 2, .int .i64 (atN ns a0).x), (bn, on + a0 * 2 + 1, .int .i64 (atN ns a0).y)]) ⟨c0, c1, c2', trivial⟩ ⟨hbl, hbn, hbn, trivial⟩)
    clear c0 c1 c2'
    generalize atN ns a0 = nd at *
    obtain ⟨nx, ny⟩ := nd
    have p3 : (0 : Int) ≤ a0 := by omega
    have p4 : (a0 : Int) < (ns.length : Int) := by omega
    have g0 : (0 : Int) < (xs.length : Int) := by omega
    have g9 : 0 < xs.length := by omega
    obtain ⟨x0, x1, x2, x3, x4, _⟩ := HH.out.1
    go_wp2_with fail
    have HBH3 := Lib.hid HH.out.2.1
    refine regionW (fun W => Held _ W [(w.heap.size, 0, .slice (some ⟨bn, on, none⟩) ns.length c), (w.heap.size, 1, .slice A2 ls.length c2), (bb, oo, .int .i64 (a0)), (bn, on + a0 * 2, .int .i64 (nx)), (bn, on + a0 * 2 + 1, .int .i64 (ny))]) (by kernel_rfl) (Held.start HH.out.1 HH.out.2.1).drew ?_
    refine takeW (i := 0) (v := ?_) (Stable.held _ _) rfl (by kernel_rfl) (by kernel_rfl) (by kernel_rfl) (fun _ _ _ h => h) ?_ ?_
    rotate_left
    · first | (refine Or.inl ⟨by rfl, fun W hS => detR_value (w' := W) ?_ (Below.refl _ _)⟩; obtain ⟨x0, x1, x2, x3, x4, _⟩ := hS.1; go_simp; first | done | with_reducible rfl) | fail
    simp only [Act.put, List.setIfInBounds_toArray, List.set_cons_zero, List.set_cons_succ]
    refine takeW (i := 1) (v := ?_) (Stable.held _ _) rfl (by kernel_rfl) (by kernel_rfl) (by kernel_rfl) (fun _ _ _ h => h) ?_ ?_
    rotate_left
    · first | (refine Or.inl ⟨by rfl, fun W hS => detR_value (w' := W) ?_ (Below.refl _ _)⟩; obtain ⟨x0, x1, x2, x3, x4, _⟩ := hS.1; go_simp; first | done | with_reducible rfl) | fail
    simp only [Act.put, List.setIfInBounds_toArray, List.set_cons_zero, List.set_cons_succ]
    refine takeW (i := 2) (v := ?_) (Stable.held _ _) rfl (by kernel_rfl) (by kernel_rfl) (by kernel_rfl) (fun _ _ _ h => h) ?_ ?_
    rotate_left
    · first | (refine Or.inl ⟨by rfl, fun W hS => detR_value (w' := W) ?_ (Below.refl _ _)⟩; obtain ⟨x0, x1, x2, x3, x4, _⟩ := hS.1; go_simp; first | done | with_reducible rfl) | fail
    simp only [Act.put, List.setIfInBounds_toArray, List.set_cons_zero, List.set_cons_succ]
    refine takeW (i := 3) (v := ?_) (Stable.held _ _) rfl (by kernel_rfl) (by kernel_rfl) (by kernel_rfl) (fun _ _ _ h => h) ?_ ?_
    rotate_left
    · first | (refine Or.inl ⟨by rfl, fun W hS => detR_value (w' := W) ?_ (Below.refl _ _)⟩; obtain ⟨x0, x1, x2, x3, x4, _⟩ := hS.1; go_simp; first | done | with_reducible rfl) | fail
    simp only [Act.put, List.setIfInBounds_toArray, List.set_cons_zero, List.set_cons_succ]
    refine takeW (i := 4) (v := ?_) (Stable.held _ _) rfl (by kernel_rfl) (by kernel_rfl) (by kernel_rfl) (fun _ _ _ h => h) ?_ ?_
    rotate_left
    · first | (refine Or.inl ⟨by rfl, fun W hS => detR_value (w' := W) ?_ (Below.refl _ _)⟩; obtain ⟨x0, x1, x2, x3, x4, _⟩ := hS.1; go_simp; first | done | with_reducible rfl) | fail
    simp only [Act.put, List.setIfInBounds_toArray, List.set_cons_zero, List.set_cons_succ]
    refine takeW (i := 5) (v := ?_) (Stable.held _ _) rfl (by kernel_rfl) (by kernel_rfl) (by kernel_rfl) (fun _ _ _ h => h) ?_ ?_
    rotate_left
    · first | (refine Or.inl ⟨by rfl, fun W hS => detR_value (w' := W) ?_ (Below.refl _ _)⟩; obtain ⟨x0, x1, x2, x3, x4, _⟩ := hS.1; go_simp; first | done | with_reducible rfl) | fail
    simp only [Act.put, List.setIfInBounds_toArray, List.set_cons_zero, List.set_cons_succ]
    refine takeW (i := 6) (v := ?_) (Stable.held _ _) rfl (by kernel_rfl) (by kernel_rfl) (by kernel_rfl) (fun _ _ _ h => h) ?_ ?_
    rotate_left
    · first | (refine Or.inl ⟨by rfl, fun W hS => detR_value (w' := W) ?_ (Below.refl _ _)⟩; obtain ⟨x0, x1, x2, x3, x4, _⟩ := hS.1; go_simp; first | done | with_reducible rfl) | fail
    simp only [Act.put, List.setIfInBounds_toArray, List.set_cons_zero, List.set_cons_succ]
    refine allocV (i := 7) 39 #[.int .i64 0, .int .i64 0] rfl (by kernel_rfl) (by rfl) (fun W => ?_) (fun vn => ?_)
    · go_simp; first | done | with_reducible rfl
    simp only [Act.put, List.setIfInBounds_toArray, List.set_cons_zero, List.set_cons_succ]
    refine storeV (i := 8) #[.int .i64 nx, .int .i64 ny] rfl (by kernel_rfl) (by rfl) rfl (by rfl) (by rfl) HBH3.out rfl (by kernel_rfl) (by simp [Value.oneCell']) ?_
    simp only [Act.put, List.setIfInBounds_toArray, List.set_cons_zero, List.set_cons_succ]
    refine doneW (by kernel_rfl) fun wH3 HG => ?_
    obtain ⟨⟨hH, _⟩, bH3, rfl, hbn, hcn⟩ := HG
    have BWH3 := Lib.hid hH.2.2
    have H3 := Lib.hid (Held.joined HH.out hH hcn); clear hH hcn HBH3
    try clear x0 x1 x2 x3 x4
    obtain ⟨x0, x1, x2, x3, x4, x5, x6, _⟩ := H3.out.1
    go_wp2_with fail
    have hnew := ‹NewB w1 39 _ (.pointer (some ⟨bH3, 0, none⟩)) wH3›
    have HLO := Lib.hid ((NB.of_new hnew rfl x0 x1).step (below_alloc wH3 (.cells #[.int .i64 nx, .int .i64 ny] 39)))
    have HHI := Lib.hid (NB.new wH3 wH3.heap.size rfl ⟨nx, ny⟩)
    have hsz3 := H3.out.2.1.1
    have BW := Lib.hid (BWH3.out.trans ((below_alloc wH3 (.cells #[.int .i64 nx, .int .i64 ny] 39)).mono BWH3.out.size))
    have HW01 := Lib.hid H2.out.below
    have hb7 : w1.heap.size ≤ bH3 := by assumption
    have hl2 := HR4.out.lt
    have HX := Lib.hid (show Bx w (wH3.alloc (.cells #[.int .i64 nx, .int .i64 ny] 39)) (w.heap.size + 1) bH3 wH3.heap.size (X 0).1 (X 0).2 from by
      rw [HBZ2.out]
      exact ⟨HR3.out.step BW.out, HR4.out.step BW.out, HLO.out, HHI.out, by omega, hsz3, Nat.le_succ _⟩)
    have H4 := Lib.hid (show Held w1 (wH3.alloc (.cells #[.int .i64 nx, .int .i64 ny] 39)) [(w.heap.size, 0, .slice (some ⟨bn, on, none⟩) ns.length c), (w.heap.size, 1, .slice A2 ls.length c2)] from
      ⟨⟨(BW.out.cell (p := ⟨_, 0, none⟩) H2.out.2.1.1).trans H2.out.1.1, (BW.out.cell (p := ⟨_, 1, none⟩) H2.out.2.1.1).trans H2.out.1.2.1, trivial⟩, ⟨Nat.lt_of_lt_of_le H2.out.2.1.1 BW.out.size, Nat.lt_of_lt_of_le H2.out.2.1.1 BW.out.size, trivial⟩, BW.out⟩)
    obtain ⟨b8, hb8⟩ : ∃ b, b = wH3.heap.size := ⟨_, rfl⟩
    rw [← hb8] at HX ⊢
    have hb8' : w1.heap.size ≤ b8 := by rw [hb8]; omega
    clear hb8 hsz3 HLO HHI HR3 HR4 H3 HH BW BWH3 hnew x0 x1 x2 x3 x4 x5 x6 HBZ HBZ2 hl2
    have HB78 := Lib.hid (And.intro hb7 hb8'); clear hb7 hb8'
    go_loopw [9] (fun i wr => ∃ m : Nat, m ≤ xs.length ∧ i = .int .i64 m ∧ Bx w wr (w.heap.size + 1) bH3 b8 (X m).1 (X m).2 ∧ Held w1 wr [(w.heap.size, 0, .slice (some ⟨bn, on, none⟩) ns.length c), (w.heap.size, 1, .slice A2 ls.length c2)]) (fun i _ => xs.length - (intOf i).toNat)
    case atStart => exact ⟨0, Nat.zero_le _, rfl, HX.out, H4.out⟩
    case round =>
      clear HX H4
      obtain ⟨m, hm, rfl, hx, hh⟩ := hrel
      have HX := Lib.hid hx; clear hx
      have H1 := Lib.hid hh; clear hh
      by_cases hlt : m < xs.length
      · obtain ⟨a, ha, hna, -⟩ := HNO.out m hlt
        obtain ⟨A6, c6, e6, -, -, hcs⟩ := (HV.out.step H1.out.below).form
        simp only [Value.slice.injEq] at e6
        obtain ⟨e6, -, -⟩ := e6
        obtain ⟨bb', oo', e7, hbl', c0⟩ := hcs m hlt
        rw [← e6] at e7
        simp only [Option.some.injEq, Addr.mk.injEq] at e7
        obtain ⟨rfl, rfl, -⟩ := e7
        rw [ha] at c0
        obtain ⟨bn', on', cn', he, hbn', hcn⟩ := prs_at2 (HN.out.step (HW01.out.trans (H1.out.below.mono HW01.out.size))) hna
        simp only [Value.slice.injEq, Option.some.injEq, Addr.mk.injEq] at he
        obtain ⟨⟨rfl, rfl, -⟩, -, -⟩ := he
        obtain ⟨c1, c2'⟩ := hcn a hna
        clear hcs hcn e6
        have HH := Lib.hid (held_plus H1.out (gs := [(bb, oo + m, .int .i64 a), (bn, on + a * 2, .int .i64 (atN ns a).x), (bn, on + a * 2 + 1, .int .i64 (atN ns a).y)]) ⟨c0, c1, c2', trivial⟩ ⟨hbl', hbn', hbn', trivial⟩)
        clear c0 c1 c2'
        have HXM := Lib.hid (HBS.out m)
        rw [ha, Int.toNat_natCast] at HXM
        have HNA := Lib.hid ha; clear ha
        generalize atN ns a = nd at *
        obtain ⟨nx', ny'⟩ := nd
        generalize X m = b at *
        obtain ⟨⟨lx, ly⟩, ⟨ux, uy⟩⟩ := b
        unfold bxF at HXM
        simp only at HXM HX HH
        have p1 : (0 : Int) ≤ m := by omega
        have p2 : (m : Int) < (xs.length : Int) := by omega
        have p3 : (0 : Int) ≤ a := by omega
        have p4 : (a : Int) < (ns.length : Int) := by omega
        obtain ⟨x0, x1, x2, x3, x4, _⟩ := HH.out.1
        obtain ⟨e0, e1, f0, f1⟩ := HX.out.r0.cells
        obtain ⟨e2, e3, f2, f3⟩ := HX.out.r1.cells
        obtain ⟨e4, e5, f4, f5⟩ := HX.out.lo.cells
        obtain ⟨e6, e7, f6, f7⟩ := HX.out.hi.cells
        have n1 := HX.out.o1
        have n2 := HX.out.o2
        have m1 := HX.out.r0.lt
        have m2 := HX.out.r1.lt
        have m3 := HX.out.lo.lt
        have m4 := HX.out.hi.lt
        go_wp2_with fail
        clear e0 e1 e2 e3 e4 e5 e6 e7 f0 f1 f2 f3 f4 f5 f6 f7
        have HBH5 := Lib.hid HH.out.2.1
        refine regionW (fun W => Held _ W [(w.heap.size, 0, .slice (some ⟨bn, on, none⟩) ns.length c), (w.heap.size, 1, .slice A2 ls.length c2), (bb, oo + m, .int .i64 (a)), (bn, on + a * 2, .int .i64 (nx')), (bn, on + a * 2 + 1, .int .i64 (ny'))]) (by kernel_rfl) (Held.start HH.out.1 HH.out.2.1).drew ?_
        refine takeW (i := 0) (v := ?_) (Stable.held _ _) rfl (by kernel_rfl) (by kernel_rfl) (by kernel_rfl) (fun _ _ _ h => h) ?_ ?_
        rotate_left
        · first | (refine Or.inl ⟨by rfl, fun W hS => detR_value (w' := W) ?_ (Below.refl _ _)⟩; obtain ⟨x0, x1, x2, x3, x4, _⟩ := hS.1; go_simp; first | done | with_reducible rfl) | fail
        simp only [Act.put, List.setIfInBounds_toArray, List.set_cons_zero, List.set_cons_succ]
        refine takeW (i := 1) (v := ?_) (Stable.held _ _) rfl (by kernel_rfl) (by kernel_rfl) (by kernel_rfl) (fun _ _ _ h => h) ?_ ?_
        rotate_left
        · first | (refine Or.inl ⟨by rfl, fun W hS => detR_value (w' := W) ?_ (Below.refl _ _)⟩; obtain ⟨x0, x1, x2, x3, x4, _⟩ := hS.1; go_simp; first | done | with_reducible rfl) | fail
        simp only [Act.put, List.setIfInBounds_toArray, List.set_cons_zero, List.set_cons_succ]
        refine takeW (i := 2) (v := ?_) (Stable.held _ _) rfl (by kernel_rfl) (by kernel_rfl) (by kernel_rfl) (fun _ _ _ h => h) ?_ ?_
        rotate_left
        · first | (refine Or.inl ⟨by rfl, fun W hS => detR_value (w' := W) ?_ (Below.refl _ _)⟩; obtain ⟨x0, x1, x2, x3, x4, _⟩ := hS.1; go_simp; first | done | with_reducible rfl) | fail
        simp only [Act.put, List.setIfInBounds_toArray, List.set_cons_zero, List.set_cons_succ]
        refine takeW (i := 3) (v := ?_) (Stable.held _ _) rfl (by kernel_rfl) (by kernel_rfl) (by kernel_rfl) (fun _ _ _ h => h) ?_ ?_
        rotate_left
        · first | (refine Or.inl ⟨by rfl, fun W hS => detR_value (w' := W) ?_ (Below.refl _ _)⟩; obtain ⟨x0, x1, x2, x3, x4, _⟩ := hS.1; go_simp; first | done | with_reducible rfl) | fail
        simp only [Act.put, List.setIfInBounds_toArray, List.set_cons_zero, List.set_cons_succ]
        refine takeW (i := 4) (v := ?_) (Stable.held _ _) rfl (by kernel_rfl) (by kernel_rfl) (by kernel_rfl) (fun _ _ _ h => h) ?_ ?_
        rotate_left
        · first | (refine Or.inl ⟨by rfl, fun W hS => detR_value (w' := W) ?_ (Below.refl _ _)⟩; obtain ⟨x0, x1, x2, x3, x4, _⟩ := hS.1; go_simp; first | done | with_reducible rfl) | fail
        simp only [Act.put, List.setIfInBounds_toArray, List.set_cons_zero, List.set_cons_succ]
        refine takeW (i := 5) (v := ?_) (Stable.held _ _) rfl (by kernel_rfl) (by kernel_rfl) (by kernel_rfl) (fun _ _ _ h => h) ?_ ?_
        rotate_left
        · first | (refine Or.inl ⟨by rfl, fun W hS => detR_value (w' := W) ?_ (Below.refl _ _)⟩; obtain ⟨x0, x1, x2, x3, x4, _⟩ := hS.1; go_simp; first | done | with_reducible rfl) | fail
        simp only [Act.put, List.setIfInBounds_toArray, List.set_cons_zero, List.set_cons_succ]
        refine takeW (i := 6) (v := ?_) (Stable.held _ _) rfl (by kernel_rfl) (by kernel_rfl) (by kernel_rfl) (fun _ _ _ h => h) ?_ ?_
        rotate_left
        · first | (refine Or.inl ⟨by rfl, fun W hS => detR_value (w' := W) ?_ (Below.refl _ _)⟩; obtain ⟨x0, x1, x2, x3, x4, _⟩ := hS.1; go_simp; first | done | with_reducible rfl) | fail
        simp only [Act.put, List.setIfInBounds_toArray, List.set_cons_zero, List.set_cons_succ]
        refine takeW (i := 7) (v := ?_) (Stable.held _ _) rfl (by kernel_rfl) (by kernel_rfl) (by kernel_rfl) (fun _ _ _ h => h) ?_ ?_
        rotate_left
        · first | (refine Or.inl ⟨by rfl, fun W hS => detR_value (w' := W) ?_ (Below.refl _ _)⟩; obtain ⟨x0, x1, x2, x3, x4, _⟩ := hS.1; go_simp; first | done | with_reducible rfl) | fail
        simp only [Act.put, List.setIfInBounds_toArray, List.set_cons_zero, List.set_cons_succ]
        refine allocV (i := 8) 39 #[.int .i64 0, .int .i64 0] rfl (by kernel_rfl) (by rfl) (fun W => ?_) (fun vn => ?_)
        · go_simp; first | done | with_reducible rfl
        simp only [Act.put, List.setIfInBounds_toArray, List.set_cons_zero, List.set_cons_succ]
        refine storeV (i := 9) #[.int .i64 nx', .int .i64 ny'] rfl (by kernel_rfl) (by rfl) rfl (by rfl) (by rfl) HBH5.out rfl (by kernel_rfl) (by simp [Value.oneCell']) ?_
        simp only [Act.put, List.setIfInBounds_toArray, List.set_cons_zero, List.set_cons_succ]
        refine doneW (by kernel_rfl) fun wH5 HG => ?_
        obtain ⟨⟨hH, _⟩, bH5, rfl, hbn, hcn⟩ := HG
        have BWH5 := Lib.hid hH.2.2
        have H5 := Lib.hid (Held.joined HH.out hH hcn); clear hH hcn HBH5
        try clear x0 x1 x2 x3 x4
        obtain ⟨x0, x1, x2, x3, x4, x5, x6, _⟩ := H5.out.1
        have HX5 := Lib.hid (HX.out.step BWH5.out)
        have hsz5 := BWH5.out.size
        obtain ⟨e4, e5, f4, f5⟩ := HX5.out.lo.cells
        obtain ⟨e6, e7, f6, f7⟩ := HX5.out.hi.cells
        have H6 := Lib.hid (H5.out.only (gs := [(w.heap.size, 0, .slice (some ⟨bn, on, none⟩) ns.length c), (w.heap.size, 1, .slice A2 ls.length c2)]) (fun ⟨_, _, a, b, _⟩ => ⟨a, b, trivial⟩) (fun ⟨_, _, a, b, _⟩ => ⟨a, b, trivial⟩))
        have hlt5 := H6.out.2.1.1
        have d1 : bH3 ≠ b8 := by omega
        have d2 : b8 ≠ bH3 := by omega
        have d3 : bH3 ≠ bH5 := by omega
        have d4 : b8 ≠ bH5 := by omega
        have d5 : bH5 ≠ bH3 := by omega
        have d6 : bH5 ≠ b8 := by omega
        have HH6 := Lib.hid ((H6.out.set2 (g := bH3) ⟨Nat.lt_of_lt_of_le H2.out.2.1.1 HB78.out.1, Nat.lt_of_lt_of_le H2.out.2.1.1 HB78.out.1, trivial⟩ HB78.out.1 (.int .i64 (min lx nx')) (.int .i64 (min ly ny'))).set2 (g := b8) ⟨Nat.lt_of_lt_of_le H2.out.2.1.1 HB78.out.2, Nat.lt_of_lt_of_le H2.out.2.1.1 HB78.out.2, trivial⟩ HB78.out.2 (.int .i64 (max ux nx')) (.int .i64 (max uy ny')))
        have HX6 := Lib.hid ((HX5.out.putL (min lx nx') (min ly ny')).putH (max ux nx') (max uy ny'))
        clear hsz5 hlt5 x2 x3 x4 x5 x6 n1 n2 m1 m2 m3 m4
        go_wp2_with fail
        exact ⟨⟨m + 1, by omega, by go_num, by rw [HXM.out]; exact HX6.out, HH6.out⟩, by simp [intOf]; omega⟩
      · obtain rfl : m = xs.length := by omega
        obtain ⟨b, hb⟩ : ∃ b, b = X xs.length := ⟨_, rfl⟩
        rw [← hb] at HX HE2
        clear hb
        obtain ⟨⟨lx, ly⟩, ⟨ux, uy⟩⟩ := b
        simp only at HX
        obtain ⟨e0, e1, f0, f1⟩ := HX.out.r0.cells
        obtain ⟨e2, e3, f2, f3⟩ := HX.out.r1.cells
        obtain ⟨e4, e5, f4, f5⟩ := HX.out.lo.cells
        obtain ⟨e6, e7, f6, f7⟩ := HX.out.hi.cells
        have n1 := HX.out.o1
        have n2 := HX.out.o2
        have m1 := HX.out.r0.lt
        have m2 := HX.out.r1.lt
        have m3 := HX.out.lo.lt
        have m4 := HX.out.hi.lt
        have d1 : w.heap.size + 1 + 1 ≠ w.heap.size + 1 := by omega
        have d2 : w.heap.size + 1 ≠ w.heap.size + 1 + 1 := by omega
        have d3 : bH3 ≠ w.heap.size + 1 := by omega
        have d4 : b8 ≠ w.heap.size + 1 := by omega
        have d5 : bH3 ≠ w.heap.size + 1 + 1 := by omega
        have d6 : b8 ≠ w.heap.size + 1 + 1 := by omega
        go_wp2_with fail
        go_big_region
        all_goals go_wp2_with fail
        have K1 := (HX.out.r0.put lx ly).far (g := w.heap.size + 1 + 1) (by omega) ux uy
        have K2 := (HX.out.r1.far (g := w.heap.size + 1) (by omega) lx ly).put ux uy
        obtain ⟨r0, r1, -, -⟩ := K1.cells
        obtain ⟨r2, r3, -, -⟩ := K2.cells
        have BB := HW01.out.trans (H1.out.below.mono HW01.out.size)
        refine bodyPost_ret (v := .tuple #[.agg #[.int .i64 lx, .int .i64 ly], .agg #[.int .i64 ux, .int .i64 uy]]) (by simp [results, Tryz.results22, go_sem, r0, r1, r2, r3]) rfl ⟨by rw [HE2.out], ?_⟩
        exact ((((BB.setCell (p := ⟨_, _, none⟩) (by show w.heap.size ≤ w.heap.size + 1; omega) _).setCell (p := ⟨_, _, none⟩) (by show w.heap.size ≤ w.heap.size + 1; omega) _).setCell (p := ⟨_, _, none⟩) (by show w.heap.size ≤ w.heap.size + 1 + 1; omega) _).setCell (p := ⟨_, _, none⟩) (by show w.heap.size ≤ w.heap.size + 1 + 1; omega) _).drew

set_option maxRecDepth 100000 in
set_option maxHeartbeats 4000000 in
theorem implBoxG (v1 v2 v3 v4 : Value) (rs : List (List Int)) (ds : List Int) (ns ls : List Nd) (B B2 k : Nat) (w : World) (hn : Prs w v1 ns) (hl : Prs w v2 ls) (hf : Faces w B v3 rs) (ha : Ints w B2 v4 ds) (hok : RowsOk ns ls rs) (hk : k < rs.length) (h20 : ls.length ≤ 20) :
    Calls Tryz.prog 58 #[.agg #[v1, v2, v3, v4], .int .i64 k] w (BoxIs (bxL ns (bord ls (atR rs k)) (bord ls (atR rs k)).length) w) := by
  have HB := Lib.hid (fun W hb => implBorder v1 v2 v3 v4 rs ds ns ls B B2 k W (hn.step hb) (hl.step hb) (hf.step hb) (ha.step hb) hok hk h20)
  unfold IntsNew at HB
  obtain ⟨hw, hd, h4⟩ := hok.2 k hk
  have HNO := Lib.hid (bord_nodes hw hd)
  have hxl : (bord ls (atR rs k)).length ≤ 40 := by rw [bord_len]; exact h4
  have HN := Lib.hid hn
  obtain ⟨A, c, rfl⟩ := prs_form2 hn
  obtain ⟨A2, c2, rfl⟩ := prs_form2 hl
  obtain ⟨A3, c3, rfl⟩ := faces_form hf
  obtain ⟨A4, c4, rfl⟩ := ints_form ha
  have HG := Lib.hid (heldG w (.slice A ns.length c) (.slice A2 ls.length c2) (.slice A3 rs.length c3) (.slice A4 ds.length c4) 66)
  clear hn hl hf ha hok hk h20 hw hd h4
  generalize bord ls (atR rs k) = xs at *
  have HBS := Lib.hid (bxL_succ ns xs)
  have HBZ := Lib.hid (show bxL ns xs 0 = (⟨20, 20⟩, ⟨0, 0⟩) from rfl)
  generalize bxL ns xs = X at *
  have HX0 := Lib.hid (Bx.start (w := w) (wG := w.alloc (.cells #[.slice A ns.length c, .slice A2 ls.length c2, .slice A3 rs.length c3, .slice A4 ds.length c4] 66)) (w.heap.size + 1) (by simp) (Nat.le_succ _) ⟨20, 20⟩ ⟨0, 0⟩)
  have H1 := Lib.hid ((((HG.out.alloc (.cells #[.int .i64 0, .int .i64 0] 39)).alloc (.cells #[.int .i64 0, .int .i64 0] 39)).alloc (.cells #[.int .i64 20, .int .i64 20] 39)).alloc (.cells #[.int .i64 0, .int .i64 0] 39))
  obtain ⟨x0, x1, x2, x3, _⟩ := HG.out.1
  go_enter Tryz.func58, Tryz.ntmps58
  go_wp2_with fail
  refine (HB.out _ H1.out.below).mono ?_
  rintro e w1 ⟨v, rfl, hv, hb⟩
  have HX := Lib.hid (show Bx w w1 (w.heap.size + 1) (w.heap.size + 1 + 1 + 1) (w.heap.size + 1 + 1 + 1 + 1) (X 0).1 (X 0).2 from by rw [HBZ.out]; exact HX0.out.step hb)
  have HW01 := Lib.hid (H1.out.below.trans (hb.mono H1.out.below.size))
  have H2 := Lib.hid (Held.start (H1.out.step hb).1 (H1.out.step hb).2.1)
  have hsz : (((((w.alloc (.cells #[.slice A ns.length c, .slice A2 ls.length c2, .slice A3 rs.length c3, .slice A4 ds.length c4] 66)).alloc (.cells #[.int .i64 0, .int .i64 0] 39)).alloc (.cells #[.int .i64 0, .int .i64 0] 39)).alloc (.cells #[.int .i64 20, .int .i64 20] 39)).alloc (.cells #[.int .i64 0, .int .i64 0] 39)).heap.size = w.heap.size + 1 + 1 + 1 + 1 + 1 := by simp
  rw [hsz] at hv
  have H2 := Lib.hid (H1.out.step hb)
  have HV := Lib.hid hv
  clear hb hv hsz H1 HG HX0 x0 x1 x2 x3 HBZ
  obtain ⟨V, cv, rfl⟩ := ints_form HV.out
  obtain ⟨x0, x1, x2, x3, _⟩ := H2.out.1
  go_wp2_with fail
  clear x0 x1 x2 x3
  go_loopw [17] (fun i wr => ∃ m : Nat, m ≤ xs.length ∧ i = .int .i64 m ∧ Bx w wr (w.heap.size + 1) (w.heap.size + 1 + 1 + 1) (w.heap.size + 1 + 1 + 1 + 1) (X m).1 (X m).2 ∧ Keeps (w.heap.size + 1 + 1 + 1 + 1 + 1) w1 wr ∧ Held w wr [(w.heap.size, 0, .slice A ns.length c), (w.heap.size, 1, .slice A2 ls.length c2), (w.heap.size, 2, .slice A3 rs.length c3), (w.heap.size, 3, .slice A4 ds.length c4)]) (fun i _ => xs.length - (intOf i).toNat)
  case atStart => exact ⟨0, Nat.zero_le _, rfl, HX.out, Keeps.refl _ _, H2.out⟩
  case round =>
    clear HX H2
    obtain ⟨m, hm, rfl, hx, hk, hh⟩ := hrel
    have HX := Lib.hid hx; clear hx
    have HK := Lib.hid hk; clear hk
    have H1 := Lib.hid hh; clear hh
    by_cases hlt : m < xs.length
    · obtain ⟨a, ha, hna, -⟩ := HNO.out m hlt
      have HVR := (HV.out.keep (w' := wr) fun k e => HK.out.2 k (HV.out.own k e).1 (HV.out.own k e).2).seq
      obtain ⟨A6, c6, e6, -, -, hcs⟩ := HVR.form
      simp only [Value.slice.injEq] at e6
      obtain ⟨rfl, -, -⟩ := e6
      obtain ⟨bb, oo, rfl, hbl', c0⟩ := hcs m hlt
      rw [ha] at c0
      obtain ⟨bn, on, cn', he, hbn', hcn⟩ := prs_at2 (HN.out.step H1.out.below) hna
      simp only [Value.slice.injEq] at he
      obtain ⟨rfl, -, -⟩ := he
      obtain ⟨c1, c2'⟩ := hcn a hna
      clear hcs hcn HVR
      have HH := Lib.hid (And.intro c1 c2')
      clear c1 c2'
      have HXM := Lib.hid (HBS.out m)
      rw [ha, Int.toNat_natCast] at HXM
      have HNA := Lib.hid ha; clear ha
      generalize atN ns a = nd at *
      obtain ⟨nx', ny'⟩ := nd
      generalize X m = b at *
      obtain ⟨⟨lx, ly⟩, ⟨ux, uy⟩⟩ := b
      unfold bxF at HXM
      simp only at HXM HX HH
      have p1 : (0 : Int) ≤ m := by omega
      have p2 : (m : Int) < (xs.length : Int) := by omega
      have p3 : (0 : Int) ≤ a := by omega
      have p4 : (a : Int) < (ns.length : Int) := by omega
      obtain ⟨c1, c2'⟩ := HH.out
      clear HH
      have HX6 := Lib.hid (((HX.out.putL (min lx nx') (min ly ny')).putH (max ux nx') (max uy ny')).step (below_alloc _ (.cells #[.int .i64 nx', .int .i64 ny'] 39)))
      have HK6 := Lib.hid (((HK.out.set2 (g := w.heap.size + 1 + 1 + 1) (by omega) (.int .i64 (min lx nx')) (.int .i64 (min ly ny'))).set2 (g := w.heap.size + 1 + 1 + 1 + 1) (by omega) (.int .i64 (max ux nx')) (.int .i64 (max uy ny'))).below (below_alloc _ (.cells #[.int .i64 nx', .int .i64 ny'] 39)))
      have H6 := Lib.hid (((H1.out.set2 (g := w.heap.size + 1 + 1 + 1) ⟨by omega, by omega, by omega, by omega, trivial⟩ (by omega) (.int .i64 (min lx nx')) (.int .i64 (min ly ny'))).set2 (g := w.heap.size + 1 + 1 + 1 + 1) ⟨by omega, by omega, by omega, by omega, trivial⟩ (by omega) (.int .i64 (max ux nx')) (.int .i64 (max uy ny'))).alloc (.cells #[.int .i64 nx', .int .i64 ny'] 39))
      obtain ⟨e4, e5, f4, f5⟩ := HX.out.lo.cells
      obtain ⟨e6, e7, f6, f7⟩ := HX.out.hi.cells
      have m3 := HX.out.lo.lt
      have m4 := HX.out.hi.lt
      have d1 : w.heap.size + 1 + 1 + 1 ≠ w.heap.size + 1 + 1 + 1 + 1 := by omega
      have d2 : w.heap.size + 1 + 1 + 1 + 1 ≠ w.heap.size + 1 + 1 + 1 := by omega
      have d3 : w.heap.size + 1 + 1 + 1 ≠ wr.heap.size := by omega
      have d4 : w.heap.size + 1 + 1 + 1 + 1 ≠ wr.heap.size := by omega
      have d5 : wr.heap.size ≠ w.heap.size + 1 + 1 + 1 := by omega
      have d6 : wr.heap.size ≠ w.heap.size + 1 + 1 + 1 + 1 := by omega
      obtain ⟨x0, x1, x2, x3, _⟩ := H1.out.1
      go_wp2_with fail
      exact ⟨⟨m + 1, by omega, by go_num, by rw [HXM.out]; exact HX6.out, HK6.out, H6.out⟩, by simp [intOf]; omega⟩
    · obtain rfl : m = xs.length := by omega
      generalize X xs.length = b at *
      obtain ⟨⟨lx, ly⟩, ⟨ux, uy⟩⟩ := b
      simp only at HX
      obtain ⟨e0, e1, f0, f1⟩ := HX.out.r0.cells
      obtain ⟨e2, e3, f2, f3⟩ := HX.out.r1.cells
      obtain ⟨e4, e5, f4, f5⟩ := HX.out.lo.cells
      obtain ⟨e6, e7, f6, f7⟩ := HX.out.hi.cells
      have n1 := HX.out.o1
      have n2 := HX.out.o2
      have m1 := HX.out.r0.lt
      have m2 := HX.out.r1.lt
      have m3 := HX.out.lo.lt
      have m4 := HX.out.hi.lt
      have d1 : w.heap.size + 1 + 1 ≠ w.heap.size + 1 := by omega
      have d2 : w.heap.size + 1 ≠ w.heap.size + 1 + 1 := by omega
      go_wp2_with fail
      go_big_region
      all_goals go_wp2_with fail
      have K1 := (HX.out.r0.put lx ly).far (g := w.heap.size + 1 + 1) (by omega) ux uy
      have K2 := (HX.out.r1.far (g := w.heap.size + 1) (by omega) lx ly).put ux uy
      obtain ⟨r0, r1, -, -⟩ := K1.cells
      obtain ⟨r2, r3, -, -⟩ := K2.cells
      have BB := H1.out.below
      refine bodyPost_ret (v := .tuple #[.agg #[.int .i64 lx, .int .i64 ly], .agg #[.int .i64 ux, .int .i64 uy]]) (by simp [results, Tryz.results58, go_sem, r0, r1, r2, r3]) rfl ⟨rfl, ?_⟩
      exact ((((BB.setCell (p := ⟨_, _, none⟩) (by show w.heap.size ≤ w.heap.size + 1; omega) _).setCell (p := ⟨_, _, none⟩) (by show w.heap.size ≤ w.heap.size + 1; omega) _).setCell (p := ⟨_, _, none⟩) (by show w.heap.size ≤ w.heap.size + 1 + 1; omega) _).setCell (p := ⟨_, _, none⟩) (by show w.heap.size ≤ w.heap.size + 1 + 1; omega) _).drew
end Go.Proofs.YtmboilogcnmlnaaGreat
