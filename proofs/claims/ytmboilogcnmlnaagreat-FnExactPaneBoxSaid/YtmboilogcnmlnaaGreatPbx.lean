/-
  PaneBox, of the program.
-/
import Derived.Test.YtmboilogcnmlnaaGreatRdo
namespace Go.Proofs.YtmboilogcnmlnaaGreat
open Go.RowKit
set_option linter.unusedVariables false
set_option linter.unusedSimpArgs false

set_option maxRecDepth 100000 in
set_option maxHeartbeats 1000000 in
theorem implPaneBox (ns ls : List Nd) (vn vl : Value) (f : Int) (w : World) (hn : Prs w vn ns) (hl : Prs w vl ls) :
    Calls Tryz.prog 23 #[.agg #[vn, vl], .int .i64 f] w (BoxIs (boxW ns ls f) w) := by
  have HH := Lib.hid (fun (A1 A2 A3 A4 : Option Addr) (n1 c1 n2 c2 c3 n4 c4 : Nat) w => implHasFace A1 A2 A3 A4 n1 c1 n2 c2 (wF ns ls).length c3 n4 c4 f w (by have := wF_len (ns := ns) (ls := ls); omega))
  unfold BoolIs at HH
  have HR0 := Lib.hid (NB.new (w.alloc (.cells #[vn, vl] 31)) (w.heap.size + 1) (by simp) ⟨0, 0⟩)
  have HR1 := Lib.hid (NB.new ((w.alloc (.cells #[vn, vl] 31)).alloc (.cells #[.int .i64 0, .int .i64 0] 39)) (w.heap.size + 1 + 1) (by simp) ⟨0, 0⟩)
  have HR2 := Lib.hid (HR0.out.step (below_alloc _ (.cells #[.int .i64 0, .int .i64 0] 39)))
  clear HR0
  by_cases hf : idxB (wF ns ls).length f = true
  · obtain ⟨k, rfl, hk⟩ := idx_nat hf
    have HA := Lib.hid (fun v1 v2 v3 v4 B B2 w h1 h2 h3 h4 => implBoxG v1 v2 v3 v4 (wF ns ls) (gA ns ls) (gN ns ls) (gL ns ls) B B2 k w h1 h2 h3 h4 (g_ok ns ls) hk (g_len ns ls).2)
    rw [g_box hk] at HA
    unfold BoxIs at HA
    rw [hf] at HH
    clear hf hk
    have HN := Lib.hid hn
    have HL := Lib.hid hl
    have HGL := Lib.hid (fun w h1 h2 => implGlass ns ls vn vl w h1 h2)
    unfold GlassNew at HGL
    have H0 := Lib.hid (held_pair w vn vl 31)
    obtain ⟨A, c, rfl⟩ := prs_form2 hn
    obtain ⟨A2, c2, rfl⟩ := prs_form2 hl
    clear hn hl
    have H0 := Lib.hid ((H0.out.alloc (.cells #[.int .i64 0, .int .i64 0] 39)).alloc (.cells #[.int .i64 0, .int .i64 0] 39))
    generalize boxW ns ls (k : Int) = b at *
    obtain ⟨⟨px, py⟩, ⟨qx, qy⟩⟩ := b
    simp only at HA
    generalize gN ns ls = ns' at *
    generalize gL ns ls = ls' at *
    generalize gA ns ls = ds at *
    generalize wF ns ls = rs at *
    generalize wholeB ns ls = ok at *
    obtain ⟨x0, x1, _⟩ := H0.out.1
    go_enter Tryz.func23, Tryz.ntmps23
    go_wp2_with fail
    refine (HGL.out _ (HN.out.step H0.out.below) (HL.out.step H0.out.below)).mono ?_
    rintro e w1 ⟨v1, v2, v3, v4, rfl, g1, g2, g3, g4, hb⟩
    have H1 := Lib.hid (H0.out.step hb)
    have HX1 := Lib.hid (HR2.out.step hb)
    have HX2 := Lib.hid (HR1.out.step hb)
    have G0 := Lib.hid (heldG w1 v1 v2 v3 v4 66)
    have B1 := Lib.hid (H1.out.below.trans (G0.out.below.mono H1.out.below.size))
    have G1 := Lib.hid (g1.step G0.out.below)
    have G2 := Lib.hid (g2.step G0.out.below)
    have G3 := Lib.hid (g3.step G0.out.below)
    have G4 := Lib.hid (g4.step G0.out.below)
    obtain ⟨A5, c5, rfl⟩ := prs_form2 g1
    obtain ⟨A6, c6, rfl⟩ := prs_form2 g2
    obtain ⟨A7, c7, rfl⟩ := faces_form g3
    obtain ⟨A8, c8, rfl⟩ := ints_form g4
    have HX3 := Lib.hid (HX1.out.step G0.out.below)
    have HX4 := Lib.hid (HX2.out.step G0.out.below)
    clear hb g1 g2 g3 g4 x0 x1 HR1 HR2 HX1 HX2
    obtain ⟨y0, y1, y2, y3, _⟩ := G0.out.1
    go_wp2_with fail
    refine (HH.out _ _ _ _ _ _ _ _ _ _ _ _).mono ?_
    rintro e w2 ⟨rfl, hb⟩
    have B2 := Lib.hid (B1.out.trans (hb.mono B1.out.size))
    have G5 := Lib.hid (G1.out.step hb)
    have G6 := Lib.hid (G2.out.step hb)
    have G7 := Lib.hid (G3.out.step hb)
    have G8 := Lib.hid (G4.out.step hb)
    have G9 := Lib.hid (G0.out.step hb)
    have HX5 := Lib.hid (HX3.out.step hb)
    have HX6 := Lib.hid (HX4.out.step hb)
    clear hb y0 y1 y2 y3 HX3 HX4
    obtain ⟨y0, y1, y2, y3, _⟩ := G9.out.1
    go_wp2_with fail
    refine (HA.out _ _ _ _ _ _ _ G5.out G6.out G7.out G8.out).mono ?_
    rintro e w3 ⟨rfl, hb⟩
    have B3 := Lib.hid (B2.out.trans (hb.mono B2.out.size))
    have HX7 := Lib.hid (HX5.out.step hb)
    have HX8 := Lib.hid (HX6.out.step hb)
    clear hb y0 y1 y2 y3
    obtain ⟨e0, e1, f0, f1⟩ := HX7.out.cells
    obtain ⟨e2, e3, f2, f3⟩ := HX8.out.cells
    have d1 : w.heap.size + 1 + 1 ≠ w.heap.size + 1 := by omega
    have d2 : w.heap.size + 1 ≠ w.heap.size + 1 + 1 := by omega
    go_wp2_with fail
    have K1 := (HX7.out.put px py).far (g := w.heap.size + 1 + 1) (by omega) qx qy
    have K2 := (HX8.out.far (g := w.heap.size + 1) (by omega) px py).put qx qy
    obtain ⟨r0, r1, -, -⟩ := K1.cells
    obtain ⟨r2, r3, -, -⟩ := K2.cells
    refine bodyPost_ret (v := .tuple #[.agg #[.int .i64 px, .int .i64 py], .agg #[.int .i64 qx, .int .i64 qy]]) (by simp [results, Tryz.results23, go_sem, r0, r1, r2, r3]) rfl ⟨rfl, ?_⟩
    exact (((B3.out.setCell (p := ⟨_, _, none⟩) (by show w.heap.size ≤ w.heap.size + 1; omega) _).setCell (p := ⟨_, _, none⟩) (by show w.heap.size ≤ w.heap.size + 1; omega) _).setCell (p := ⟨_, _, none⟩) (by show w.heap.size ≤ w.heap.size + 1 + 1; omega) _).setCell (p := ⟨_, _, none⟩) (by show w.heap.size ≤ w.heap.size + 1 + 1; omega) _
  · have hff : idxB (wF ns ls).length f = false := by simpa using hf
    have HR := Lib.hid (show boxW ns ls f = (⟨0, 0⟩, ⟨0, 0⟩) from if_neg hf)
    rw [hff] at HH
    clear hf hff
    have HN := Lib.hid hn
    have HL := Lib.hid hl
    have HGL := Lib.hid (fun w h1 h2 => implGlass ns ls vn vl w h1 h2)
    unfold GlassNew at HGL
    have H0 := Lib.hid (held_pair w vn vl 31)
    obtain ⟨A, c, rfl⟩ := prs_form2 hn
    obtain ⟨A2, c2, rfl⟩ := prs_form2 hl
    clear hn hl
    have H0 := Lib.hid ((H0.out.alloc (.cells #[.int .i64 0, .int .i64 0] 39)).alloc (.cells #[.int .i64 0, .int .i64 0] 39))
    generalize boxW ns ls f = res at *
    generalize gN ns ls = ns' at *
    generalize gL ns ls = ls' at *
    generalize gA ns ls = ds at *
    generalize wF ns ls = rs at *
    generalize wholeB ns ls = ok at *
    obtain ⟨x0, x1, _⟩ := H0.out.1
    go_enter Tryz.func23, Tryz.ntmps23
    go_wp2_with fail
    refine (HGL.out _ (HN.out.step H0.out.below) (HL.out.step H0.out.below)).mono ?_
    rintro e w1 ⟨v1, v2, v3, v4, rfl, g1, g2, g3, g4, hb⟩
    have H1 := Lib.hid (H0.out.step hb)
    have HX1 := Lib.hid (HR2.out.step hb)
    have HX2 := Lib.hid (HR1.out.step hb)
    have G0 := Lib.hid (heldG w1 v1 v2 v3 v4 66)
    have B1 := Lib.hid (H1.out.below.trans (G0.out.below.mono H1.out.below.size))
    obtain ⟨A5, c5, rfl⟩ := prs_form2 g1
    obtain ⟨A6, c6, rfl⟩ := prs_form2 g2
    obtain ⟨A7, c7, rfl⟩ := faces_form g3
    obtain ⟨A8, c8, rfl⟩ := ints_form g4
    have HX3 := Lib.hid (HX1.out.step G0.out.below)
    have HX4 := Lib.hid (HX2.out.step G0.out.below)
    clear hb g1 g2 g3 g4 x0 x1 HR1 HR2 HX1 HX2
    obtain ⟨y0, y1, y2, y3, _⟩ := G0.out.1
    go_wp2_with fail
    refine (HH.out _ _ _ _ _ _ _ _ _ _ _ _).mono ?_
    rintro e w2 ⟨rfl, hb⟩
    have B2 := Lib.hid (B1.out.trans (hb.mono B1.out.size))
    have HX7 := Lib.hid (HX3.out.step hb)
    have HX8 := Lib.hid (HX4.out.step hb)
    clear hb y0 y1 y2 y3 HX3 HX4
    obtain ⟨e0, e1, f0, f1⟩ := HX7.out.cells
    obtain ⟨e2, e3, f2, f3⟩ := HX8.out.cells
    have d1 : w.heap.size + 1 + 1 ≠ w.heap.size + 1 := by omega
    have d2 : w.heap.size + 1 ≠ w.heap.size + 1 + 1 := by omega
    go_wp2_with fail
    have K1 := (HX7.out.put 0 0).far (g := w.heap.size + 1 + 1) (by omega) 0 0
    have K2 := (HX8.out.far (g := w.heap.size + 1) (by omega) 0 0).put 0 0
    obtain ⟨r0, r1, -, -⟩ := K1.cells
    obtain ⟨r2, r3, -, -⟩ := K2.cells
    refine bodyPost_ret (v := .tuple #[.agg #[.int .i64 0, .int .i64 0], .agg #[.int .i64 0, .int .i64 0]]) (by simp [results, Tryz.results23, go_sem, r0, r1, r2, r3]) rfl ⟨by rw [HR.out], ?_⟩
    exact (((B2.out.setCell (p := ⟨_, _, none⟩) (by show w.heap.size ≤ w.heap.size + 1; omega) _).setCell (p := ⟨_, _, none⟩) (by show w.heap.size ≤ w.heap.size + 1; omega) _).setCell (p := ⟨_, _, none⟩) (by show w.heap.size ≤ w.heap.size + 1 + 1; omega) _).setCell (p := ⟨_, _, none⟩) (by show w.heap.size ≤ w.heap.size + 1 + 1; omega) _
end Go.Proofs.YtmboilogcnmlnaaGreat
