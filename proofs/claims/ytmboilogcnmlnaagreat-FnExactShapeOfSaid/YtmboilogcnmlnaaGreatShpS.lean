/-
  Shapes settled in the corner, of the program and of the model.
-/
import Derived.Test.YtmboilogcnmlnaaGreatShpI
import Derived.Lib.MinMax
namespace Go.Proofs.YtmboilogcnmlnaaGreat
open Go.RowKit
set_option linter.unusedVariables false
set_option linter.unusedSimpArgs false

/-- The first new block holds the corner. -/
def Cb (w W : World) (x y : Int) : Prop := W.heap[w.heap.size]? = some (.cells #[.int .i64 x, .int .i64 y] 39) ∧ Below w.heap.size w W

theorem Cb.step {w W W' : World} {x y : Int} (h : Cb w W x y) (hb : Below W.heap.size W W') : Cb w W' x y := ⟨(hb.block _ (lt_of_block h.1)).trans h.1, h.2.trans (hb.mono h.2.size)⟩

theorem Cb.start (w : World) (x y : Int) : Cb w (w.alloc (.cells #[.int .i64 x, .int .i64 y] 39)) x y := ⟨heap_alloc_new w _, (Below.refl _ _).alloc (Nat.le_refl _) _⟩

theorem Cb.put {w W : World} {x y : Int} (h : Cb w W x y) (a b : Int) : Cb w ((W.setCell ⟨w.heap.size, 0, none⟩ (.int .i64 a)).setCell ⟨w.heap.size, 1, none⟩ (.int .i64 b)) a b :=
  ⟨heap_setCell_self (k := 1) (heap_setCell_self (k := 0) h.1 (.int .i64 a)) (.int .i64 b), (h.2.setCell (p := ⟨_, _, none⟩) (Nat.le_refl _) _).setCell (p := ⟨_, _, none⟩) (Nat.le_refl _) _⟩

set_option maxRecDepth 100000 in
set_option maxHeartbeats 2000000 in
theorem implSettled (xs : List Nd) (v : Value) (w : World) (hv : Prs w v xs) (h0 : 0 < xs.length) (hl : xs.length ≤ 1048576) (hs : SmlN xs) :
    Calls Tryz.prog 92 #[v] w (OwnSome 39 (fitL xs) w) := by
  have HN := Lib.hid hv
  have HSM := Lib.hid hs
  have HBD := Lib.hid (mn_bd hs h0)
  have HX1 := Lib.hid (mnX_succ xs)
  have HY1 := Lib.hid (mnY_succ xs)
  have HX0 := Lib.hid (show mnX xs 0 = (atN xs 0).x from rfl)
  have HY0 := Lib.hid (show mnY xs 0 = (atN xs 0).y from rfl)
  have HL1 := Lib.hid (lowF_succ xs)
  have HL0 := Lib.hid (show lowF xs 0 = 0 from rfl)
  have HLL := Lib.hid (lowF_lt h0)
  obtain ⟨A, c, rfl⟩ := prs_form2 hv
  clear hv hs
  have hlt : 0 < xs.length := h0
  obtain ⟨bb, o, c', he, hbl, hcs⟩ := prs_at2 HN.out hlt
  injection he with he1 he2 he3
  subst he1
  have HCS := Lib.hid hcs
  clear hcs he2 he3
  clear hlt
  have h0i : (0 : Int) < (xs.length : Int) := by omega
  have p0 := (HCS.out 0 h0).1
  have p1 := (HCS.out 0 h0).2
  simp only [Nat.zero_mul, Nat.add_zero, Nat.zero_add] at p0 p1
  rw [← HX0.out] at p0
  rw [← HY0.out] at p1
  have HFS := Lib.hid (fitN_succ xs)
  have HLN := Lib.hid (fitN_len xs)
  have HF0 := Lib.hid (show fitN xs 0 = [] from rfl)
  have HFE := Lib.hid (show fitN xs xs.length = fitL xs from rfl)
  generalize mnX xs = MX at *
  generalize mnY xs = MY at *
  generalize lowF xs = LF at *
  generalize fitN xs = X at *
  generalize fitL xs = R at *
  have HC9 := Lib.hid (Cb.start w (MX 0) (MY 0))
  go_enter Tryz.func92, Tryz.ntmps92
  go_wp2_with fail
  clear p0 p1
  go_loopw [4, 16] (fun vf i wr => ∃ m : Nat, m ≤ xs.length ∧ i = .int .i64 m ∧ vf = .int .i64 ((LF m : Nat) : Int) ∧ Cb w wr (MX m) (MY m)) (fun _ i _ => xs.length - (intOf i).toNat)
  case atStart => exact ⟨0, Nat.zero_le _, rfl, by rw [HL0.out]; rfl, HC9.out⟩
  case round =>
    clear HC9
    obtain ⟨m, hm, rfl, rfl, hh⟩ := hrel
    have HC9 := Lib.hid hh; clear hh
    have q1 : (0 : Int) ≤ m := by omega
    by_cases hlt : m < xs.length
    · have q2 : (m : Int) < (xs.length : Int) := by omega
      have p0 := (HC9.out.2.cell (p := ⟨bb, _, none⟩) hbl).trans (HCS.out m hlt).1
      have p1 := (HC9.out.2.cell (p := ⟨bb, _, none⟩) hbl).trans (HCS.out m hlt).2
      obtain ⟨nx, ny, hnm⟩ : ∃ nx ny, atN xs m = ⟨nx, ny⟩ := ⟨_, _, rfl⟩
      rw [hnm] at p0 p1
      simp only at p0 p1
      have hlq := HLL.out m (by omega)
      have q3 : (0 : Int) ≤ (LF m : Int) := by omega
      have q4 : (LF m : Int) < (xs.length : Int) := by omega
      have HP2 := Lib.hid (HCS.out (LF m) hlq)
      have HBF := Lib.hid (implBef ⟨nx, ny⟩ (atN xs (LF m)))
      have HLS := Lib.hid (HL1.out m)
      have HXS := Lib.hid (HX1.out m)
      have HYS := Lib.hid (HY1.out m)
      have HNM := Lib.hid hnm; clear hnm
      rw [HNM.out] at HLS HXS HYS
      simp only at HXS HYS
      generalize befB ⟨nx, ny⟩ (atN xs (LF m)) = r at *
      generalize atN xs (LF m) = fn at *
      obtain ⟨fx, fy⟩ := fn
      unfold Nd.val at HBF
      simp only at HBF HP2
      generalize hlf : LF m = lf at *
      clear hlf hlq
      generalize MX m = cx at *
      generalize MY m = cy at *
      have k9 := HC9.out.1
      have z0 : _ = some (Value.int .i64 _) := (cell_of_cells (k := 0) k9).trans rfl
      have z1 : _ = some (Value.int .i64 _) := (cell_of_cells (k := 1) k9).trans rfl
      have f0 := free_of_cells (k := 0) k9
      have f1 := free_of_cells (k := 1) k9
      have y9 := lt_of_block k9
      clear k9
      by_cases h1 : nx < cx
      · have h1' : ¬ cx ≤ nx := by omega
        by_cases h2 : ny < cy
        · have h2' : ¬ cy ≤ ny := by omega
          have HXE := Lib.hid (show MX (m + 1) = nx from by rw [HXS.out]; omega)
          have HYE := Lib.hid (show MY (m + 1) = ny from by rw [HYS.out]; omega)
          have hm1 : min cx nx = nx := by omega
          have hm2 : min cy ny = ny := by omega
          have hm3 : min nx cx = nx := by omega
          have hm4 : min ny cy = ny := by omega
          go_wp2_with fail
          clear z0 z1 f0 f1 h1 h1' h2 h2' p0 p1 hm1 hm2 hm3 hm4
          have HC5 := Lib.hid ((HC9.out.put nx ny).step ((Below.refl _ _).alloc (Nat.le_refl _) (.cells #[.int .i64 nx, .int .i64 ny] 39)))
          have N5 := heap_alloc_new ((wr.setCell ⟨w.heap.size, 0, none⟩ (.int .i64 nx)).setCell ⟨w.heap.size, 1, none⟩ (.int .i64 ny)) (.cells #[.int .i64 nx, .int .i64 ny] 39)
          rw [heap_setCell_size, heap_setCell_size] at N5
          generalize ((wr.setCell ⟨w.heap.size, 0, none⟩ (.int .i64 nx)).setCell ⟨w.heap.size, 1, none⟩ (.int .i64 ny)).alloc (.cells #[.int .i64 nx, .int .i64 ny] 39) = W5 at *
          have H3 := Lib.hid (show Held W5 W5 [(wr.heap.size, 0, .int .i64 nx), (wr.heap.size, 1, .int .i64 ny), (bb, o + lf * 2, .int .i64 fx), (bb, o + lf * 2 + 1, .int .i64 fy)] from ⟨⟨(cell_of_cells (k := 0) N5).trans rfl, (cell_of_cells (k := 1) N5).trans rfl, (HC5.out.2.cell (p := ⟨bb, _, none⟩) hbl).trans HP2.out.1, (HC5.out.2.cell (p := ⟨bb, _, none⟩) hbl).trans HP2.out.2, trivial⟩, ⟨lt_of_block N5, lt_of_block N5, Nat.lt_of_lt_of_le hbl HC5.out.2.size, Nat.lt_of_lt_of_le hbl HC5.out.2.size, trivial⟩, Below.refl _ _⟩)
          clear N5
          cases r
          · rw [if_neg (by simp)] at HLS
            refine regionD (S := fun W => Held _ W [(wr.heap.size, 0, .int .i64 (nx)), (wr.heap.size, 1, .int .i64 (ny)), (bb, o + lf * 2, .int .i64 (fx)), (bb, o + lf * 2 + 1, .int .i64 (fy))]) (by kernel_rfl) H3.out.drew ?_
            iterate 6 (refine takeT (v := ?_) rfl (by kernel_rfl) (by kernel_rfl) (by kernel_rfl) ?_ ?_; rotate_left; (first | (refine Or.inr ⟨by rfl, ?_⟩; with_reducible rfl) | (refine Or.inl ⟨by rfl, fun W hS => detRes_value (w' := W) ?_ hS⟩; obtain ⟨x0, x1, x2, x3, _⟩ := hS.1; go_simp; first | done | with_reducible rfl) | (refine Or.inl ⟨by rfl, fun W hS => ?_⟩; refine detRes_call (w' := W) (f := ?_) (args := ?_) ?_ ?_; rotate_left 2; (go_simp; (refine ⟨?_, ?_⟩ <;> with_reducible rfl)); (first | (with_reducible refine (HBF.out _).mono ?_) | fail); (first | (rintro e wn ⟨rfl, hb⟩; refine ⟨?_, hS.step hb⟩; with_reducible rfl) | (rintro e wn ⟨rfl, rfl⟩; refine ⟨?_, hS⟩; with_reducible rfl) | fail)) | fail); (simp only [Act.put, List.setIfInBounds_toArray, List.set_cons_zero, List.set_cons_succ]))
            refine doneD (by kernel_rfl) fun wH4 HS => ?_
            have H4 := Lib.hid HS; clear HS
            try clear x0 x1 x2 x3
            obtain ⟨x0, x1, x2, x3, _⟩ := H4.out.1
            go_wp2_with fail
            exact ⟨⟨m + 1, by omega, by go_num, by rw [HLS.out], by rw [HXE.out, HYE.out]; exact HC5.out.step H4.out.below⟩, by simp [intOf]; omega⟩
          · rw [if_pos rfl] at HLS
            refine regionD (S := fun W => Held _ W [(wr.heap.size, 0, .int .i64 (nx)), (wr.heap.size, 1, .int .i64 (ny)), (bb, o + lf * 2, .int .i64 (fx)), (bb, o + lf * 2 + 1, .int .i64 (fy))]) (by kernel_rfl) H3.out.drew ?_
            iterate 6 (refine takeT (v := ?_) rfl (by kernel_rfl) (by kernel_rfl) (by kernel_rfl) ?_ ?_; rotate_left; (first | (refine Or.inr ⟨by rfl, ?_⟩; with_reducible rfl) | (refine Or.inl ⟨by rfl, fun W hS => detRes_value (w' := W) ?_ hS⟩; obtain ⟨x0, x1, x2, x3, _⟩ := hS.1; go_simp; first | done | with_reducible rfl) | (refine Or.inl ⟨by rfl, fun W hS => ?_⟩; refine detRes_call (w' := W) (f := ?_) (args := ?_) ?_ ?_; rotate_left 2; (go_simp; (refine ⟨?_, ?_⟩ <;> with_reducible rfl)); (first | (with_reducible refine (HBF.out _).mono ?_) | fail); (first | (rintro e wn ⟨rfl, hb⟩; refine ⟨?_, hS.step hb⟩; with_reducible rfl) | (rintro e wn ⟨rfl, rfl⟩; refine ⟨?_, hS⟩; with_reducible rfl) | fail)) | fail); (simp only [Act.put, List.setIfInBounds_toArray, List.set_cons_zero, List.set_cons_succ]))
            refine doneD (by kernel_rfl) fun wH4 HS => ?_
            have H4 := Lib.hid HS; clear HS
            try clear x0 x1 x2 x3
            obtain ⟨x0, x1, x2, x3, _⟩ := H4.out.1
            go_wp2_with fail
            exact ⟨⟨m + 1, by omega, by go_num, by rw [HLS.out], by rw [HXE.out, HYE.out]; exact HC5.out.step H4.out.below⟩, by simp [intOf]; omega⟩
        · have h2' : cy ≤ ny := by omega
          have HXE := Lib.hid (show MX (m + 1) = nx from by rw [HXS.out]; omega)
          have HYE := Lib.hid (show MY (m + 1) = cy from by rw [HYS.out]; omega)
          have hm1 : min cx nx = nx := by omega
          have hm2 : min cy ny = cy := by omega
          have hm3 : min nx cx = nx := by omega
          have hm4 : min ny cy = cy := by omega
          go_wp2_with fail
          clear z0 z1 f0 f1 h1 h1' h2 h2' p0 p1 hm1 hm2 hm3 hm4
          have HC5 := Lib.hid ((HC9.out.put nx cy).step ((Below.refl _ _).alloc (Nat.le_refl _) (.cells #[.int .i64 nx, .int .i64 ny] 39)))
          have N5 := heap_alloc_new ((wr.setCell ⟨w.heap.size, 0, none⟩ (.int .i64 nx)).setCell ⟨w.heap.size, 1, none⟩ (.int .i64 cy)) (.cells #[.int .i64 nx, .int .i64 ny] 39)
          rw [heap_setCell_size, heap_setCell_size] at N5
          generalize ((wr.setCell ⟨w.heap.size, 0, none⟩ (.int .i64 nx)).setCell ⟨w.heap.size, 1, none⟩ (.int .i64 cy)).alloc (.cells #[.int .i64 nx, .int .i64 ny] 39) = W5 at *
          have H3 := Lib.hid (show Held W5 W5 [(wr.heap.size, 0, .int .i64 nx), (wr.heap.size, 1, .int .i64 ny), (bb, o + lf * 2, .int .i64 fx), (bb, o + lf * 2 + 1, .int .i64 fy)] from ⟨⟨(cell_of_cells (k := 0) N5).trans rfl, (cell_of_cells (k := 1) N5).trans rfl, (HC5.out.2.cell (p := ⟨bb, _, none⟩) hbl).trans HP2.out.1, (HC5.out.2.cell (p := ⟨bb, _, none⟩) hbl).trans HP2.out.2, trivial⟩, ⟨lt_of_block N5, lt_of_block N5, Nat.lt_of_lt_of_le hbl HC5.out.2.size, Nat.lt_of_lt_of_le hbl HC5.out.2.size, trivial⟩, Below.refl _ _⟩)
          clear N5
          cases r
          · rw [if_neg (by simp)] at HLS
            refine regionD (S := fun W => Held _ W [(wr.heap.size, 0, .int .i64 (nx)), (wr.heap.size, 1, .int .i64 (ny)), (bb, o + lf * 2, .int .i64 (fx)), (bb, o + lf * 2 + 1, .int .i64 (fy))]) (by kernel_rfl) H3.out.drew ?_
            iterate 6 (refine takeT (v := ?_) rfl (by kernel_rfl) (by kernel_rfl) (by kernel_rfl) ?_ ?_; rotate_left; (first | (refine Or.inr ⟨by rfl, ?_⟩; with_reducible rfl) | (refine Or.inl ⟨by rfl, fun W hS => detRes_value (w' := W) ?_ hS⟩; obtain ⟨x0, x1, x2, x3, _⟩ := hS.1; go_simp; first | done | with_reducible rfl) | (refine Or.inl ⟨by rfl, fun W hS => ?_⟩; refine detRes_call (w' := W) (f := ?_) (args := ?_) ?_ ?_; rotate_left 2; (go_simp; (refine ⟨?_, ?_⟩ <;> with_reducible rfl)); (first | (with_reducible refine (HBF.out _).mono ?_) | fail); (first | (rintro e wn ⟨rfl, hb⟩; refine ⟨?_, hS.step hb⟩; with_reducible rfl) | (rintro e wn ⟨rfl, rfl⟩; refine ⟨?_, hS⟩; with_reducible rfl) | fail)) | fail); (simp only [Act.put, List.setIfInBounds_toArray, List.set_cons_zero, List.set_cons_succ]))
            refine doneD (by kernel_rfl) fun wH4 HS => ?_
            have H4 := Lib.hid HS; clear HS
            try clear x0 x1 x2 x3
            obtain ⟨x0, x1, x2, x3, _⟩ := H4.out.1
            go_wp2_with fail
            exact ⟨⟨m + 1, by omega, by go_num, by rw [HLS.out], by rw [HXE.out, HYE.out]; exact HC5.out.step H4.out.below⟩, by simp [intOf]; omega⟩
          · rw [if_pos rfl] at HLS
            refine regionD (S := fun W => Held _ W [(wr.heap.size, 0, .int .i64 (nx)), (wr.heap.size, 1, .int .i64 (ny)), (bb, o + lf * 2, .int .i64 (fx)), (bb, o + lf * 2 + 1, .int .i64 (fy))]) (by kernel_rfl) H3.out.drew ?_
            iterate 6 (refine takeT (v := ?_) rfl (by kernel_rfl) (by kernel_rfl) (by kernel_rfl) ?_ ?_; rotate_left; (first | (refine Or.inr ⟨by rfl, ?_⟩; with_reducible rfl) | (refine Or.inl ⟨by rfl, fun W hS => detRes_value (w' := W) ?_ hS⟩; obtain ⟨x0, x1, x2, x3, _⟩ := hS.1; go_simp; first | done | with_reducible rfl) | (refine Or.inl ⟨by rfl, fun W hS => ?_⟩; refine detRes_call (w' := W) (f := ?_) (args := ?_) ?_ ?_; rotate_left 2; (go_simp; (refine ⟨?_, ?_⟩ <;> with_reducible rfl)); (first | (with_reducible refine (HBF.out _).mono ?_) | fail); (first | (rintro e wn ⟨rfl, hb⟩; refine ⟨?_, hS.step hb⟩; with_reducible rfl) | (rintro e wn ⟨rfl, rfl⟩; refine ⟨?_, hS⟩; with_reducible rfl) | fail)) | fail); (simp only [Act.put, List.setIfInBounds_toArray, List.set_cons_zero, List.set_cons_succ]))
            refine doneD (by kernel_rfl) fun wH4 HS => ?_
            have H4 := Lib.hid HS; clear HS
            try clear x0 x1 x2 x3
            obtain ⟨x0, x1, x2, x3, _⟩ := H4.out.1
            go_wp2_with fail
            exact ⟨⟨m + 1, by omega, by go_num, by rw [HLS.out], by rw [HXE.out, HYE.out]; exact HC5.out.step H4.out.below⟩, by simp [intOf]; omega⟩
      · have h1' : cx ≤ nx := by omega
        by_cases h2 : ny < cy
        · have h2' : ¬ cy ≤ ny := by omega
          have HXE := Lib.hid (show MX (m + 1) = cx from by rw [HXS.out]; omega)
          have HYE := Lib.hid (show MY (m + 1) = ny from by rw [HYS.out]; omega)
          have hm1 : min cx nx = cx := by omega
          have hm2 : min cy ny = ny := by omega
          have hm3 : min nx cx = cx := by omega
          have hm4 : min ny cy = ny := by omega
          go_wp2_with fail
          clear z0 z1 f0 f1 h1 h1' h2 h2' p0 p1 hm1 hm2 hm3 hm4
          have HC5 := Lib.hid ((HC9.out.put cx ny).step ((Below.refl _ _).alloc (Nat.le_refl _) (.cells #[.int .i64 nx, .int .i64 ny] 39)))
          have N5 := heap_alloc_new ((wr.setCell ⟨w.heap.size, 0, none⟩ (.int .i64 cx)).setCell ⟨w.heap.size, 1, none⟩ (.int .i64 ny)) (.cells #[.int .i64 nx, .int .i64 ny] 39)
          rw [heap_setCell_size, heap_setCell_size] at N5
          generalize ((wr.setCell ⟨w.heap.size, 0, none⟩ (.int .i64 cx)).setCell ⟨w.heap.size, 1, none⟩ (.int .i64 ny)).alloc (.cells #[.int .i64 nx, .int .i64 ny] 39) = W5 at *
          have H3 := Lib.hid (show Held W5 W5 [(wr.heap.size, 0, .int .i64 nx), (wr.heap.size, 1, .int .i64 ny), (bb, o + lf * 2, .int .i64 fx), (bb, o + lf * 2 + 1, .int .i64 fy)] from ⟨⟨(cell_of_cells (k := 0) N5).trans rfl, (cell_of_cells (k := 1) N5).trans rfl, (HC5.out.2.cell (p := ⟨bb, _, none⟩) hbl).trans HP2.out.1, (HC5.out.2.cell (p := ⟨bb, _, none⟩) hbl).trans HP2.out.2, trivial⟩, ⟨lt_of_block N5, lt_of_block N5, Nat.lt_of_lt_of_le hbl HC5.out.2.size, Nat.lt_of_lt_of_le hbl HC5.out.2.size, trivial⟩, Below.refl _ _⟩)
          clear N5
          cases r
          · rw [if_neg (by simp)] at HLS
            refine regionD (S := fun W => Held _ W [(wr.heap.size, 0, .int .i64 (nx)), (wr.heap.size, 1, .int .i64 (ny)), (bb, o + lf * 2, .int .i64 (fx)), (bb, o + lf * 2 + 1, .int .i64 (fy))]) (by kernel_rfl) H3.out.drew ?_
            iterate 6 (refine takeT (v := ?_) rfl (by kernel_rfl) (by kernel_rfl) (by kernel_rfl) ?_ ?_; rotate_left; (first | (refine Or.inr ⟨by rfl, ?_⟩; with_reducible rfl) | (refine Or.inl ⟨by rfl, fun W hS => detRes_value (w' := W) ?_ hS⟩; obtain ⟨x0, x1, x2, x3, _⟩ := hS.1; go_simp; first | done | with_reducible rfl) | (refine Or.inl ⟨by rfl, fun W hS => ?_⟩; refine detRes_call (w' := W) (f := ?_) (args := ?_) ?_ ?_; rotate_left 2; (go_simp; (refine ⟨?_, ?_⟩ <;> with_reducible rfl)); (first | (with_reducible refine (HBF.out _).mono ?_) | fail); (first | (rintro e wn ⟨rfl, hb⟩; refine ⟨?_, hS.step hb⟩; with_reducible rfl) | (rintro e wn ⟨rfl, rfl⟩; refine ⟨?_, hS⟩; with_reducible rfl) | fail)) | fail); (simp only [Act.put, List.setIfInBounds_toArray, List.set_cons_zero, List.set_cons_succ]))
            refine doneD (by kernel_rfl) fun wH4 HS => ?_
            have H4 := Lib.hid HS; clear HS
            try clear x0 x1 x2 x3
            obtain ⟨x0, x1, x2, x3, _⟩ := H4.out.1
            go_wp2_with fail
            exact ⟨⟨m + 1, by omega, by go_num, by rw [HLS.out], by rw [HXE.out, HYE.out]; exact HC5.out.step H4.out.below⟩, by simp [intOf]; omega⟩
          · rw [if_pos rfl] at HLS
            refine regionD (S := fun W => Held _ W [(wr.heap.size, 0, .int .i64 (nx)), (wr.heap.size, 1, .int .i64 (ny)), (bb, o + lf * 2, .int .i64 (fx)), (bb, o + lf * 2 + 1, .int .i64 (fy))]) (by kernel_rfl) H3.out.drew ?_
            iterate 6 (refine takeT (v := ?_) rfl (by kernel_rfl) (by kernel_rfl) (by kernel_rfl) ?_ ?_; rotate_left; (first | (refine Or.inr ⟨by rfl, ?_⟩; with_reducible rfl) | (refine Or.inl ⟨by rfl, fun W hS => detRes_value (w' := W) ?_ hS⟩; obtain ⟨x0, x1, x2, x3, _⟩ := hS.1; go_simp; first | done | with_reducible rfl) | (refine Or.inl ⟨by rfl, fun W hS => ?_⟩; refine detRes_call (w' := W) (f := ?_) (args := ?_) ?_ ?_; rotate_left 2; (go_simp; (refine ⟨?_, ?_⟩ <;> with_reducible rfl)); (first | (with_reducible refine (HBF.out _).mono ?_) | fail); (first | (rintro e wn ⟨rfl, hb⟩; refine ⟨?_, hS.step hb⟩; with_reducible rfl) | (rintro e wn ⟨rfl, rfl⟩; refine ⟨?_, hS⟩; with_reducible rfl) | fail)) | fail); (simp only [Act.put, List.setIfInBounds_toArray, List.set_cons_zero, List.set_cons_succ]))
            refine doneD (by kernel_rfl) fun wH4 HS => ?_
            have H4 := Lib.hid HS; clear HS
            try clear x0 x1 x2 x3
            obtain ⟨x0, x1, x2, x3, _⟩ := H4.out.1
            go_wp2_with fail
            exact ⟨⟨m + 1, by omega, by go_num, by rw [HLS.out], by rw [HXE.out, HYE.out]; exact HC5.out.step H4.out.below⟩, by simp [intOf]; omega⟩
        · have h2' : cy ≤ ny := by omega
          have HXE := Lib.hid (show MX (m + 1) = cx from by rw [HXS.out]; omega)
          have HYE := Lib.hid (show MY (m + 1) = cy from by rw [HYS.out]; omega)
          have hm1 : min cx nx = cx := by omega
          have hm2 : min cy ny = cy := by omega
          have hm3 : min nx cx = cx := by omega
          have hm4 : min ny cy = cy := by omega
          go_wp2_with fail
          clear z0 z1 f0 f1 h1 h1' h2 h2' p0 p1 hm1 hm2 hm3 hm4
          have HC5 := Lib.hid ((HC9.out.put cx cy).step ((Below.refl _ _).alloc (Nat.le_refl _) (.cells #[.int .i64 nx, .int .i64 ny] 39)))
          have N5 := heap_alloc_new ((wr.setCell ⟨w.heap.size, 0, none⟩ (.int .i64 cx)).setCell ⟨w.heap.size, 1, none⟩ (.int .i64 cy)) (.cells #[.int .i64 nx, .int .i64 ny] 39)
          rw [heap_setCell_size, heap_setCell_size] at N5
          generalize ((wr.setCell ⟨w.heap.size, 0, none⟩ (.int .i64 cx)).setCell ⟨w.heap.size, 1, none⟩ (.int .i64 cy)).alloc (.cells #[.int .i64 nx, .int .i64 ny] 39) = W5 at *
          have H3 := Lib.hid (show Held W5 W5 [(wr.heap.size, 0, .int .i64 nx), (wr.heap.size, 1, .int .i64 ny), (bb, o + lf * 2, .int .i64 fx), (bb, o + lf * 2 + 1, .int .i64 fy)] from ⟨⟨(cell_of_cells (k := 0) N5).trans rfl, (cell_of_cells (k := 1) N5).trans rfl, (HC5.out.2.cell (p := ⟨bb, _, none⟩) hbl).trans HP2.out.1, (HC5.out.2.cell (p := ⟨bb, _, none⟩) hbl).trans HP2.out.2, trivial⟩, ⟨lt_of_block N5, lt_of_block N5, Nat.lt_of_lt_of_le hbl HC5.out.2.size, Nat.lt_of_lt_of_le hbl HC5.out.2.size, trivial⟩, Below.refl _ _⟩)
          clear N5
          cases r
          · rw [if_neg (by simp)] at HLS
            refine regionD (S := fun W => Held _ W [(wr.heap.size, 0, .int .i64 (nx)), (wr.heap.size, 1, .int .i64 (ny)), (bb, o + lf * 2, .int .i64 (fx)), (bb, o + lf * 2 + 1, .int .i64 (fy))]) (by kernel_rfl) H3.out.drew ?_
            iterate 6 (refine takeT (v := ?_) rfl (by kernel_rfl) (by kernel_rfl) (by kernel_rfl) ?_ ?_; rotate_left; (first | (refine Or.inr ⟨by rfl, ?_⟩; with_reducible rfl) | (refine Or.inl ⟨by rfl, fun W hS => detRes_value (w' := W) ?_ hS⟩; obtain ⟨x0, x1, x2, x3, _⟩ := hS.1; go_simp; first | done | with_reducible rfl) | (refine Or.inl ⟨by rfl, fun W hS => ?_⟩; refine detRes_call (w' := W) (f := ?_) (args := ?_) ?_ ?_; rotate_left 2; (go_simp; (refine ⟨?_, ?_⟩ <;> with_reducible rfl)); (first | (with_reducible refine (HBF.out _).mono ?_) | fail); (first | (rintro e wn ⟨rfl, hb⟩; refine ⟨?_, hS.step hb⟩; with_reducible rfl) | (rintro e wn ⟨rfl, rfl⟩; refine ⟨?_, hS⟩; with_reducible rfl) | fail)) | fail); (simp only [Act.put, List.setIfInBounds_toArray, List.set_cons_zero, List.set_cons_succ]))
            refine doneD (by kernel_rfl) fun wH4 HS => ?_
            have H4 := Lib.hid HS; clear HS
            try clear x0 x1 x2 x3
            obtain ⟨x0, x1, x2, x3, _⟩ := H4.out.1
            go_wp2_with fail
            exact ⟨⟨m + 1, by omega, by go_num, by rw [HLS.out], by rw [HXE.out, HYE.out]; exact HC5.out.step H4.out.below⟩, by simp [intOf]; omega⟩
          · rw [if_pos rfl] at HLS
            refine regionD (S := fun W => Held _ W [(wr.heap.size, 0, .int .i64 (nx)), (wr.heap.size, 1, .int .i64 (ny)), (bb, o + lf * 2, .int .i64 (fx)), (bb, o + lf * 2 + 1, .int .i64 (fy))]) (by kernel_rfl) H3.out.drew ?_
            iterate 6 (refine takeT (v := ?_) rfl (by kernel_rfl) (by kernel_rfl) (by kernel_rfl) ?_ ?_; rotate_left; (first | (refine Or.inr ⟨by rfl, ?_⟩; with_reducible rfl) | (refine Or.inl ⟨by rfl, fun W hS => detRes_value (w' := W) ?_ hS⟩; obtain ⟨x0, x1, x2, x3, _⟩ := hS.1; go_simp; first | done | with_reducible rfl) | (refine Or.inl ⟨by rfl, fun W hS => ?_⟩; refine detRes_call (w' := W) (f := ?_) (args := ?_) ?_ ?_; rotate_left 2; (go_simp; (refine ⟨?_, ?_⟩ <;> with_reducible rfl)); (first | (with_reducible refine (HBF.out _).mono ?_) | fail); (first | (rintro e wn ⟨rfl, hb⟩; refine ⟨?_, hS.step hb⟩; with_reducible rfl) | (rintro e wn ⟨rfl, rfl⟩; refine ⟨?_, hS⟩; with_reducible rfl) | fail)) | fail); (simp only [Act.put, List.setIfInBounds_toArray, List.set_cons_zero, List.set_cons_succ]))
            refine doneD (by kernel_rfl) fun wH4 HS => ?_
            have H4 := Lib.hid HS; clear HS
            try clear x0 x1 x2 x3
            obtain ⟨x0, x1, x2, x3, _⟩ := H4.out.1
            go_wp2_with fail
            exact ⟨⟨m + 1, by omega, by go_num, by rw [HLS.out], by rw [HXE.out, HYE.out]; exact HC5.out.step H4.out.below⟩, by simp [intOf]; omega⟩
    · obtain rfl : m = xs.length := by omega
      have HLQ := Lib.hid (HLL.out xs.length (Nat.le_refl _))
      obtain ⟨b1, b2⟩ := HBD.out xs.length (Nat.le_refl _)
      obtain ⟨i0, hi', hz0, hz1, hz2⟩ := info_parts infoNode
      have HI := Lib.hid (And.intro hi' (And.intro hz0 (And.intro hz1 hz2))); clear hi' hz0 hz1 hz2
      clear HL1 HL0 HLL HX1 HX0 HY1 HY0 HBD
      generalize LF xs.length = LQ at *
      generalize MX xs.length = cx at *
      generalize MY xs.length = cy at *
      have hlt2 : ¬ (xs.length : Int) < (xs.length : Int) := by omega
      have k9 := HC9.out.1
      have z0 : _ = some (Value.int .i64 _) := (cell_of_cells (k := 0) k9).trans rfl
      have z1 : _ = some (Value.int .i64 _) := (cell_of_cells (k := 1) k9).trans rfl
      have f0 := free_of_cells (k := 0) k9
      have f1 := free_of_cells (k := 1) k9
      have y9 := lt_of_block k9
      clear k9
      have HC8 := Lib.hid (HC9.out.step ((Below.refl _ _).alloc (Nat.le_refl _) (.cells #[] 39)))
      have HM8 := Lib.hid (Own.made wr wr.heap.size (w.heap.size + 1) 39 rfl (by omega))
      go_wp2_with fail
      clear z0 z1 f0 f1 y9
      go_loopw [7, 43] (fun u i wr2 => ∃ m : Nat, m ≤ xs.length ∧ i = .int .i64 m ∧ (∃ g c, u = .slice (some ⟨g, 0, none⟩) (X m).length c) ∧ Own wr2 (w.heap.size + 1) 39 u (X m) ∧ Cb w wr2 cx cy) (fun _ i _ => xs.length - (intOf i).toNat)
      case atStart => exact ⟨0, Nat.zero_le _, rfl, ⟨_, _, by rw [HF0.out]; rfl⟩, by rw [HF0.out]; exact HM8.out, HC8.out⟩
      case round =>
        clear HC9 HC8 HM8
        obtain ⟨m, hm, rfl, ⟨g, cg, rfl⟩, hown, hh⟩ := hrel
        have HO1 := Lib.hid hown; clear hown
        have HC9 := Lib.hid hh; clear hh
        have q1 : (0 : Int) ≤ m := by omega
        by_cases hlt : m < xs.length
        · have q2 : (m : Int) < (xs.length : Int) := by omega
          have HFM := Lib.hid (HFS.out m)
          have hln : (X m).length ≤ 1048576 := by have := HLN.out m; omega
          have hjl := Nat.mod_lt (LQ + m) h0
          have hlq := HLQ.out
          have hjm : Int.tmod ((LQ : Int) + (m : Int)) (xs.length : Int) = (((LQ + m) % xs.length : Nat) : Int) := by
            rw [Int.tmod_eq_emod_of_nonneg (by omega)]
            exact_mod_cast rfl
          have hsm := HSM.out _ hjl
          have p0 := (HC9.out.2.cell (p := ⟨bb, _, none⟩) hbl).trans (HCS.out _ hjl).1
          have p1 := (HC9.out.2.cell (p := ⟨bb, _, none⟩) hbl).trans (HCS.out _ hjl).2
          generalize (LQ + m) % xs.length = j at *
          generalize atN xs j = n at *
          obtain ⟨nx, ny⟩ := n
          simp only at hsm p0 p1 HFM
          have e1 : IntKind.i64.wrap ((LQ : Int) + (m : Int)) = (LQ : Int) + (m : Int) := IntWalk.i64_in _ (by omega)
          have e2 : IntKind.i64.wrap (j : Int) = (j : Int) := IntWalk.i64_in _ (by omega)
          have q3 : (0 : Int) ≤ j := by omega
          have q4 : (j : Int) < (xs.length : Int) := by omega
          have h0n : ¬ (xs.length : Int) = 0 := by omega
          have hne : ¬ xs = [] := fun e => by rw [e] at h0; simp at h0
          have HWY := Lib.hid (fun w => implWayS ⟨cx, cy⟩ ⟨nx, ny⟩ w (by dsimp only; omega) (by dsimp only; omega) (by dsimp only; omega) (by dsimp only; omega))
          unfold WayIs Nd.val at HWY
          simp only at HWY
          generalize nx - cx = tx at *
          generalize ny - cy = ty at *
          have y9 := lt_of_block HC9.out.1
          have H3 := Lib.hid (show Held wr wr [(w.heap.size, 0, .int .i64 cx), (w.heap.size, 1, .int .i64 cy), (bb, o + j * 2, .int .i64 nx), (bb, o + j * 2 + 1, .int .i64 ny)] from ⟨⟨(cell_of_cells (k := 0) HC9.out.1).trans rfl, (cell_of_cells (k := 1) HC9.out.1).trans rfl, p0, p1, trivial⟩, ⟨y9, y9, Nat.lt_of_lt_of_le hbl HC9.out.2.size, Nat.lt_of_lt_of_le hbl HC9.out.2.size, trivial⟩, Below.refl _ _⟩)
          clear p0 p1 y9 hsm b1 b2 hjl
          obtain ⟨x0, x1, x2, x3, _⟩ := H3.out.1
          go_wp2_with fail
          clear x0 x1 x2 x3
          refine regionD (S := fun W => Held _ W [(w.heap.size, 0, .int .i64 (cx)), (w.heap.size, 1, .int .i64 (cy)), (bb, o + j * 2, .int .i64 (nx)), (bb, o + j * 2 + 1, .int .i64 (ny))]) (by kernel_rfl) H3.out.drew ?_
          iterate 16 (refine takeT (v := ?_) rfl (by kernel_rfl) (by kernel_rfl) (by kernel_rfl) ?_ ?_; rotate_left; (first | (refine Or.inr ⟨by rfl, ?_⟩; with_reducible rfl) | (refine Or.inl ⟨by rfl, fun W hS => detRes_value (w' := W) ?_ hS⟩; obtain ⟨x0, x1, x2, x3, _⟩ := hS.1; go_simp; first | done | with_reducible rfl) | (refine Or.inl ⟨by rfl, fun W hS => ?_⟩; refine detRes_call (w' := W) (f := ?_) (args := ?_) ?_ ?_; rotate_left 2; (go_simp; (refine ⟨?_, ?_⟩ <;> with_reducible rfl)); (first | (with_reducible refine (HWY.out _).mono ?_) | fail); (first | (rintro e wn ⟨rfl, hb⟩; refine ⟨?_, hS.step hb⟩; with_reducible rfl) | (rintro e wn ⟨rfl, rfl⟩; refine ⟨?_, hS⟩; with_reducible rfl) | fail)) | fail); (simp only [Act.put, List.setIfInBounds_toArray, List.set_cons_zero, List.set_cons_succ]))
          refine doneD (by kernel_rfl) fun wH4 HS => ?_
          have H4 := Lib.hid HS; clear HS
          try clear x0 x1 x2 x3
          obtain ⟨x0, x1, x2, x3, _⟩ := H4.out.1
          have HC2 := Lib.hid (HC9.out.step H4.out.below)
          have HO2 := Lib.hid (HO1.out.step H4.out.below)
          clear x0 x1 x2 x3
          obtain ⟨hi', hz0, hz1', hz2'⟩ := HI.out
          have hsz1 := lt_of_block HC2.out.1
          have HT1 := Lib.hid ((Held.none_ wH4).new2 wH4.heap.size rfl [.int .i64 tx, .int .i64 ty] 39)
          obtain ⟨x0, x1, _⟩ := HT1.out.1
          go_wp2_with (at_builtin; refine wpList_append_own _ rfl _ _ 27 rfl (w.heap.size + 1) 39 i0 (.agg #[.int .i64 0, .int .i64 0]) 2 16 Tryz.underlying27 hi' hz0 hz1' hz2' rfl (by decide) _ _ _ rfl (World.ownsRow.alloc HO2.out _) ⟨wH4.heap.size, 0, none⟩ 1 1 [.int .i64 tx, .int .i64 ty] rfl rfl ?c1 ?c2 ?c3 ?c4 ?c5 ?_)
          try (case c1 => exact two_news x0 x1)
          case c2 => simp [Value.oneCell']
          case c3 => unfold maxLen; omega
          case c4 => omega
          case c5 => first | (simp; omega) | omega
          intro v' w5 hown hgrow _
          clear x0 x1
          have HC5 := Lib.hid (show Cb w w5 cx cy from ⟨((own_below HO2.out (by omega) hgrow).block w.heap.size (Nat.lt_succ_self _)).trans HC2.out.1, HC2.out.2.trans ((own_below HO2.out (by omega) hgrow).mono (by omega))⟩)
          have HO5 := Lib.hid (own_one hown); clear hown hgrow
          go_wp2_with fail
          refine ⟨⟨m + 1, by omega, by go_num, ?_, by rw [HFM.out]; exact HO5.out, HC5.out⟩, by simp [intOf]; omega⟩
          rw [HFM.out]
          obtain ⟨g9, cp, e9⟩ := own_some HO5.out (by simp)
          exact ⟨g9, cp, e9⟩
        · obtain rfl : m = xs.length := by omega
          go_wp2_with fail
          go_ret
          have e := HFE.out
          subst e
          exact ⟨_, _, rfl, HO1.out.mono (b' := w.heap.size) (by omega), HC9.out.2⟩
end Go.Proofs.YtmboilogcnmlnaaGreat
