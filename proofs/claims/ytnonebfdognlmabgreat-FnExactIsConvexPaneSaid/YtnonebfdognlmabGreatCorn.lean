/-
  The turns along a border, of the model; CornersOf.
-/
import Derived.Test.YtnonebfdognlmabGreatTurns
namespace Go.Proofs.YtnonebfdognlmabGreat
open Go.RowKit
set_option linter.unusedVariables false
set_option linter.unusedSimpArgs false

theorem pane_nodes (ns ls : List Nd) (f : Int) : NodesOf ns (paneW ns ls f) := by
  unfold paneW
  by_cases h : idxB (wF ns ls).length f = true
  · rw [if_pos h]
    obtain ⟨k, rfl, hk⟩ := idx_nat h
    obtain ⟨hw, hd, -⟩ := (wF_ok ns ls).2 k hk
    exact bord_nodes hw hd
  · rw [if_neg h]; intro i hi; simp at hi

set_option maxRecDepth 100000 in
set_option maxHeartbeats 4000000 in
theorem specTurns (ns ls : List Nd) (vn vl : Value) (f : Int) (w : World) (hn : Prs w vn ns) (hl : Prs w vl ls) :
    Calls Tryz.prog 64 #[.agg #[vn, vl], .int .i64 f] w (IntsNew (tuL ns (paneW ns ls f) (paneW ns ls f).length) w) := by
  have HP := Lib.hid (fun w h1 h2 => specPaneNodes ns ls vn vl f w h1 h2)
  unfold IntsNew at HP
  have HNO := Lib.hid (pane_nodes ns ls f)
  have hxl := paneW_len ns ls f
  have HN := Lib.hid hn
  have HL := Lib.hid hl
  have H0 := Lib.hid (held_pair w vn vl 32)
  obtain ⟨A, c, rfl⟩ := prs_form2 hn
  obtain ⟨A2, c2, rfl⟩ := prs_form2 hl
  clear hn hl
  generalize paneW ns ls f = xs at *
  have HU := Lib.hid (tuL_succ ns xs)
  have HLN := Lib.hid (tuL_len ns xs)
  have HZ := Lib.hid (show tuL ns xs 0 = [] from rfl)
  have HTA := Lib.hid (fun m => show tuA ns xs m = turnOf (atN ns (atZ xs ((m + xs.length - 1) % xs.length)).toNat) (atN ns (atZ xs m).toNat) (atN ns (atZ xs ((m + 1) % xs.length)).toNat) from rfl)
  generalize tuL ns xs = X at *
  generalize tuA ns xs = TA at *
  go_enter Tryz.func64, Tryz.ntmps64
  go_wp2_with fail
  refine (HP.out _ (HN.out.step H0.out.below) (HL.out.step H0.out.below)).mono ?_
  rintro e w1 ⟨v, rfl, hv, hb⟩
  have HB1 := Lib.hid (H0.out.below.trans (hb.mono H0.out.below.size))
  have HS := H0.out.step hb
  have H1 := Lib.hid (Held.start (w := w1) HS.1 HS.2.1)
  have HLT := Lib.hid HS.2.1.1
  obtain ⟨a, cv, rfl⟩ := ints_form hv
  have HV := Lib.hid hv
  clear hb hv HS H0
  go_wp2_with fail
  go_loopw [6, 8] (fun v i wr => ∃ m : Nat, m ≤ xs.length ∧ i = .int .i64 m ∧ RowK w1.heap.size v (X m) wr ∧ Held w1 wr [(w.heap.size, 0, .slice A ns.length c), (w.heap.size, 1, .slice A2 ls.length c2)]) (fun _ i _ => xs.length - (intOf i).toNat)
  case atStart => exact ⟨0, Nat.zero_le _, rfl, ⟨by rw [HZ.out]; exact Ints.made _ _ _ rfl (Nat.le_refl _), by simp⟩, H1.out.alloc _⟩
  case round =>
    clear H1
    obtain ⟨m, hm, rfl, hown, hh⟩ := hrel
    have HO := Lib.hid hown; clear hown
    have H1 := Lib.hid hh; clear hh
    by_cases hlt : m < xs.length
    · obtain ⟨j1e, j1l⟩ := rem_back hlt
      obtain ⟨j2e, j2l⟩ := rem_next hlt
      have HTM := Lib.hid (HTA.out m)
      have HUM := Lib.hid (HU.out m)
      have hln := HLN.out m
      generalize (m + xs.length - 1) % xs.length = j1 at *
      generalize (m + 1) % xs.length = j2 at *
      obtain ⟨a1, ha1, hn1, ho1⟩ := HNO.out j1 j1l
      obtain ⟨a0, ha0, hn0, ho0⟩ := HNO.out m hlt
      obtain ⟨a2, ha2, hn2, ho2⟩ := HNO.out j2 j2l
      obtain ⟨A6, c6, e6, -, -, hcs⟩ := HV.out.seq.form
      simp only [Value.slice.injEq] at e6
      obtain ⟨rfl, -, -⟩ := e6
      obtain ⟨bb, oo, rfl, hbl, c0⟩ := hcs m hlt
      obtain ⟨bb', oo', ee, -, c1⟩ := hcs j1 j1l
      simp only [Option.some.injEq, Addr.mk.injEq] at ee
      obtain ⟨rfl, rfl, -⟩ := ee
      obtain ⟨bb', oo', ee, -, c2'⟩ := hcs j2 j2l
      simp only [Option.some.injEq, Addr.mk.injEq] at ee
      obtain ⟨rfl, rfl, -⟩ := ee
      rw [ha0] at c0
      rw [ha1] at c1
      rw [ha2] at c2'
      rw [ha0, ha1, ha2] at HTM
      simp only [Int.toNat_natCast] at HTM
      have HTU := Lib.hid (fun w => specTurn (atN ns a1) (atN ns a0) (atN ns a2) w ho1 ho0 ho2)
      rw [show turnI (atN ns a1) (atN ns a0) (atN ns a2) = TA m from by rw [HTM.out]; unfold turnOf; rw [ho1, ho0, ho2]; rfl] at HTU
      unfold IntIs Nd.val at HTU
      obtain ⟨bn, on, cn, he, hbn, hcn⟩ := prs_at2 (HN.out.step HB1.out) hn0
      simp only [Value.slice.injEq] at he
      obtain ⟨rfl, -, -⟩ := he
      have hbnr := Nat.lt_of_lt_of_le hbn H1.out.below.size
      have hblr := Nat.lt_of_lt_of_le hbl H1.out.below.size
      have hce := fun j (h : j < ns.length) => And.intro ((H1.out.below.cell (p := ⟨bn, on + j * 2, none⟩) hbn).trans (hcn j h).1) ((H1.out.below.cell (p := ⟨bn, on + j * 2 + 1, none⟩) hbn).trans (hcn j h).2)
      have H2 := Lib.hid (held_plus H1.out (gs := [(bn, on + a1 * 2, .int .i64 (atN ns a1).x), (bn, on + a1 * 2 + 1, .int .i64 (atN ns a1).y), (bn, on + a0 * 2, .int .i64 (atN ns a0).x), (bn, on + a0 * 2 + 1, .int .i64 (atN ns a0).y), (bn, on + a2 * 2, .int .i64 (atN ns a2).x), (bn, on + a2 * 2 + 1, .int .i64 (atN ns a2).y), (bb, oo + m, .int .i64 (a0 : Int)), (bb, oo + j1, .int .i64 (a1 : Int)), (bb, oo + j2, .int .i64 (a2 : Int))])
        ⟨(hce a1 hn1).1, (hce a1 hn1).2, (hce a0 hn0).1, (hce a0 hn0).2, (hce a2 hn2).1, (hce a2 hn2).2, (H1.out.below.cell (p := ⟨bb, oo + m, none⟩) hbl).trans c0, (H1.out.below.cell (p := ⟨bb, oo + j1, none⟩) hbl).trans c1, (H1.out.below.cell (p := ⟨bb, oo + j2, none⟩) hbl).trans c2', trivial⟩ ⟨hbnr, hbnr, hbnr, hbnr, hbnr, hbnr, hblr, hblr, hblr, trivial⟩)
      have HOI := Lib.hid HO.out.1
      have HBL := Lib.hid HO.out.2
      have HBN := Lib.hid hbn
      have HBB := Lib.hid hbl
      clear hce hcn hbnr HTM ho0 ho1 ho2 ha0 ha1 ha2 hcs hbn c0 c1 c2' hbl hblr
      generalize (atN ns a1).x = ux at *
      generalize (atN ns a1).y = uy at *
      generalize (atN ns a0).x = sx at *
      generalize (atN ns a0).y = sy at *
      generalize (atN ns a2).x = tx at *
      generalize (atN ns a2).y = ty at *
      generalize TA m = t at *
      have p1 : (0 : Int) ≤ m := by omega
      have p2 : (m : Int) < (xs.length : Int) := by omega
      have p3 : (0 : Int) ≤ j1 := by omega
      have p4 : (j1 : Int) < (xs.length : Int) := by omega
      have p5 : (0 : Int) ≤ j2 := by omega
      have p6 : (j2 : Int) < (xs.length : Int) := by omega
      have p7 : (0 : Int) ≤ a1 := by omega
      have p8 : (a1 : Int) < (ns.length : Int) := by omega
      have p9 : (0 : Int) ≤ a0 := by omega
      have p10 : (a0 : Int) < (ns.length : Int) := by omega
      have p11 : (0 : Int) ≤ a2 := by omega
      have p12 : (a2 : Int) < (ns.length : Int) := by omega
      have p13 : (0 : Int) ≤ (m : Int) + xs.length - 1 := by omega
      have p14 : (xs.length : Int) ≠ 0 := by omega
      have p15 : ¬ xs = [] := by rintro rfl; simp at hlt
      have ew1 : IntKind.i64.wrap ((m : Int) + xs.length) = (m : Int) + xs.length := IntWalk.i64_in _ (by omega)
      have ew2 : IntKind.i64.wrap ((m : Int) + xs.length - 1) = (m : Int) + xs.length - 1 := IntWalk.i64_in _ (by omega)
      have ew3 : IntKind.i64.wrap ((m : Int) + 1) = (m : Int) + 1 := IntWalk.i64_in _ (by omega)
      have ew4 : IntKind.i64.wrap (j1 : Int) = j1 := IntWalk.i64_in _ (by omega)
      have ew5 : IntKind.i64.wrap (j2 : Int) = j2 := IntWalk.i64_in _ (by omega)
      have et1 : Int.tmod ((m : Int) + xs.length - 1) xs.length = j1 := by rw [Int.tmod_eq_emod_of_nonneg p13]; exact j1e
      have et2 : Int.tmod ((m : Int) + 1) xs.length = j2 := by rw [Int.tmod_eq_emod_of_nonneg (by omega)]; exact j2e
      obtain ⟨x0, x1, x2, x3, x4, x5, x6, x7, x8, x9, x10, _⟩ := H2.out.1
      go_wp2_with fail
      refine regionC (C := fun W => Held w1 W [(w.heap.size, 0, .slice (some ⟨bn, on, none⟩) ns.length c), (w.heap.size, 1, .slice A2 ls.length c2), (bn, on + a1 * 2, .int .i64 (ux)), (bn, on + a1 * 2 + 1, .int .i64 (uy)), (bn, on + a0 * 2, .int .i64 (sx)), (bn, on + a0 * 2 + 1, .int .i64 (sy)), (bn, on + a2 * 2, .int .i64 (tx)), (bn, on + a2 * 2 + 1, .int .i64 (ty)), (bb, oo + m, .int .i64 (a0)), (bb, oo + j1, .int .i64 (a1)), (bb, oo + j2, .int .i64 (a2))]) (fun W => Held w1 W [(w.heap.size, 0, .slice (some ⟨bn, on, none⟩) ns.length c), (w.heap.size, 1, .slice A2 ls.length c2), (bn, on + a1 * 2, .int .i64 (ux)), (bn, on + a1 * 2 + 1, .int .i64 (uy)), (bn, on + a0 * 2, .int .i64 (sx)), (bn, on + a0 * 2 + 1, .int .i64 (sy)), (bn, on + a2 * 2, .int .i64 (tx)), (bn, on + a2 * 2 + 1, .int .i64 (ty)), (bb, oo + m, .int .i64 (a0)), (bb, oo + j1, .int .i64 (a1)), (bb, oo + j2, .int .i64 (a2))] ∧ RowK w1.heap.size u6 (X m) W) (by kernel_rfl) ⟨H2.out.drew, HOI.out.step ((Below.refl _ _).drew), HBL.out⟩ ?_
      refine takeC (i := 0) (v := ?_) (Stable.and (Stable.held _ _) (stable_rowK _ _ _)) (fun _ h => h.1) rfl (by kernel_rfl) (by kernel_rfl) (by kernel_rfl) (fun _ _ _ h => h) ?_ ?_
      rotate_left
      · first | (refine Or.inl ⟨by rfl, fun W hS => detR_value (w' := W) ?_ (Below.refl _ _)⟩; obtain ⟨x0, x1, x2, x3, x4, x5, x6, x7, x8, x9, x10, _⟩ := hS.1; go_simp; first | done | with_reducible rfl) | fail
      simp only [Act.put, List.setIfInBounds_toArray, List.set_cons_zero, List.set_cons_succ]
      refine takeC (i := 1) (v := ?_) (Stable.and (Stable.held _ _) (stable_rowK _ _ _)) (fun _ h => h.1) rfl (by kernel_rfl) (by kernel_rfl) (by kernel_rfl) (fun _ _ _ h => h) ?_ ?_
      rotate_left
      · first | (refine Or.inl ⟨by rfl, fun W hS => detR_value (w' := W) ?_ (Below.refl _ _)⟩; obtain ⟨x0, x1, x2, x3, x4, x5, x6, x7, x8, x9, x10, _⟩ := hS.1; go_simp; first | done | with_reducible rfl) | fail
      simp only [Act.put, List.setIfInBounds_toArray, List.set_cons_zero, List.set_cons_succ]
      refine takeC (i := 2) (v := ?_) (Stable.and (Stable.held _ _) (stable_rowK _ _ _)) (fun _ h => h.1) rfl (by kernel_rfl) (by kernel_rfl) (by kernel_rfl) (fun _ _ _ h => h) ?_ ?_
      rotate_left
      · first | (refine Or.inl ⟨by rfl, fun W hS => detR_value (w' := W) ?_ (Below.refl _ _)⟩; obtain ⟨x0, x1, x2, x3, x4, x5, x6, x7, x8, x9, x10, _⟩ := hS.1; go_simp; first | done | with_reducible rfl) | fail
      simp only [Act.put, List.setIfInBounds_toArray, List.set_cons_zero, List.set_cons_succ]
      refine takeC (i := 3) (v := ?_) (Stable.and (Stable.held _ _) (stable_rowK _ _ _)) (fun _ h => h.1) rfl (by kernel_rfl) (by kernel_rfl) (by kernel_rfl) (fun _ _ _ h => h) ?_ ?_
      rotate_left
      · first | (refine Or.inl ⟨by rfl, fun W hS => detR_value (w' := W) ?_ (Below.refl _ _)⟩; obtain ⟨x0, x1, x2, x3, x4, x5, x6, x7, x8, x9, x10, _⟩ := hS.1; go_simp; first | done | with_reducible rfl) | fail
      simp only [Act.put, List.setIfInBounds_toArray, List.set_cons_zero, List.set_cons_succ]
      refine takeC (i := 4) (v := ?_) (Stable.and (Stable.held _ _) (stable_rowK _ _ _)) (fun _ h => h.1) rfl (by kernel_rfl) (by kernel_rfl) (by kernel_rfl) (fun _ _ _ h => h) ?_ ?_
      rotate_left
      · first | (refine Or.inl ⟨by rfl, fun W hS => detR_value (w' := W) ?_ (Below.refl _ _)⟩; obtain ⟨x0, x1, x2, x3, x4, x5, x6, x7, x8, x9, x10, _⟩ := hS.1; go_simp; first | done | with_reducible rfl) | fail
      simp only [Act.put, List.setIfInBounds_toArray, List.set_cons_zero, List.set_cons_succ]
      refine takeC (i := 5) (v := ?_) (Stable.and (Stable.held _ _) (stable_rowK _ _ _)) (fun _ h => h.1) rfl (by kernel_rfl) (by kernel_rfl) (by kernel_rfl) (fun _ _ _ h => h) ?_ ?_
      rotate_left
      · first | (refine Or.inl ⟨by rfl, fun W hS => detR_value (w' := W) ?_ (Below.refl _ _)⟩; obtain ⟨x0, x1, x2, x3, x4, x5, x6, x7, x8, x9, x10, _⟩ := hS.1; go_simp; first | done | with_reducible rfl) | fail
      simp only [Act.put, List.setIfInBounds_toArray, List.set_cons_zero, List.set_cons_succ]
      refine takeC (i := 6) (v := ?_) (Stable.and (Stable.held _ _) (stable_rowK _ _ _)) (fun _ h => h.1) rfl (by kernel_rfl) (by kernel_rfl) (by kernel_rfl) (fun _ _ _ h => h) ?_ ?_
      rotate_left
      · first | (refine Or.inl ⟨by rfl, fun W hS => detR_value (w' := W) ?_ (Below.refl _ _)⟩; obtain ⟨x0, x1, x2, x3, x4, x5, x6, x7, x8, x9, x10, _⟩ := hS.1; go_simp; first | done | with_reducible rfl) | fail
      simp only [Act.put, List.setIfInBounds_toArray, List.set_cons_zero, List.set_cons_succ]
      refine takeC (i := 7) (v := ?_) (Stable.and (Stable.held _ _) (stable_rowK _ _ _)) (fun _ h => h.1) rfl (by kernel_rfl) (by kernel_rfl) (by kernel_rfl) (fun _ _ _ h => h) ?_ ?_
      rotate_left
      · first | (refine Or.inl ⟨by rfl, fun W hS => detR_value (w' := W) ?_ (Below.refl _ _)⟩; obtain ⟨x0, x1, x2, x3, x4, x5, x6, x7, x8, x9, x10, _⟩ := hS.1; go_simp; first | done | with_reducible rfl) | fail
      simp only [Act.put, List.setIfInBounds_toArray, List.set_cons_zero, List.set_cons_succ]
      refine takeC (i := 8) (v := ?_) (Stable.and (Stable.held _ _) (stable_rowK _ _ _)) (fun _ h => h.1) rfl (by kernel_rfl) (by kernel_rfl) (by kernel_rfl) (fun _ _ _ h => h) ?_ ?_
      rotate_left
      · first | (refine Or.inl ⟨by rfl, fun W hS => detR_value (w' := W) ?_ (Below.refl _ _)⟩; obtain ⟨x0, x1, x2, x3, x4, x5, x6, x7, x8, x9, x10, _⟩ := hS.1; go_simp; first | done | with_reducible rfl) | fail
      simp only [Act.put, List.setIfInBounds_toArray, List.set_cons_zero, List.set_cons_succ]
      refine takeC (i := 9) (v := ?_) (Stable.and (Stable.held _ _) (stable_rowK _ _ _)) (fun _ h => h.1) rfl (by kernel_rfl) (by kernel_rfl) (by kernel_rfl) (fun _ _ _ h => h) ?_ ?_
      rotate_left
      · first | (refine Or.inl ⟨by rfl, fun W hS => detR_value (w' := W) ?_ (Below.refl _ _)⟩; obtain ⟨x0, x1, x2, x3, x4, x5, x6, x7, x8, x9, x10, _⟩ := hS.1; go_simp; first | done | with_reducible rfl) | fail
      simp only [Act.put, List.setIfInBounds_toArray, List.set_cons_zero, List.set_cons_succ]
      refine takeC (i := 10) (v := ?_) (Stable.and (Stable.held _ _) (stable_rowK _ _ _)) (fun _ h => h.1) rfl (by kernel_rfl) (by kernel_rfl) (by kernel_rfl) (fun _ _ _ h => h) ?_ ?_
      rotate_left
      · first | (refine Or.inl ⟨by rfl, fun W hS => detR_value (w' := W) ?_ (Below.refl _ _)⟩; obtain ⟨x0, x1, x2, x3, x4, x5, x6, x7, x8, x9, x10, _⟩ := hS.1; go_simp; first | done | with_reducible rfl) | fail
      simp only [Act.put, List.setIfInBounds_toArray, List.set_cons_zero, List.set_cons_succ]
      refine takeC (i := 11) (v := ?_) (Stable.and (Stable.held _ _) (stable_rowK _ _ _)) (fun _ h => h.1) rfl (by kernel_rfl) (by kernel_rfl) (by kernel_rfl) (fun _ _ _ h => h) ?_ ?_
      rotate_left
      · first | (refine Or.inl ⟨by rfl, fun W hS => detR_value (w' := W) ?_ (Below.refl _ _)⟩; obtain ⟨x0, x1, x2, x3, x4, x5, x6, x7, x8, x9, x10, _⟩ := hS.1; go_simp; first | done | with_reducible rfl) | fail
      simp only [Act.put, List.setIfInBounds_toArray, List.set_cons_zero, List.set_cons_succ]
      refine takeC (i := 12) (v := ?_) (Stable.and (Stable.held _ _) (stable_rowK _ _ _)) (fun _ h => h.1) rfl (by kernel_rfl) (by kernel_rfl) (by kernel_rfl) (fun _ _ _ h => h) ?_ ?_
      rotate_left
      · first | (refine Or.inl ⟨by rfl, fun W hS => detR_value (w' := W) ?_ (Below.refl _ _)⟩; obtain ⟨x0, x1, x2, x3, x4, x5, x6, x7, x8, x9, x10, _⟩ := hS.1; go_simp; first | done | with_reducible rfl) | fail
      simp only [Act.put, List.setIfInBounds_toArray, List.set_cons_zero, List.set_cons_succ]
      refine takeC (i := 13) (v := ?_) (Stable.and (Stable.held _ _) (stable_rowK _ _ _)) (fun _ h => h.1) rfl (by kernel_rfl) (by kernel_rfl) (by kernel_rfl) (fun _ _ _ h => h) ?_ ?_
      rotate_left
      · first | (refine Or.inl ⟨by rfl, fun W hS => detR_value (w' := W) ?_ (Below.refl _ _)⟩; obtain ⟨x0, x1, x2, x3, x4, x5, x6, x7, x8, x9, x10, _⟩ := hS.1; go_simp; first | done | with_reducible rfl) | fail
      simp only [Act.put, List.setIfInBounds_toArray, List.set_cons_zero, List.set_cons_succ]
      refine takeC (i := 14) (v := ?_) (Stable.and (Stable.held _ _) (stable_rowK _ _ _)) (fun _ h => h.1) rfl (by kernel_rfl) (by kernel_rfl) (by kernel_rfl) (fun _ _ _ h => h) ?_ ?_
      rotate_left
      · first | (refine Or.inl ⟨by rfl, fun W hS => detR_value (w' := W) ?_ (Below.refl _ _)⟩; obtain ⟨x0, x1, x2, x3, x4, x5, x6, x7, x8, x9, x10, _⟩ := hS.1; go_simp; first | done | with_reducible rfl) | fail
      simp only [Act.put, List.setIfInBounds_toArray, List.set_cons_zero, List.set_cons_succ]
      refine takeC (i := 15) (v := ?_) (Stable.and (Stable.held _ _) (stable_rowK _ _ _)) (fun _ h => h.1) rfl (by kernel_rfl) (by kernel_rfl) (by kernel_rfl) (fun _ _ _ h => h) ?_ ?_
      rotate_left
      · first | (refine Or.inl ⟨by rfl, fun W hS => detR_value (w' := W) ?_ (Below.refl _ _)⟩; obtain ⟨x0, x1, x2, x3, x4, x5, x6, x7, x8, x9, x10, _⟩ := hS.1; go_simp; first | done | with_reducible rfl) | fail
      simp only [Act.put, List.setIfInBounds_toArray, List.set_cons_zero, List.set_cons_succ]
      refine takeC (i := 16) (v := ?_) (Stable.and (Stable.held _ _) (stable_rowK _ _ _)) (fun _ h => h.1) rfl (by kernel_rfl) (by kernel_rfl) (by kernel_rfl) (fun _ _ _ h => h) ?_ ?_
      rotate_left
      · first | (refine Or.inl ⟨by rfl, fun W hS => detR_value (w' := W) ?_ (Below.refl _ _)⟩; obtain ⟨x0, x1, x2, x3, x4, x5, x6, x7, x8, x9, x10, _⟩ := hS.1; go_simp; first | done | with_reducible rfl) | fail
      simp only [Act.put, List.setIfInBounds_toArray, List.set_cons_zero, List.set_cons_succ]
      refine takeC (i := 17) (v := ?_) (Stable.and (Stable.held _ _) (stable_rowK _ _ _)) (fun _ h => h.1) rfl (by kernel_rfl) (by kernel_rfl) (by kernel_rfl) (fun _ _ _ h => h) ?_ ?_
      rotate_left
      · first | (refine Or.inl ⟨by rfl, fun W hS => detR_value (w' := W) ?_ (Below.refl _ _)⟩; obtain ⟨x0, x1, x2, x3, x4, x5, x6, x7, x8, x9, x10, _⟩ := hS.1; go_simp; first | done | with_reducible rfl) | fail
      simp only [Act.put, List.setIfInBounds_toArray, List.set_cons_zero, List.set_cons_succ]
      refine takeC (i := 18) (v := ?_) (Stable.and (Stable.held _ _) (stable_rowK _ _ _)) (fun _ h => h.1) rfl (by kernel_rfl) (by kernel_rfl) (by kernel_rfl) (fun _ _ _ h => h) ?_ ?_
      rotate_left
      · first | (refine Or.inl ⟨by rfl, fun W hS => detR_value (w' := W) ?_ (Below.refl _ _)⟩; obtain ⟨x0, x1, x2, x3, x4, x5, x6, x7, x8, x9, x10, _⟩ := hS.1; go_simp; first | done | with_reducible rfl) | fail
      simp only [Act.put, List.setIfInBounds_toArray, List.set_cons_zero, List.set_cons_succ]
      refine takeC (i := 19) (v := ?_) (Stable.and (Stable.held _ _) (stable_rowK _ _ _)) (fun _ h => h.1) rfl (by kernel_rfl) (by kernel_rfl) (by kernel_rfl) (fun _ _ _ h => h) ?_ ?_
      rotate_left
      · first | (refine Or.inl ⟨by rfl, fun W hS => detR_value (w' := W) ?_ (Below.refl _ _)⟩; obtain ⟨x0, x1, x2, x3, x4, x5, x6, x7, x8, x9, x10, _⟩ := hS.1; go_simp; first | done | with_reducible rfl) | fail
      simp only [Act.put, List.setIfInBounds_toArray, List.set_cons_zero, List.set_cons_succ]
      refine takeC (i := 20) (v := ?_) (Stable.and (Stable.held _ _) (stable_rowK _ _ _)) (fun _ h => h.1) rfl (by kernel_rfl) (by kernel_rfl) (by kernel_rfl) (fun _ _ _ h => h) ?_ ?_
      rotate_left
      · first | (refine Or.inl ⟨by rfl, fun W hS => detR_value (w' := W) ?_ (Below.refl _ _)⟩; obtain ⟨x0, x1, x2, x3, x4, x5, x6, x7, x8, x9, x10, _⟩ := hS.1; go_simp; first | done | with_reducible rfl) | fail
      simp only [Act.put, List.setIfInBounds_toArray, List.set_cons_zero, List.set_cons_succ]
      refine takeC (i := 21) (v := ?_) (Stable.and (Stable.held _ _) (stable_rowK _ _ _)) (fun _ h => h.1) rfl (by kernel_rfl) (by kernel_rfl) (by kernel_rfl) (fun _ _ _ h => h) ?_ ?_
      rotate_left
      · first | (refine Or.inl ⟨by rfl, fun W hS => detR_value (w' := W) ?_ (Below.refl _ _)⟩; obtain ⟨x0, x1, x2, x3, x4, x5, x6, x7, x8, x9, x10, _⟩ := hS.1; go_simp; first | done | with_reducible rfl) | fail
      simp only [Act.put, List.setIfInBounds_toArray, List.set_cons_zero, List.set_cons_succ]
      refine takeC (i := 22) (v := ?_) (Stable.and (Stable.held _ _) (stable_rowK _ _ _)) (fun _ h => h.1) rfl (by kernel_rfl) (by kernel_rfl) (by kernel_rfl) (fun _ _ _ h => h) ?_ ?_
      rotate_left
      · first | (refine Or.inl ⟨by rfl, fun W hS => detR_value (w' := W) ?_ (Below.refl _ _)⟩; obtain ⟨x0, x1, x2, x3, x4, x5, x6, x7, x8, x9, x10, _⟩ := hS.1; go_simp; first | done | with_reducible rfl) | fail
      simp only [Act.put, List.setIfInBounds_toArray, List.set_cons_zero, List.set_cons_succ]
      refine takeC (i := 23) (v := ?_) (Stable.and (Stable.held _ _) (stable_rowK _ _ _)) (fun _ h => h.1) rfl (by kernel_rfl) (by kernel_rfl) (by kernel_rfl) (fun _ _ _ h => h) ?_ ?_
      rotate_left
      · first | (refine Or.inl ⟨by rfl, fun W hS => detR_value (w' := W) ?_ (Below.refl _ _)⟩; obtain ⟨x0, x1, x2, x3, x4, x5, x6, x7, x8, x9, x10, _⟩ := hS.1; go_simp; first | done | with_reducible rfl) | fail
      simp only [Act.put, List.setIfInBounds_toArray, List.set_cons_zero, List.set_cons_succ]
      refine takeC (i := 24) (v := ?_) (Stable.and (Stable.held _ _) (stable_rowK _ _ _)) (fun _ h => h.1) rfl (by kernel_rfl) (by kernel_rfl) (by kernel_rfl) (fun _ _ _ h => h) ?_ ?_
      rotate_left
      · first | (refine Or.inl ⟨by rfl, fun W hS => detR_value (w' := W) ?_ (Below.refl _ _)⟩; obtain ⟨x0, x1, x2, x3, x4, x5, x6, x7, x8, x9, x10, _⟩ := hS.1; go_simp; first | done | with_reducible rfl) | fail
      simp only [Act.put, List.setIfInBounds_toArray, List.set_cons_zero, List.set_cons_succ]
      refine takeC (i := 25) (v := ?_) (Stable.and (Stable.held _ _) (stable_rowK _ _ _)) (fun _ h => h.1) rfl (by kernel_rfl) (by kernel_rfl) (by kernel_rfl) (fun _ _ _ h => h) ?_ ?_
      rotate_left
      · first | (refine Or.inl ⟨by rfl, fun W hS => detR_value (w' := W) ?_ (Below.refl _ _)⟩; obtain ⟨x0, x1, x2, x3, x4, x5, x6, x7, x8, x9, x10, _⟩ := hS.1; go_simp; first | done | with_reducible rfl) | fail
      simp only [Act.put, List.setIfInBounds_toArray, List.set_cons_zero, List.set_cons_succ]
      refine takeC (i := 26) (v := ?_) (Stable.and (Stable.held _ _) (stable_rowK _ _ _)) (fun _ h => h.1) rfl (by kernel_rfl) (by kernel_rfl) (by kernel_rfl) (fun _ _ _ h => h) ?_ ?_
      rotate_left
      · first | (refine Or.inl ⟨by rfl, fun W hS => detR_value (w' := W) ?_ (Below.refl _ _)⟩; obtain ⟨x0, x1, x2, x3, x4, x5, x6, x7, x8, x9, x10, _⟩ := hS.1; go_simp; first | done | with_reducible rfl) | fail
      simp only [Act.put, List.setIfInBounds_toArray, List.set_cons_zero, List.set_cons_succ]
      refine takeC (i := 27) (v := ?_) (Stable.and (Stable.held _ _) (stable_rowK _ _ _)) (fun _ h => h.1) rfl (by kernel_rfl) (by kernel_rfl) (by kernel_rfl) (fun _ _ _ h => h) ?_ ?_
      rotate_left
      · first | (refine Or.inl ⟨by rfl, fun W hS => detR_value (w' := W) ?_ (Below.refl _ _)⟩; obtain ⟨x0, x1, x2, x3, x4, x5, x6, x7, x8, x9, x10, _⟩ := hS.1; go_simp; first | done | with_reducible rfl) | fail
      simp only [Act.put, List.setIfInBounds_toArray, List.set_cons_zero, List.set_cons_succ]
      refine takeC (i := 28) (v := ?_) (Stable.and (Stable.held _ _) (stable_rowK _ _ _)) (fun _ h => h.1) rfl (by kernel_rfl) (by kernel_rfl) (by kernel_rfl) (fun _ _ _ h => h) ?_ ?_
      rotate_left
      · first | (refine Or.inl ⟨by rfl, fun W hS => detR_value (w' := W) ?_ (Below.refl _ _)⟩; obtain ⟨x0, x1, x2, x3, x4, x5, x6, x7, x8, x9, x10, _⟩ := hS.1; go_simp; first | done | with_reducible rfl) | fail
      simp only [Act.put, List.setIfInBounds_toArray, List.set_cons_zero, List.set_cons_succ]
      refine takeC (i := 29) (v := ?_) (Stable.and (Stable.held _ _) (stable_rowK _ _ _)) (fun _ h => h.1) rfl (by kernel_rfl) (by kernel_rfl) (by kernel_rfl) (fun _ _ _ h => h) ?_ ?_
      rotate_left
      · first | (refine Or.inl ⟨by rfl, fun W hS => detR_value (w' := W) ?_ (Below.refl _ _)⟩; obtain ⟨x0, x1, x2, x3, x4, x5, x6, x7, x8, x9, x10, _⟩ := hS.1; go_simp; first | done | with_reducible rfl) | fail
      simp only [Act.put, List.setIfInBounds_toArray, List.set_cons_zero, List.set_cons_succ]
      refine takeC (i := 30) (v := ?_) (Stable.and (Stable.held _ _) (stable_rowK _ _ _)) (fun _ h => h.1) rfl (by kernel_rfl) (by kernel_rfl) (by kernel_rfl) (fun _ _ _ h => h) ?_ ?_
      rotate_left
      · first | (refine Or.inl ⟨by rfl, fun W hS => detR_value (w' := W) ?_ (Below.refl _ _)⟩; obtain ⟨x0, x1, x2, x3, x4, x5, x6, x7, x8, x9, x10, _⟩ := hS.1; go_simp; first | done | with_reducible rfl) | fail
      simp only [Act.put, List.setIfInBounds_toArray, List.set_cons_zero, List.set_cons_succ]
      refine takeC (i := 31) (v := ?_) (Stable.and (Stable.held _ _) (stable_rowK _ _ _)) (fun _ h => h.1) rfl (by kernel_rfl) (by kernel_rfl) (by kernel_rfl) (fun _ _ _ h => h) ?_ ?_
      rotate_left
      · first | (refine Or.inl ⟨by rfl, fun W hS => detR_value (w' := W) ?_ (Below.refl _ _)⟩; obtain ⟨x0, x1, x2, x3, x4, x5, x6, x7, x8, x9, x10, _⟩ := hS.1; go_simp; first | done | with_reducible rfl) | fail
      simp only [Act.put, List.setIfInBounds_toArray, List.set_cons_zero, List.set_cons_succ]
      refine takeC (i := 32) (v := ?_) (Stable.and (Stable.held _ _) (stable_rowK _ _ _)) (fun _ h => h.1) rfl (by kernel_rfl) (by kernel_rfl) (by kernel_rfl) (fun _ _ _ h => h) ?_ ?_
      rotate_left
      · first | (refine Or.inl ⟨by rfl, fun W hS => detR_value (w' := W) ?_ (Below.refl _ _)⟩; obtain ⟨x0, x1, x2, x3, x4, x5, x6, x7, x8, x9, x10, _⟩ := hS.1; go_simp; first | done | with_reducible rfl) | fail
      simp only [Act.put, List.setIfInBounds_toArray, List.set_cons_zero, List.set_cons_succ]
      refine takeC (i := 33) (v := ?_) (Stable.and (Stable.held _ _) (stable_rowK _ _ _)) (fun _ h => h.1) rfl (by kernel_rfl) (by kernel_rfl) (by kernel_rfl) (fun _ _ _ h => h) ?_ ?_
      rotate_left
      · first | (refine Or.inl ⟨by rfl, fun W hS => ?_⟩; refine detR_call (w' := W) (f := ?_) (args := ?_) ?_ ?_; rotate_left 2; (go_simp; (refine ⟨?_, ?_⟩ <;> with_reducible rfl)); (first | (with_reducible refine (HTU.out _).mono ?_) | fail); (first | (rintro e wn ⟨rfl, hb⟩; refine ⟨?_, hb⟩; with_reducible rfl) | (rintro e wn ⟨rfl, rfl⟩; refine ⟨?_, Below.refl _ _⟩; with_reducible rfl) | fail)) | fail
      simp only [Act.put, List.setIfInBounds_toArray, List.set_cons_zero, List.set_cons_succ]
      refine freeC (i := 34) (OneB (.int .i64 t)) (Stable.and (Stable.held _ _) (stable_rowK _ _ _)) (fun _ h => h.1) (fun v => stable_oneB _ v) rfl (by kernel_rfl) (by rfl) (fun W hS => freeR_one (by go_simp; first | done | with_reducible rfl)) (fun v1H3 => ?_)
      simp only [Act.put, List.setIfInBounds_toArray, List.set_cons_zero, List.set_cons_succ]
      refine appC (i := 35) (x := t) (Operand.tmp 20) (Operand.tmp 54) rfl (by kernel_rfl) (by rfl) rfl (by rfl) (by rfl) ⟨HLT.out, HLT.out, HBN.out, HBN.out, HBN.out, HBN.out, HBN.out, HBN.out, HBB.out, HBB.out, HBB.out, trivial⟩ (Nat.le_refl _) (by omega) (fun vaH3 => ?_)
      simp only [Act.put, List.setIfInBounds_toArray, List.set_cons_zero, List.set_cons_succ]
      refine takeC (i := 36) (v := ?_) (Stable.and (Stable.held _ _) (stable_rowK _ _ _)) (fun _ h => h.1) rfl (by kernel_rfl) (by kernel_rfl) (by kernel_rfl) (fun _ _ _ h => h) ?_ ?_
      rotate_left
      · first | (refine Or.inl ⟨by rfl, fun W hS => detR_value (w' := W) ?_ (Below.refl _ _)⟩; obtain ⟨x0, x1, x2, x3, x4, x5, x6, x7, x8, x9, x10, _⟩ := hS.1; go_simp; first | done | with_reducible rfl) | fail
      simp only [Act.put, List.setIfInBounds_toArray, List.set_cons_zero, List.set_cons_succ]
      refine doneC (by kernel_rfl) fun wH3 HG => ?_
      obtain ⟨hH, hR⟩ := HG
      have H3 := Lib.hid hH; clear hH
      have RH3 := Lib.hid hR; clear hR
      try clear x0 x1 x2 x3 x4 x5 x6 x7 x8 x9 x10
      obtain ⟨x0, x1, x2, x3, x4, x5, x6, x7, x8, x9, x10, _⟩ := H3.out.1
      go_wp2_with fail
      exact ⟨⟨m + 1, by omega, by go_num, by rw [HUM.out]; exact RH3.out, H3.out.only (fun ⟨a, b, _⟩ => ⟨a, b, trivial⟩) (fun ⟨a, b, _⟩ => ⟨a, b, trivial⟩)⟩, by simp [intOf]; omega⟩
    · obtain rfl : m = xs.length := by omega
      go_wp2_with fail
      go_ret
      exact ⟨_, rfl, HO.out.1.mono HB1.out.size, HB1.out.trans (H1.out.below.mono HB1.out.size)⟩

/-- How many of the first n are not 0. -/
def cnzL (xs : List Int) : Nat → Int
  | 0 => 0
  | n + 1 => if atZ xs n = 0 then cnzL xs n else cnzL xs n + 1
theorem cnzL_bd (xs : List Int) : ∀ m, 0 ≤ cnzL xs m ∧ cnzL xs m ≤ m
  | 0 => ⟨Int.le_refl _, Int.le_refl _⟩
  | m + 1 => by have := cnzL_bd xs m; unfold cnzL; split <;> omega
noncomputable def tuW (ns ls : List Nd) (f : Int) : List Int := tuL ns (paneW ns ls f) (paneW ns ls f).length
noncomputable def cornW (ns ls : List Nd) (f : Int) : Int := if paneB ns ls f = true then cnzL (tuW ns ls f) (tuW ns ls f).length else -1
theorem tuW_len (ns ls : List Nd) (f : Int) : (tuW ns ls f).length ≤ 40 := by unfold tuW; rw [tuL_len]; exact paneW_len _ _ _

set_option maxRecDepth 100000 in
set_option maxHeartbeats 1000000 in
theorem specCorners (ns ls : List Nd) (vn vl : Value) (f : Int) (w : World) (hn : Prs w vn ns) (hl : Prs w vl ls) :
    Calls Tryz.prog 30 #[.agg #[vn, vl], .int .i64 f] w (IntIs (cornW ns ls f) w) := by
  have HP := Lib.hid (fun w h1 h2 => specIsPane ns ls vn vl f w h1 h2)
  unfold BoolIs at HP
  have HT := Lib.hid (fun w h1 h2 => (show Calls Tryz.prog 64 #[.agg #[vn, vl], .int .i64 f] w (IntsNew (tuW ns ls f) w) from specTurns ns ls vn vl f w h1 h2))
  unfold IntsNew at HT
  have h40 := tuW_len ns ls f
  have HN := Lib.hid hn
  have HL := Lib.hid hl
  have H0 := Lib.hid (held_pair w vn vl 32)
  obtain ⟨A, c, rfl⟩ := prs_form2 hn
  obtain ⟨A2, c2, rfl⟩ := prs_form2 hl
  clear hn hl
  by_cases hp : paneB ns ls f = true
  · have HR := Lib.hid (show cornW ns ls f = cnzL (tuW ns ls f) (tuW ns ls f).length from if_pos hp)
    rw [hp] at HP
    clear hp
    generalize cornW ns ls f = res at *
    generalize tuW ns ls f = xs at *
    have HU := Lib.hid (fun n => show cnzL xs (n + 1) = if atZ xs n = 0 then cnzL xs n else cnzL xs n + 1 from rfl)
    have HBD := Lib.hid (cnzL_bd xs)
    have HZ := Lib.hid (show cnzL xs 0 = 0 from rfl)
    generalize cnzL xs = X at *
    go_enter Tryz.func30, Tryz.ntmps30
    go_wp2_with fail
    refine (HP.out _ (HN.out.step H0.out.below) (HL.out.step H0.out.below)).mono ?_
    rintro e w1 ⟨rfl, hb⟩
    have H1 := Lib.hid (H0.out.step hb); clear hb H0
    obtain ⟨x0, x1, _⟩ := H1.out.1
    go_wp2_with fail
    refine (HT.out _ (HN.out.step H1.out.below) (HL.out.step H1.out.below)).mono ?_
    rintro e w2 ⟨v, rfl, hv, hb⟩
    have H2 := Lib.hid (H1.out.step hb); clear hb H1 x0 x1
    obtain ⟨a, cv, rfl⟩ := ints_form hv
    have HV := Lib.hid hv; clear hv
    go_wp2_with fail
    go_loopw [6, 7] (fun v i wr => ∃ m : Nat, m ≤ xs.length ∧ i = .int .i64 m ∧ v = .int .i64 (X m) ∧ wr = w2) (fun _ i _ => xs.length - (intOf i).toNat)
    case atStart => exact ⟨0, Nat.zero_le _, rfl, by rw [HZ.out], rfl⟩
    case round =>
      obtain ⟨m, hm, rfl, rfl, rfl⟩ := hrel
      by_cases hlt : m < xs.length
      · have HUM := Lib.hid (HU.out m)
        have hbd := HBD.out m
        obtain ⟨A6, c6, e6, -, -, hcs⟩ := HV.out.seq.form
        simp only [Value.slice.injEq] at e6
        obtain ⟨rfl, -, -⟩ := e6
        obtain ⟨bb, oo, rfl, hbl, c0⟩ := hcs m hlt
        have p1 : (0 : Int) ≤ m := by omega
        have p2 : (m : Int) < (xs.length : Int) := by omega
        have e1 : IntKind.i64.wrap (X m + 1) = X m + 1 := IntWalk.i64_in _ (by omega)
        clear hcs
        generalize X m = y at *
        generalize atZ xs m = z at *
        by_cases hz : z = 0
        · rw [if_pos hz] at HUM
          have gz : (z != 0) = false := by simp [hz]
          clear hz
          go_wp2_with fail
          exact ⟨⟨m + 1, by omega, by go_num, by rw [HUM.out], trivial⟩, by simp [intOf]; omega⟩
        · rw [if_neg hz] at HUM
          have gz : (z != 0) = true := by simp [hz]
          clear hz
          go_wp2_with fail
          exact ⟨⟨m + 1, by omega, by go_num, by rw [HUM.out], trivial⟩, by simp [intOf]; omega⟩
      · obtain rfl : m = xs.length := by omega
        go_wp2_with fail
        go_ret
        exact ⟨ret_int HR.out.symm, H2.out.below⟩
  · have HR := Lib.hid (show cornW ns ls f = -1 from if_neg hp)
    rw [show paneB ns ls f = false by simpa using hp] at HP
    clear hp
    generalize cornW ns ls f = res at *
    go_enter Tryz.func30, Tryz.ntmps30
    go_wp2_with fail
    refine (HP.out _ (HN.out.step H0.out.below) (HL.out.step H0.out.below)).mono ?_
    rintro e w1 ⟨rfl, hb⟩
    have H1 := Lib.hid (H0.out.step hb); clear hb H0
    go_wp2_with fail
    go_ret
    exact ⟨ret_int HR.out.symm, H1.out.below⟩

theorem pane_idx {ns ls : List Nd} {f : Int} (h : paneB ns ls f = true) : idxB (wF ns ls).length f = true := by
  unfold paneB testB at h
  simp only [Bool.and_eq_true] at h
  exact h.1
set_option maxRecDepth 100000 in
set_option maxHeartbeats 1000000 in
theorem implCorners (ns ls : List Nd) (vn vl : Value) (f : Int) (w : World) (hn : Prs w vn ns) (hl : Prs w vl ls) :
    Calls Tryz.prog 31 #[.agg #[vn, vl], .int .i64 f] w (IntIs (cornW ns ls f) w) := by
  have HT := Lib.hid (fun v1 v2 v3 v4 B w h1 h2 h3 h4 => implTest (gN ns ls) (gL ns ls) v1 v2 v3 v4 (wF ns ls) (gA ns ls) B w h1 h2 h3 h4 (g_ok ns ls))
  have HS := Lib.hid (fun v1 v2 v3 v4 B B2 b1 b2 w0 w h1 h2 h3 h4 hh => implTest1 (gN ns ls) (gL ns ls) v1 v2 v3 v4 (wF ns ls) (gA ns ls) B B2 b1 b2 (outW ns ls) f w0 w h1 h2 h3 h4 (g_ok ns ls) (g_len ns ls).2 hh)
  rw [g_outer] at HT
  rw [g_test] at HS
  unfold TestNew at HT
  unfold BoolIs at HS
  have h40 := tuW_len ns ls f
  by_cases hp : paneB ns ls f = true
  · have hf := pane_idx hp
    obtain ⟨k, rfl, hk⟩ := idx_nat hf
    have hh := (wF_row hk).1
    have HTU := Lib.hid (fun v1 v2 v3 v4 B B2 w h1 h2 h3 h4 => implTurns v1 v2 v3 v4 (wF ns ls) (gA ns ls) (gN ns ls) (gL ns ls) B B2 k w h1 h2 h3 h4 (g_ok ns ls) hk (g_len ns ls).2)
    rw [g_bord hk, show bord ls (atR (wF ns ls) k) = paneW ns ls k from (if_pos hf).symm, show tuL (gN ns ls) (paneW ns ls k) (paneW ns ls k).length = tuW ns ls k from by unfold tuW gN; rw [if_pos hh]] at HTU
    unfold IntsNew at HTU
    have HR := Lib.hid (show cornW ns ls k = cnzL (tuW ns ls k) (tuW ns ls k).length from if_pos hp)
    rw [hp] at HS
    clear hp hf hk hh
    have HN := Lib.hid hn
    have HL := Lib.hid hl
    have HGL := Lib.hid (fun w h1 h2 => implGlass ns ls vn vl w h1 h2)
    unfold GlassNew at HGL
    have H0 := Lib.hid (held_pair w vn vl 32)
    obtain ⟨A, c, rfl⟩ := prs_form2 hn
    obtain ⟨A2, c2, rfl⟩ := prs_form2 hl
    clear hn hl
    generalize cornW ns ls (k : Int) = res at *
    generalize tuW ns ls (k : Int) = xs at *
    generalize outW ns ls = o at *
    have HU := Lib.hid (fun n => show cnzL xs (n + 1) = if atZ xs n = 0 then cnzL xs n else cnzL xs n + 1 from rfl)
    have HBD := Lib.hid (cnzL_bd xs)
    have HZ := Lib.hid (show cnzL xs 0 = 0 from rfl)
    generalize cnzL xs = X at *
    generalize gN ns ls = ns' at *
    generalize gL ns ls = ls' at *
    generalize gA ns ls = ds at *
    generalize wF ns ls = rs at *
    generalize wholeB ns ls = ok at *
    go_enter Tryz.func31, Tryz.ntmps31
    go_wp2_with fail
    refine (HGL.out _ (HN.out.step H0.out.below) (HL.out.step H0.out.below)).mono ?_
    rintro e w1 ⟨v1, v2, v3, v4, rfl, g1, g2, g3, g4, hb⟩
    have H1 := Lib.hid (H0.out.step hb)
    have G0 := Lib.hid (heldG w1 v1 v2 v3 v4 66)
    have B1 := Lib.hid (H1.out.below.trans (G0.out.below.mono H1.out.below.size))
    have G1 := Lib.hid (g1.step G0.out.below)
    have G2 := Lib.hid (g2.step G0.out.below)
    have G3 := Lib.hid (g3.step G0.out.below)
    have G4 := Lib.hid (g4.step G0.out.below)
    obtain ⟨A5, c5, rfl⟩ := prs_form2 g1
    obtain ⟨A6, c6, rfl⟩ := prs_form2 g2
    obtain ⟨A7, c7, rfl⟩ := faces_form g3
    obtain ⟨A8, c8, rfl⟩ := ints_form g4
    clear hb g1 g2 g3 g4
    obtain ⟨x0, x1, _⟩ := H1.out.1
    obtain ⟨y0, y1, y2, y3, _⟩ := G0.out.1
    go_wp2_with fail
    refine (HT.out _ _ _ _ _ _ G1.out G2.out G3.out G4.out).mono ?_
    rintro e w2 ⟨b1, b2, rfl, hh⟩
    have hb := hh.below
    have B2 := Lib.hid (B1.out.trans (hb.mono B1.out.size))
    have HC := Lib.hid (HS.out _ _ _ _ _ _ _ _ _ _ (G1.out.step hb) (G2.out.step hb) (G3.out.step hb) (G4.out.step hb) hh)
    have K1 := Lib.hid (G1.out.step hb)
    have K2 := Lib.hid (G2.out.step hb)
    have K3 := Lib.hid (G3.out.step hb)
    have K4 := Lib.hid (G4.out.step hb)
    have K0 := Lib.hid (G0.out.step hb)
    clear hb hh x0 x1 y0 y1 y2 y3
    go_wp2_with fail
    refine HC.out.mono ?_
    rintro e w3 ⟨rfl, hb⟩
    have B3 := Lib.hid (B2.out.trans (hb.mono B2.out.size))
    have L1 := Lib.hid (K1.out.step hb)
    have L2 := Lib.hid (K2.out.step hb)
    have L3 := Lib.hid (K3.out.step hb)
    have L4 := Lib.hid (K4.out.step hb)
    have L0 := Lib.hid (K0.out.step hb); clear hb
    obtain ⟨y0, y1, y2, y3, _⟩ := L0.out.1
    go_wp2_with fail
    refine (HTU.out _ _ _ _ _ _ _ L1.out L2.out L3.out L4.out).mono ?_
    rintro e w4 ⟨v, rfl, hv, hb⟩
    have B4 := Lib.hid (B3.out.trans (hb.mono B3.out.size)); clear hb y0 y1 y2 y3
    obtain ⟨a, cv, rfl⟩ := ints_form hv
    have HV := Lib.hid hv; clear hv
    go_wp2_with fail
    go_loopw [7, 24] (fun v i wr => ∃ m : Nat, m ≤ xs.length ∧ i = .int .i64 m ∧ v = .int .i64 (X m) ∧ wr = w4) (fun _ i _ => xs.length - (intOf i).toNat)
    case atStart => exact ⟨0, Nat.zero_le _, rfl, by rw [HZ.out], rfl⟩
    case round =>
      obtain ⟨m, hm, rfl, rfl, rfl⟩ := hrel
      by_cases hlt : m < xs.length
      · have HUM := Lib.hid (HU.out m)
        have hbd := HBD.out m
        obtain ⟨A9, c9, e9, -, -, hcs⟩ := HV.out.seq.form
        simp only [Value.slice.injEq] at e9
        obtain ⟨rfl, -, -⟩ := e9
        obtain ⟨bb, oo, rfl, hbl, c0⟩ := hcs m hlt
        have p1 : (0 : Int) ≤ m := by omega
        have p2 : (m : Int) < (xs.length : Int) := by omega
        have e1 : IntKind.i64.wrap (X m + 1) = X m + 1 := IntWalk.i64_in _ (by omega)
        clear hcs
        generalize X m = y at *
        generalize atZ xs m = z at *
        by_cases hz : z = 0
        · rw [if_pos hz] at HUM
          have gz : (z != 0) = false := by simp [hz]
          clear hz
          go_wp2_with fail
          exact ⟨⟨m + 1, by omega, by go_num, by rw [HUM.out], trivial⟩, by simp [intOf]; omega⟩
        · rw [if_neg hz] at HUM
          have gz : (z != 0) = true := by simp [hz]
          clear hz
          go_wp2_with fail
          exact ⟨⟨m + 1, by omega, by go_num, by rw [HUM.out], trivial⟩, by simp [intOf]; omega⟩
      · obtain rfl : m = xs.length := by omega
        go_wp2_with fail
        go_ret
        exact ⟨ret_int HR.out.symm, B4.out⟩
  · have HR := Lib.hid (show cornW ns ls f = -1 from if_neg hp)
    rw [show paneB ns ls f = false by simpa using hp] at HS
    clear hp
    have HN := Lib.hid hn
    have HL := Lib.hid hl
    have HGL := Lib.hid (fun w h1 h2 => implGlass ns ls vn vl w h1 h2)
    unfold GlassNew at HGL
    have H0 := Lib.hid (held_pair w vn vl 32)
    obtain ⟨A, c, rfl⟩ := prs_form2 hn
    obtain ⟨A2, c2, rfl⟩ := prs_form2 hl
    clear hn hl
    generalize cornW ns ls f = res at *
    generalize outW ns ls = o at *
    generalize gN ns ls = ns' at *
    generalize gL ns ls = ls' at *
    generalize gA ns ls = ds at *
    generalize wF ns ls = rs at *
    generalize wholeB ns ls = ok at *
    go_enter Tryz.func31, Tryz.ntmps31
    go_wp2_with fail
    refine (HGL.out _ (HN.out.step H0.out.below) (HL.out.step H0.out.below)).mono ?_
    rintro e w1 ⟨v1, v2, v3, v4, rfl, g1, g2, g3, g4, hb⟩
    have H1 := Lib.hid (H0.out.step hb)
    have G0 := Lib.hid (heldG w1 v1 v2 v3 v4 66)
    have B1 := Lib.hid (H1.out.below.trans (G0.out.below.mono H1.out.below.size))
    have G1 := Lib.hid (g1.step G0.out.below)
    have G2 := Lib.hid (g2.step G0.out.below)
    have G3 := Lib.hid (g3.step G0.out.below)
    have G4 := Lib.hid (g4.step G0.out.below)
    obtain ⟨A5, c5, rfl⟩ := prs_form2 g1
    obtain ⟨A6, c6, rfl⟩ := prs_form2 g2
    obtain ⟨A7, c7, rfl⟩ := faces_form g3
    obtain ⟨A8, c8, rfl⟩ := ints_form g4
    clear hb g1 g2 g3 g4
    obtain ⟨x0, x1, _⟩ := H1.out.1
    obtain ⟨y0, y1, y2, y3, _⟩ := G0.out.1
    go_wp2_with fail
    refine (HT.out _ _ _ _ _ _ G1.out G2.out G3.out G4.out).mono ?_
    rintro e w2 ⟨b1, b2, rfl, hh⟩
    have hb := hh.below
    have B2 := Lib.hid (B1.out.trans (hb.mono B1.out.size))
    have HC := Lib.hid (HS.out _ _ _ _ _ _ _ _ _ _ (G1.out.step hb) (G2.out.step hb) (G3.out.step hb) (G4.out.step hb) hh)
    clear hb hh x0 x1 y0 y1 y2 y3
    go_wp2_with fail
    refine HC.out.mono ?_
    rintro e w3 ⟨rfl, hb⟩
    have B3 := Lib.hid (B2.out.trans (hb.mono B2.out.size)); clear hb
    go_wp2_with fail
    go_ret
    exact ⟨ret_int HR.out.symm, B3.out⟩
end Go.Proofs.YtnonebfdognlmabGreat
