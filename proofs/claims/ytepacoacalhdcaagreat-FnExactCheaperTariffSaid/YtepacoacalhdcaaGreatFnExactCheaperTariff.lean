/-
  The program's CheaperTariff returns, for every window and every two tariffs, what the model's CheaperTariff returns, and leaves the window as it is: the law FnExactCheaperTariff answers true. No condition.
-/
import Derived.Test.YtepacoacalhdcaaGreatRows
import Derived.Test.YtepacoacalhdcaaGreatJoin
import Derived.Test.YtepacoacalhdcaaGreatG1
import Derived.Test.YtepacoacalhdcaaGreatChp
import Derived.Test.YtepacoacalhdcaaGreatG2
import Derived.WalkKit
import Derived.ProofKit
import Derived.OpenShut
import Derived.ShutString
import Derived.ChangeOld
import Derived.Below
import Derived.Carry
import Derived.Lib.SmallJoins
namespace Go.Proofs.YtepacoacalhdcaaGreat.fnExactCheaperTariff
open Go.ChangeShapes Go.WideShapes Go.ChangeAt Go.RowKit Go.Joins
open Go.ChangeMaps (open_string shut_string)
set_option linter.unusedVariables false
set_option linter.unusedSimpArgs false

theorem own : ownKnob Tryz.prog.godebug = none := by kernel_rfl
theorem laidOut : laidOutB Tryz.prog = true := by kernel_rfl
set_option maxRecDepth 100000
theorem walk (w : World) (a0_Nodes : Value) (xs0_Nodes : List Nd) (w0_Nodes : Prs w a0_Nodes xs0_Nodes) (a0_Leads : Value) (xs0_Leads : List Nd) (w0_Leads : Prs w a0_Leads xs0_Leads) (a1_Glass : Int) (w1_Glass : (Lit.int .i64 a1_Glass).wf = true) (a1_Lead : Int) (w1_Lead : (Lit.int .i64 a1_Lead).wf = true) (a1_Joint : Int) (w1_Joint : (Lit.int .i64 a1_Joint).wf = true) (a1_Paint : Int) (w1_Paint : (Lit.int .i64 a1_Paint).wf = true) (a2_Glass : Int) (w2_Glass : (Lit.int .i64 a2_Glass).wf = true) (a2_Lead : Int) (w2_Lead : (Lit.int .i64 a2_Lead).wf = true) (a2_Joint : Int) (w2_Joint : (Lit.int .i64 a2_Joint).wf = true) (a2_Paint : Int) (w2_Paint : (Lit.int .i64 a2_Paint).wf = true) :
    Calls Tryz.prog 11 #[.agg #[a0_Nodes, a0_Leads], .agg #[.int .i64 a1_Glass, .int .i64 a1_Lead, .int .i64 a1_Joint, .int .i64 a1_Paint], .agg #[.int .i64 a2_Glass, .int .i64 a2_Lead, .int .i64 a2_Joint, .int .i64 a2_Paint]] w fun e w' => e = .returned (.bool true) ∧ Below w.heap.size w w' := by
  have hln := w0_Nodes.len
  have hll := w0_Leads.len
  have HP := Lib.hid (WinAt.mk w0_Nodes w0_Leads)
  obtain ⟨A, c, rfl⟩ := prs_form2 w0_Nodes
  obtain ⟨A2, c2, rfl⟩ := prs_form2 w0_Leads
  clear w0_Nodes w0_Leads w1_Glass w1_Lead w1_Joint w1_Paint w2_Glass w2_Lead w2_Joint w2_Paint
  have HZ := Lib.hid (szWindow_any xs0_Nodes.length c xs0_Leads.length c2 A A2 · hln hll)
  have H0 := Lib.hid ((((Held.none_ w).new2 w.heap.size rfl [.slice A xs0_Nodes.length c, .slice A2 xs0_Leads.length c2] 25).new2 (w.heap.size + 1) (by simp) [.int .i64 a1_Glass, .int .i64 a1_Lead, .int .i64 a1_Joint, .int .i64 a1_Paint] 53).new2 (w.heap.size + 1 + 1) (by simp) [.int .i64 a2_Glass, .int .i64 a2_Lead, .int .i64 a2_Joint, .int .i64 a2_Paint] 53)
  simp only [newFs, List.cons_append, List.nil_append, List.append_nil] at H0
  have HS := Lib.hid (fun v w (hv : WinAt w v xs0_Nodes xs0_Leads) => (show Calls Tryz.prog 41 #[v, .agg #[.int .i64 a1_Glass, .int .i64 a1_Lead, .int .i64 a1_Joint, .int .i64 a1_Paint], .agg #[.int .i64 a2_Glass, .int .i64 a2_Lead, .int .i64 a2_Joint, .int .i64 a2_Paint]] w (IntIs (chpW xs0_Nodes xs0_Leads ⟨a1_Glass, a1_Lead, a1_Joint, a1_Paint⟩ ⟨a2_Glass, a2_Lead, a2_Joint, a2_Paint⟩) w) by
    obtain ⟨A1, A2, c1, c2, rfl, k1, k2⟩ := hv; exact specChp _ _ ⟨a1_Glass, a1_Lead, a1_Joint, a1_Paint⟩ ⟨a2_Glass, a2_Lead, a2_Joint, a2_Paint⟩ _ _ w k1 k2))
  have HI := Lib.hid (fun v w (hv : WinAt w v xs0_Nodes xs0_Leads) => (show Calls Tryz.prog 42 #[v, .agg #[.int .i64 a1_Glass, .int .i64 a1_Lead, .int .i64 a1_Joint, .int .i64 a1_Paint], .agg #[.int .i64 a2_Glass, .int .i64 a2_Lead, .int .i64 a2_Joint, .int .i64 a2_Paint]] w (IntIs (chpW xs0_Nodes xs0_Leads ⟨a1_Glass, a1_Lead, a1_Joint, a1_Paint⟩ ⟨a2_Glass, a2_Lead, a2_Joint, a2_Paint⟩) w) by
    obtain ⟨A1, A2, c1, c2, rfl, k1, k2⟩ := hv; exact implChp _ _ ⟨a1_Glass, a1_Lead, a1_Joint, a1_Paint⟩ ⟨a2_Glass, a2_Lead, a2_Joint, a2_Paint⟩ _ _ w k1 k2))
  unfold IntIs at HS HI
  generalize chpW xs0_Nodes xs0_Leads ⟨a1_Glass, a1_Lead, a1_Joint, a1_Paint⟩ ⟨a2_Glass, a2_Lead, a2_Joint, a2_Paint⟩ = r at *
  have HTT1 := Lib.hid (toTariff_any ⟨a1_Glass, a1_Lead, a1_Joint, a1_Paint⟩)
  have HTT2 := Lib.hid (toTariff_any ⟨a2_Glass, a2_Lead, a2_Joint, a2_Paint⟩)
  unfold QdIs Qd.val at HTT1 HTT2
  simp only at HTT1 HTT2
  have HT := Lib.hid (fun v w hv h1 h2 => toWindow_at xs0_Nodes xs0_Leads v w hv h1 h2)
  have HEQ := Lib.hid (fun v u w hv hu => eqWindow_at xs0_Nodes xs0_Leads v u w hv hu)
  go_enter Tryz.func11, Tryz.ntmps11
  obtain ⟨x0, x1, x2, x3, x4, x5, x6, x7, x8, x9, _⟩ := H0.out.1
  go_wp2_with fail
  refine (HZ.out _).mono ?_
  rintro e w1 ⟨q, rfl, hq, hb⟩
  have H1 := Lib.hid (H0.out.step hb); clear hb x0 x1 x2 x3 x4 x5 x6 x7 x8 x9
  obtain ⟨x0, x1, x2, x3, x4, x5, x6, x7, x8, x9, _⟩ := H1.out.1
  rcases hq with hq | ⟨hq, hq1, hq2⟩
  · go_wp2_with fail
    go_ret
    exact ⟨rfl, H1.out.below⟩
  have HT := Lib.hid (fun v w hv => HT.out v w hv hq1 hq2)
  go_wp2_with fail
  refine regionW (fun W => Held _ W [(w.heap.size + 1 + 1, 0, .int .i64 (a2_Glass)), (w.heap.size + 1 + 1, 1, .int .i64 (a2_Lead)), (w.heap.size + 1 + 1, 2, .int .i64 (a2_Joint)), (w.heap.size + 1 + 1, 3, .int .i64 (a2_Paint)), (w.heap.size + 1, 0, .int .i64 (a1_Glass)), (w.heap.size + 1, 1, .int .i64 (a1_Lead)), (w.heap.size + 1, 2, .int .i64 (a1_Joint)), (w.heap.size + 1, 3, .int .i64 (a1_Paint)), (w.heap.size, 0, .slice A xs0_Nodes.length c), (w.heap.size, 1, .slice A2 xs0_Leads.length c2)]) (by kernel_rfl) H1.out.drew ?_
  refine takeW (i := 0) (v := ?_) (Stable.held _ _) rfl (by kernel_rfl) (by kernel_rfl) (by kernel_rfl) (fun _ _ _ h => h) ?_ ?_
  rotate_left
  · first | (refine Or.inl ⟨by rfl, fun W hS => detR_value (w' := W) ?_ (Below.refl _ _)⟩; have hH := hS; obtain ⟨x0, x1, x2, x3, x4, x5, x6, x7, x8, x9, _⟩ := hH.1; go_simp; first | done | with_reducible rfl) | fail
  simp only [Act.put, List.setIfInBounds_toArray, List.set_cons_zero, List.set_cons_succ]
  refine takeW (i := 2) (v := ?_) (Stable.held _ _) rfl (by kernel_rfl) (by kernel_rfl) (by kernel_rfl) (fun _ _ _ h => h) ?_ ?_
  rotate_left
  · first | (refine Or.inl ⟨by rfl, fun W hS => detR_value (w' := W) ?_ (Below.refl _ _)⟩; have hH := hS; obtain ⟨x0, x1, x2, x3, x4, x5, x6, x7, x8, x9, _⟩ := hH.1; go_simp; first | done | with_reducible rfl) | fail
  simp only [Act.put, List.setIfInBounds_toArray, List.set_cons_zero, List.set_cons_succ]
  refine takeW (i := 4) (v := ?_) (Stable.held _ _) rfl (by kernel_rfl) (by kernel_rfl) (by kernel_rfl) (fun _ _ _ h => h) ?_ ?_
  rotate_left
  · first | (refine Or.inl ⟨by rfl, fun W hS => detR_value (w' := W) ?_ (Below.refl _ _)⟩; have hH := hS; obtain ⟨x0, x1, x2, x3, x4, x5, x6, x7, x8, x9, _⟩ := hH.1; go_simp; first | done | with_reducible rfl) | fail
  simp only [Act.put, List.setIfInBounds_toArray, List.set_cons_zero, List.set_cons_succ]
  refine freeW (i := 1) (fun v W => WinAt W v xs0_Nodes xs0_Leads) (Stable.held _ _) (fun v => stable_win v xs0_Nodes xs0_Leads) rfl (by kernel_rfl) (by rfl) (fun W hS => ?_) (fun v1 => ?_)
  · have hH := hS; refine freeR_call (w' := W) (f := ?_) (args := ?_) ?_ ?_; rotate_left 2; (go_simp; (refine ⟨?_, ?_⟩ <;> with_reducible rfl)); refine (HT.out _ _ (HP.out.step hH.below)).mono ?_; rintro e wn ⟨v, rfl, hm, hb⟩; exact ⟨v, rfl, hm, hb⟩
  simp only [Act.put, List.setIfInBounds_toArray, List.set_cons_zero, List.set_cons_succ]
  refine takeW (i := 3) (v := ?_) (Stable.and (Stable.held _ _) (stable_win v1 xs0_Nodes xs0_Leads)) rfl (by kernel_rfl) (by kernel_rfl) (by kernel_rfl) (fun _ _ _ h => h) ?_ ?_
  rotate_left
  · first | (refine Or.inl ⟨by rfl, fun W hS => ?_⟩; obtain ⟨hH, r1⟩ := hS; refine detR_call (w' := W) (f := ?_) (args := ?_) ?_ ?_; rotate_left 2; (go_simp; (refine ⟨?_, ?_⟩ <;> with_reducible rfl)); (first | (with_reducible refine (HTT1.out _).mono ?_) | (with_reducible refine (HTT2.out _).mono ?_) | fail); (first | (rintro e wn ⟨rfl, hb⟩; refine ⟨?_, hb⟩; with_reducible rfl) | (rintro e wn ⟨rfl, rfl⟩; refine ⟨?_, Below.refl _ _⟩; with_reducible rfl) | fail)) | fail
  simp only [Act.put, List.setIfInBounds_toArray, List.set_cons_zero, List.set_cons_succ]
  refine takeW (i := 5) (v := ?_) (Stable.and (Stable.held _ _) (stable_win v1 xs0_Nodes xs0_Leads)) rfl (by kernel_rfl) (by kernel_rfl) (by kernel_rfl) (fun _ _ _ h => h) ?_ ?_
  rotate_left
  · first | (refine Or.inl ⟨by rfl, fun W hS => ?_⟩; obtain ⟨hH, r1⟩ := hS; refine detR_call (w' := W) (f := ?_) (args := ?_) ?_ ?_; rotate_left 2; (go_simp; (refine ⟨?_, ?_⟩ <;> with_reducible rfl)); (first | (with_reducible refine (HTT1.out _).mono ?_) | (with_reducible refine (HTT2.out _).mono ?_) | fail); (first | (rintro e wn ⟨rfl, hb⟩; refine ⟨?_, hb⟩; with_reducible rfl) | (rintro e wn ⟨rfl, rfl⟩; refine ⟨?_, Below.refl _ _⟩; with_reducible rfl) | fail)) | fail
  simp only [Act.put, List.setIfInBounds_toArray, List.set_cons_zero, List.set_cons_succ]
  refine takeW (i := 6) (v := ?_) (Stable.and (Stable.held _ _) (stable_win v1 xs0_Nodes xs0_Leads)) rfl (by kernel_rfl) (by kernel_rfl) (by kernel_rfl) (fun _ _ _ h => h) ?_ ?_
  rotate_left
  · first | (refine Or.inl ⟨by rfl, fun W hS => ?_⟩; obtain ⟨hH, r1⟩ := hS; refine detR_call (w' := W) (f := ?_) (args := ?_) ?_ ?_; rotate_left 2; (go_simp; (refine ⟨?_, ?_⟩ <;> with_reducible rfl)); (first | (with_reducible refine (HS.out _ _ r1).mono ?_) | fail); (first | (rintro e wn ⟨rfl, hb⟩; refine ⟨?_, hb⟩; with_reducible rfl) | (rintro e wn ⟨rfl, rfl⟩; refine ⟨?_, Below.refl _ _⟩; with_reducible rfl) | fail)) | fail
  simp only [Act.put, List.setIfInBounds_toArray, List.set_cons_zero, List.set_cons_succ]
  refine takeW (i := 7) (v := ?_) (Stable.and (Stable.held _ _) (stable_win v1 xs0_Nodes xs0_Leads)) rfl (by kernel_rfl) (by kernel_rfl) (by kernel_rfl) (fun _ _ _ h => h) ?_ ?_
  rotate_left
  · first | (refine Or.inl ⟨by rfl, fun W hS => detR_value (w' := W) ?_ (Below.refl _ _)⟩; obtain ⟨hH, r1⟩ := hS; obtain ⟨x0, x1, x2, x3, x4, x5, x6, x7, x8, x9, _⟩ := hH.1; go_simp; first | done | with_reducible rfl) | fail
  simp only [Act.put, List.setIfInBounds_toArray, List.set_cons_zero, List.set_cons_succ]
  refine doneW (by kernel_rfl) fun wH2 HG => ?_
  obtain ⟨hH, r1⟩ := HG
  have H2 := Lib.hid hH; clear hH
  have MH2_1 := Lib.hid r1; clear r1
  try clear x0 x1 x2 x3 x4 x5 x6 x7 x8 x9
  obtain ⟨x0, x1, x2, x3, x4, x5, x6, x7, x8, x9, _⟩ := H2.out.1
  go_wp2_with fail
  clear MH2_1
  refine (HT.out _ _ (HP.out.step H2.out.below)).mono ?_
  rintro e w5 ⟨v5, rfl, hm, hb⟩
  have H5 := Lib.hid (H2.out.step hb); clear hb
  obtain ⟨B1, B2, d1, d2, rfl, k1, k2⟩ := hm
  have M5 := Lib.hid (WinAt.mk k1 k2); clear k1 k2
  clear x0 x1 x2 x3 x4 x5 x6 x7 x8 x9
  obtain ⟨x0, x1, x2, x3, x4, x5, x6, x7, x8, x9, _⟩ := H5.out.1
  obtain ⟨y0, y1, y2, y3, y4, y5, y6, y7, y8, y9, _⟩ := H5.out.2.1
  go_wp2_with fail
  have H6 := Lib.hid (H5.out.new2 w5.heap.size rfl [.slice B1 xs0_Nodes.length d1, .slice B2 xs0_Leads.length d2] 32)
  have M6 := Lib.hid (M5.out.step (Below.refl _ _ |>.alloc (Nat.le_refl _) (.cells #[.slice B1 xs0_Nodes.length d1, .slice B2 xs0_Leads.length d2] 32)))
  have S7 := Lib.hid (Held.start H6.out.1 H6.out.2.1)
  clear x0 x1 x2 x3 x4 x5 x6 x7 x8 x9 y0 y1 y2 y3 y4 y5 y6 y7 y8 y9
  refine regionD (S := fun W => Held _ W [(w5.heap.size, 0, .slice B1 xs0_Nodes.length d1), (w5.heap.size, 1, .slice B2 xs0_Leads.length d2), (w.heap.size + 1 + 1, 0, .int .i64 (a2_Glass)), (w.heap.size + 1 + 1, 1, .int .i64 (a2_Lead)), (w.heap.size + 1 + 1, 2, .int .i64 (a2_Joint)), (w.heap.size + 1 + 1, 3, .int .i64 (a2_Paint)), (w.heap.size + 1, 0, .int .i64 (a1_Glass)), (w.heap.size + 1, 1, .int .i64 (a1_Lead)), (w.heap.size + 1, 2, .int .i64 (a1_Joint)), (w.heap.size + 1, 3, .int .i64 (a1_Paint)), (w.heap.size, 0, .slice A xs0_Nodes.length c), (w.heap.size, 1, .slice A2 xs0_Leads.length c2)]) (by kernel_rfl) S7.out.drew ?_
  iterate 7 (refine takeT (v := ?_) rfl (by kernel_rfl) (by kernel_rfl) (by kernel_rfl) ?_ ?_; rotate_left; (first | (refine Or.inr ⟨by rfl, ?_⟩; with_reducible rfl) | (refine Or.inl ⟨by rfl, fun W hS => detRes_value (w' := W) ?_ hS⟩; obtain ⟨x0, x1, x2, x3, x4, x5, x6, x7, x8, x9, x10, x11, _⟩ := hS.1; go_simp; first | done | with_reducible rfl) | (refine Or.inl ⟨by rfl, fun W hS => ?_⟩; refine detRes_call (w' := W) (f := ?_) (args := ?_) ?_ ?_; rotate_left 2; (go_simp; (refine ⟨?_, ?_⟩ <;> with_reducible rfl)); (first | (with_reducible refine (HTT1.out _).mono ?_) | (with_reducible refine (HTT2.out _).mono ?_) | (with_reducible refine (HI.out _ _ (M6.out.step hS.below)).mono ?_) | fail); (first | (rintro e wn ⟨rfl, hb⟩; refine ⟨?_, hS.step hb⟩; with_reducible rfl) | (rintro e wn ⟨rfl, rfl⟩; refine ⟨?_, hS⟩; with_reducible rfl) | fail)) | fail); (simp only [Act.put, List.setIfInBounds_toArray, List.set_cons_zero, List.set_cons_succ]))
  refine doneD (by kernel_rfl) fun wH8 HS => ?_
  have H8 := Lib.hid HS; clear HS
  try clear x0 x1 x2 x3 x4 x5 x6 x7 x8 x9 x10 x11
  obtain ⟨x0, x1, x2, x3, x4, x5, x6, x7, x8, x9, x10, x11, _⟩ := H8.out.1
  go_wp2_with fail
  have H8b := Lib.hid (H6.out.step H8.out.below)
  have M8 := Lib.hid (M6.out.step H8.out.below)
  refine regionW (fun W => (Held _ W [(w5.heap.size, 0, .slice B1 xs0_Nodes.length d1), (w5.heap.size, 1, .slice B2 xs0_Leads.length d2), (w.heap.size + 1 + 1, 0, .int .i64 (a2_Glass)), (w.heap.size + 1 + 1, 1, .int .i64 (a2_Lead)), (w.heap.size + 1 + 1, 2, .int .i64 (a2_Joint)), (w.heap.size + 1 + 1, 3, .int .i64 (a2_Paint)), (w.heap.size + 1, 0, .int .i64 (a1_Glass)), (w.heap.size + 1, 1, .int .i64 (a1_Lead)), (w.heap.size + 1, 2, .int .i64 (a1_Joint)), (w.heap.size + 1, 3, .int .i64 (a1_Paint)), (w.heap.size, 0, .slice A xs0_Nodes.length c), (w.heap.size, 1, .slice A2 xs0_Leads.length c2)]) ∧ WinAt W (.agg #[.slice B1 xs0_Nodes.length d1, .slice B2 xs0_Leads.length d2]) xs0_Nodes xs0_Leads) (by kernel_rfl) ⟨H8b.out.drew, (M8.out).step ((Below.refl _ _).drew)⟩ ?_
  refine takeW (i := 0) (v := ?_) (Stable.and (Stable.held _ _) (stable_win (.agg #[.slice B1 xs0_Nodes.length d1, .slice B2 xs0_Leads.length d2]) xs0_Nodes xs0_Leads)) rfl (by kernel_rfl) (by kernel_rfl) (by kernel_rfl) (fun _ _ _ h => h) ?_ ?_
  rotate_left
  · first | (refine Or.inl ⟨by rfl, fun W hS => detR_value (w' := W) ?_ (Below.refl _ _)⟩; obtain ⟨hH, q1⟩ := hS; obtain ⟨x0, x1, x2, x3, x4, x5, x6, x7, x8, x9, x10, x11, _⟩ := hH.1; go_simp; first | done | with_reducible rfl) | fail
  simp only [Act.put, List.setIfInBounds_toArray, List.set_cons_zero, List.set_cons_succ]
  refine takeW (i := 1) (v := ?_) (Stable.and (Stable.held _ _) (stable_win (.agg #[.slice B1 xs0_Nodes.length d1, .slice B2 xs0_Leads.length d2]) xs0_Nodes xs0_Leads)) rfl (by kernel_rfl) (by kernel_rfl) (by kernel_rfl) (fun _ _ _ h => h) ?_ ?_
  rotate_left
  · first | (refine Or.inl ⟨by rfl, fun W hS => detR_value (w' := W) ?_ (Below.refl _ _)⟩; obtain ⟨hH, q1⟩ := hS; obtain ⟨x0, x1, x2, x3, x4, x5, x6, x7, x8, x9, x10, x11, _⟩ := hH.1; go_simp; first | done | with_reducible rfl) | fail
  simp only [Act.put, List.setIfInBounds_toArray, List.set_cons_zero, List.set_cons_succ]
  refine freeW (i := 2) (fun v W => WinAt W v xs0_Nodes xs0_Leads) (Stable.and (Stable.held _ _) (stable_win (.agg #[.slice B1 xs0_Nodes.length d1, .slice B2 xs0_Leads.length d2]) xs0_Nodes xs0_Leads)) (fun v => stable_win v xs0_Nodes xs0_Leads) rfl (by kernel_rfl) (by rfl) (fun W hS => ?_) (fun v1 => ?_)
  · obtain ⟨hH, q1⟩ := hS; refine freeR_call (w' := W) (f := ?_) (args := ?_) ?_ ?_; rotate_left 2; (go_simp; (refine ⟨?_, ?_⟩ <;> with_reducible rfl)); refine (HT.out _ _ (HP.out.step hH.below)).mono ?_; rintro e wn ⟨v, rfl, hm, hb⟩; exact ⟨v, rfl, hm, hb⟩
  simp only [Act.put, List.setIfInBounds_toArray, List.set_cons_zero, List.set_cons_succ]
  refine takeW (i := 3) (v := ?_) (Stable.and (Stable.and (Stable.held _ _) (stable_win (.agg #[.slice B1 xs0_Nodes.length d1, .slice B2 xs0_Leads.length d2]) xs0_Nodes xs0_Leads)) (stable_win v1 xs0_Nodes xs0_Leads)) rfl (by kernel_rfl) (by kernel_rfl) (by kernel_rfl) (fun _ _ _ h => h) ?_ ?_
  rotate_left
  · first | (refine Or.inl ⟨by rfl, fun W hS => ?_⟩; obtain ⟨⟨hH, q1⟩, r1⟩ := hS; refine detR_call (w' := W) (f := ?_) (args := ?_) ?_ ?_; rotate_left 2; (go_simp; (refine ⟨?_, ?_⟩ <;> with_reducible rfl)); (first | (with_reducible refine (HEQ.out _ _ _ q1 r1).mono ?_) | fail); (first | (rintro e wn ⟨rfl, hb⟩; refine ⟨?_, hb⟩; with_reducible rfl) | (rintro e wn ⟨rfl, rfl⟩; refine ⟨?_, Below.refl _ _⟩; with_reducible rfl) | fail)) | fail
  simp only [Act.put, List.setIfInBounds_toArray, List.set_cons_zero, List.set_cons_succ]
  refine takeW (i := 4) (v := ?_) (Stable.and (Stable.and (Stable.held _ _) (stable_win (.agg #[.slice B1 xs0_Nodes.length d1, .slice B2 xs0_Leads.length d2]) xs0_Nodes xs0_Leads)) (stable_win v1 xs0_Nodes xs0_Leads)) rfl (by kernel_rfl) (by kernel_rfl) (by kernel_rfl) (fun _ _ _ h => h) ?_ ?_
  rotate_left
  · first | (refine Or.inl ⟨by rfl, fun W hS => detR_value (w' := W) ?_ (Below.refl _ _)⟩; obtain ⟨⟨hH, q1⟩, r1⟩ := hS; obtain ⟨x0, x1, x2, x3, x4, x5, x6, x7, x8, x9, x10, x11, _⟩ := hH.1; go_simp; first | done | with_reducible rfl) | fail
  simp only [Act.put, List.setIfInBounds_toArray, List.set_cons_zero, List.set_cons_succ]
  refine doneW (by kernel_rfl) fun wH9 HG => ?_
  obtain ⟨⟨hH, q1⟩, r1⟩ := HG
  have H9 := Lib.hid hH; clear hH
  have MH9_q1 := Lib.hid q1; clear q1
  have MH9_1 := Lib.hid r1; clear r1
  try clear x0 x1 x2 x3 x4 x5 x6 x7 x8 x9 x10 x11
  obtain ⟨x0, x1, x2, x3, x4, x5, x6, x7, x8, x9, x10, x11, _⟩ := H9.out.1
  go_wp2_with fail
  go_ret
  exact ⟨rfl, H9.out.below⟩

set_option maxRecDepth 100000 in
theorem lifted (os : Os) (started : os.Started) (H : Type) (enc : TypeId × Value → H) :
    ReturnsInHanded {} Tryz.checked os 11 .any (Rows.fnExactCheaperTariffSpec.pre6 enc Tryz.prog Tryz.f11 Rows.fnExactCheaperTariffRow.domain false) (Rows.fnExactCheaperTariffSpec.post enc Tryz.prog Tryz.f11 false true false false) := by
  refine returnsInHanded_of_change (C := Tryz.checked) own started (by kernel_rfl) Tryz.func11
    (ChangeSpec.witness6 (enc := enc) (C := Tryz.checked) false ⟨#[], #[.agg #[.slice none 0 0, .slice none 0 0], .agg #[.int .i64 0, .int .i64 0, .int .i64 0, .int .i64 0], .agg #[.int .i64 0, .int .i64 0, .int .i64 0, .int .i64 0]], []⟩ 8 (by kernel_rfl) (by kernel_rfl) (by kernel_rfl) (by kernel_rfl)) ?_
  intro W base args ds gs before hval0 hW hcnd _
  have hval : ∀ (j : Nat) t v, Tryz.f11.params[j]? = some t → args[j]? = some v → Value.okWide Tryz.prog W .any base t v := hval0
  have hW' := hW
  obtain ⟨p, q, hA0, hV, rfl, hfz, hnd⟩ := hW
  have hA : DataW.TrodAll enc Tryz.prog W 0 (fun _ => true) true Tryz.f11.params.toList args.toList ds p := hA0
  rw [Tryz.params11] at hA hval
  obtain ⟨v0, vs0, d0, ds0, p0, q0, hargs, rfl, rfl, h0, r0⟩ := trodAll_cons hA
  obtain ⟨v1, vs1, d1, ds1, p1, q1, rfl, rfl, rfl, h1, r1⟩ := trodAll_cons r0
  obtain ⟨v2, vs2, d2, ds2, p2, q2, rfl, rfl, rfl, h2, r2⟩ := trodAll_cons r1
  obtain ⟨rfl, rfl, rfl⟩ := trodAll_nil r2
  obtain rfl : args = #[v0, v1, v2] := by cases args; simp_all
  obtain ⟨rfl, rfl⟩ := trodVars_none hV
  have k0 := h0
  have lt0 : ∀ x ∈ p0, x.block < W.heap.size := by obtain ⟨m, hm⟩ := k0; exact DataW.trod_lt m _ _ _ hm
  have k1 := h1
  have lt1 : ∀ x ∈ p1, x.block < W.heap.size := by obtain ⟨m, hm⟩ := k1; exact DataW.trod_lt m _ _ _ hm
  have k2 := h2
  have lt2 : ∀ x ∈ p2, x.block < W.heap.size := by obtain ⟨m, hm⟩ := k2; exact DataW.trod_lt m _ _ _ hm
  obtain ⟨c00, c01, y00, y01, m0, rfl, rfl, rfl, g00, g01⟩ := open_agg2 Tryz.underlying25 (by kernel_rfl) (by kernel_rfl) (hval 0 25 v0 rfl rfl) h0
  obtain ⟨a0_Nodes, xs0_Nodes, e0_Nodes, w0_Nodes⟩ := prs_open Tryz.underlying22 Tryz.underlying149 (by kernel_rfl) (by kernel_rfl) Tryz.underlying3 Tryz.underlying3 g00
  obtain rfl : c00 = a0_Nodes := by simpa using e0_Nodes
  obtain ⟨a0_Leads, xs0_Leads, e0_Leads, w0_Leads⟩ := prs_open Tryz.underlying23 Tryz.underlying153 (by kernel_rfl) (by kernel_rfl) Tryz.underlying3 Tryz.underlying3 g01
  obtain rfl : c01 = a0_Leads := by simpa using e0_Leads
  obtain ⟨c10, c11, c12, c13, y10, y11, y12, y13, m1, rfl, rfl, rfl, g10, g11, g12, g13⟩ := open_agg4 Tryz.underlying53 (by kernel_rfl) (by kernel_rfl) (hval 1 53 v1 rfl rfl) h1
  obtain ⟨a1_Glass, e10, rfl, w1_Glass⟩ := DataW.trod_int Tryz.underlying3 g10
  obtain rfl : c10 = .int .i64 a1_Glass := by simpa using e10
  obtain ⟨a1_Lead, e11, rfl, w1_Lead⟩ := DataW.trod_int Tryz.underlying3 g11
  obtain rfl : c11 = .int .i64 a1_Lead := by simpa using e11
  obtain ⟨a1_Joint, e12, rfl, w1_Joint⟩ := DataW.trod_int Tryz.underlying3 g12
  obtain rfl : c12 = .int .i64 a1_Joint := by simpa using e12
  obtain ⟨a1_Paint, e13, rfl, w1_Paint⟩ := DataW.trod_int Tryz.underlying3 g13
  obtain rfl : c13 = .int .i64 a1_Paint := by simpa using e13
  obtain ⟨c20, c21, c22, c23, y20, y21, y22, y23, m2, rfl, rfl, rfl, g20, g21, g22, g23⟩ := open_agg4 Tryz.underlying53 (by kernel_rfl) (by kernel_rfl) (hval 2 53 v2 rfl rfl) h2
  obtain ⟨a2_Glass, e20, rfl, w2_Glass⟩ := DataW.trod_int Tryz.underlying3 g20
  obtain rfl : c20 = .int .i64 a2_Glass := by simpa using e20
  obtain ⟨a2_Lead, e21, rfl, w2_Lead⟩ := DataW.trod_int Tryz.underlying3 g21
  obtain rfl : c21 = .int .i64 a2_Lead := by simpa using e21
  obtain ⟨a2_Joint, e22, rfl, w2_Joint⟩ := DataW.trod_int Tryz.underlying3 g22
  obtain rfl : c22 = .int .i64 a2_Joint := by simpa using e22
  obtain ⟨a2_Paint, e23, rfl, w2_Paint⟩ := DataW.trod_int Tryz.underlying3 g23
  obtain rfl : c23 = .int .i64 a2_Paint := by simpa using e23
  clear hA0 hval0
  refine (walk W _ xs0_Nodes w0_Nodes _ xs0_Leads w0_Leads a1_Glass w1_Glass a1_Lead w1_Lead a1_Joint w1_Joint a1_Paint w1_Paint a2_Glass w2_Glass a2_Lead w2_Lead a2_Joint w2_Joint a2_Paint w2_Paint).mono fun e W' ⟨he, bel⟩ => ?_
  subst he
  exact ⟨_, rfl, _, _, _, [], _, [], hW', trodAll_mk1 (shut_bool Tryz.underlying4 _), trodAll_cons_mk (Below.trod laidOut (by kernel_rfl) (of_decide_eq_true (by kernel_rfl)) k0 bel lt0) (trodAll_cons_mk (Below.trod laidOut (by kernel_rfl) (of_decide_eq_true (by kernel_rfl)) k1 bel lt1) (trodAll_cons_mk (Below.trod laidOut (by kernel_rfl) (of_decide_eq_true (by kernel_rfl)) k2 bel lt2) (trodAll_mk0))), rfl, bel.frame _, fun h => by cases h⟩

theorem jA : (Rows.fnExactCheaperTariffRow.inPlace == Tryz.pinned.checked.prog.inPlace 11) = true := by kernel_rfl
theorem jB : (Rows.fnExactCheaperTariffRow.unfollowed == Tryz.pinned.checked.prog.unfollowed 11) = true := by kernel_rfl
theorem jC : (Rows.fnExactCheaperTariffRow.recurses == Tryz.pinned.checked.prog.recurses 11) = true := by kernel_rfl
theorem jD : (Rows.fnExactCheaperTariffRow.named == Tryz.pinned.checked.prog.varsNamed 11) = true := by kernel_rfl
theorem closed : joinedFacts Tryz.pinned.checked.prog 11 Tryz.f11 Rows.fnExactCheaperTariffSpec Rows.fnExactCheaperTariffRow = true := by
  unfold joinedFacts
  repeat' (with_reducible refine and_yes ?_ ?_)
  all_goals first | with_reducible exact jEnter | with_reducible exact jHeard | with_reducible exact jLaid | with_reducible exact jMaps | with_reducible exact jA | with_reducible exact jB | with_reducible exact jC | with_reducible exact jD | kernel_rfl

theorem over : Rows.fnExactCheaperTariffRow.holds Tryz.pinned (OpenSpec.ofChange Rows.fnExactCheaperTariffSpec) :=
  OpenClaim.holds_of_wide 11 Tryz.f11 rfl rfl rfl rfl rfl rfl rfl ⟨rfl, rfl, rfl, rfl, rfl⟩ rfl rfl rfl rfl rfl (by kernel_rfl) Tryz.func11 closed
    (of_decide_eq_true (by kernel_rfl)) (by unfold Func.isWrapper; first | (rw [if_pos (by decide +kernel)]; kernel_rfl) | (rw [if_neg (by decide +kernel)]; exact ⟨rfl, rfl⟩))
    (fun os started H enc _ => lifted os started H enc)

/-- THE STATEMENT. -/
theorem proved : Rows.FnExactCheaperTariffSaid := over
#print axioms proved
end Go.Proofs.YtepacoacalhdcaaGreat.fnExactCheaperTariff
