/-
  The program's SameWindow returns, for every two windows, what the model's SameWindow returns, and leaves the windows as they are: the law FnExactSameWindow answers true. No condition.
-/
import Derived.Test.YtghpbdgghliieabRows
import Derived.Test.YtghpbdgghliieabLawW
import Derived.Test.YtghpbdgghliieabSameW
import Derived.Test.YtghpbdgghliieabOpen
import Derived.WalkKit
import Derived.ProofKit
import Derived.OpenShut
import Derived.ShutString
import Derived.ChangeOld
import Derived.Below
import Derived.Carry
import Derived.Lib.SmallJoins
namespace Go.Proofs.Ytghpbdgghliieab.fnExactSameWindow
open Go.ChangeShapes Go.WideShapes Go.ChangeAt Go.RowKit Go.Joins
open Go.ChangeMaps (open_string shut_string)
set_option linter.unusedVariables false
set_option linter.unusedSimpArgs false

theorem own : ownKnob Try.prog.godebug = none := by kernel_rfl
theorem laidOut : laidOutB Try.prog = true := by kernel_rfl
set_option maxRecDepth 100000
theorem walk (w : World) (a0_Nodes : Value) (xs0_Nodes : List Nd) (w0_Nodes : Prs w a0_Nodes xs0_Nodes) (a0_Leads : Value) (xs0_Leads : List Nd) (w0_Leads : Prs w a0_Leads xs0_Leads) (a1_Nodes : Value) (xs1_Nodes : List Nd) (w1_Nodes : Prs w a1_Nodes xs1_Nodes) (a1_Leads : Value) (xs1_Leads : List Nd) (w1_Leads : Prs w a1_Leads xs1_Leads) :
    Calls Try.prog 11 #[.agg #[a0_Nodes, a0_Leads], .agg #[a1_Nodes, a1_Leads]] w fun e w' => e = .returned (.bool true) ∧ Below w.heap.size w w' := by
  have n0 := w0_Nodes.len
  have l0 := w0_Leads.len
  have n1 := w1_Nodes.len
  have l1 := w1_Leads.len
  have HP0 := Lib.hid (WinAt.mk w0_Nodes w0_Leads)
  have HP1 := Lib.hid (WinAt.mk w1_Nodes w1_Leads)
  obtain ⟨A, c, rfl⟩ := prs_form2 w0_Nodes
  obtain ⟨A2, c2, rfl⟩ := prs_form2 w0_Leads
  obtain ⟨A3, c3, rfl⟩ := prs_form2 w1_Nodes
  obtain ⟨A4, c4, rfl⟩ := prs_form2 w1_Leads
  clear w0_Nodes w0_Leads w1_Nodes w1_Leads
  have HZ := Lib.hid (fun w => szWindow_left xs0_Nodes.length c xs0_Leads.length c2 A A2 1048576 w (by omega) (by omega) n0 l0)
  have HY := Lib.hid (fun q w h0 h9 => szWindow_left xs1_Nodes.length c3 xs1_Leads.length c4 A3 A4 q w h0 h9 n1 l1)
  have HS := Lib.hid (fun v u w (hv : WinAt w v xs0_Nodes xs0_Leads) (hu : WinAt w u xs1_Nodes xs1_Leads) => (show Calls Try.prog 39 #[v, u] w (BoolIs (sameWB xs0_Nodes xs0_Leads xs1_Nodes xs1_Leads) w) by
    obtain ⟨A1, A2, c1, c2, rfl, k1, k2⟩ := hv; obtain ⟨A3, A4, c3, c4, rfl, k3, k4⟩ := hu; exact specSameW _ _ _ _ _ _ _ _ w k1 k2 k3 k4))
  have HI := Lib.hid (fun v u w (hv : WinAt w v xs0_Nodes xs0_Leads) (hu : WinAt w u xs1_Nodes xs1_Leads) => (show Calls Try.prog 40 #[v, u] w (BoolIs (sameWB xs0_Nodes xs0_Leads xs1_Nodes xs1_Leads) w) by
    obtain ⟨A1, A2, c1, c2, rfl, k1, k2⟩ := hv; obtain ⟨A3, A4, c3, c4, rfl, k3, k4⟩ := hu; exact implSameW _ _ _ _ _ _ _ _ w k1 k2 k3 k4))
  generalize sameWB xs0_Nodes xs0_Leads xs1_Nodes xs1_Leads = r at *
  have HT0 := Lib.hid (fun v w hv h1 h2 => toWindow_at xs0_Nodes xs0_Leads v w hv h1 h2)
  have HT1 := Lib.hid (fun v w hv h1 h2 => toWindow_at xs1_Nodes xs1_Leads v w hv h1 h2)
  have HE0 := Lib.hid (fun v u w hv hu => eqWindow_at xs0_Nodes xs0_Leads v u w hv hu)
  have HE1 := Lib.hid (fun v u w hv hu => eqWindow_at xs1_Nodes xs1_Leads v u w hv hu)
  have H0 := Lib.hid (((Held.none_ w).new2 w.heap.size rfl [.slice A xs0_Nodes.length c, .slice A2 xs0_Leads.length c2] 53).new2 (w.heap.size + 1) (by simp) [.slice A3 xs1_Nodes.length c3, .slice A4 xs1_Leads.length c4] 53)
  simp only [newFs, List.cons_append, List.nil_append, List.append_nil] at H0
  go_enter Try.func11, Try.ntmps11
  go_wp2_with fail
  refine (HZ.out _).mono ?_
  rintro e w1 ⟨q, rfl, hq, hb⟩
  have H1 := Lib.hid (H0.out.step hb); clear hb
  obtain ⟨x0, x1, x2, x3, _⟩ := H1.out.1
  rcases hq with hq | ⟨hq, hq9, hq1, hq2⟩
  · go_wp2_with fail
    go_ret
    exact ⟨rfl, H1.out.below⟩
  have HT0 := Lib.hid (fun v w hv => HT0.out v w hv hq1 hq2)
  have HYq := Lib.hid (fun w => HY.out q w hq hq9)
  go_wp2_with fail
  refine (HYq.out _).mono ?_
  rintro e w2 ⟨p, rfl, hp, hb⟩
  have H2 := Lib.hid (H1.out.step hb); clear hb
  clear x0 x1 x2 x3
  obtain ⟨x0, x1, x2, x3, _⟩ := H2.out.1
  rcases hp with hp | ⟨hp, hp9, hp1, hp2⟩
  · go_wp2_with fail
    go_ret
    exact ⟨rfl, H2.out.below⟩
  have HT1 := Lib.hid (fun v w hv => HT1.out v w hv hp1 hp2)
  go_wp2_with fail
  refine regionW (fun W => Held _ W [(w.heap.size + 1, 0, .slice A3 xs1_Nodes.length c3), (w.heap.size + 1, 1, .slice A4 xs1_Leads.length c4), (w.heap.size, 0, .slice A xs0_Nodes.length c), (w.heap.size, 1, .slice A2 xs0_Leads.length c2)]) (by kernel_rfl) H2.out.drew ?_
  refine takeW (i := 0) (v := ?_) (Stable.held _ _) rfl (by kernel_rfl) (by kernel_rfl) (by kernel_rfl) (fun _ _ _ h => h) ?_ ?_
  rotate_left
  · first | (refine Or.inl ⟨by rfl, fun W hS => detR_value (w' := W) ?_ (Below.refl _ _)⟩; have hH := hS; obtain ⟨x0, x1, x2, x3, _⟩ := hH.1; go_simp; first | done | with_reducible rfl) | fail
  simp only [Act.put, List.setIfInBounds_toArray, List.set_cons_zero, List.set_cons_succ]
  refine takeW (i := 2) (v := ?_) (Stable.held _ _) rfl (by kernel_rfl) (by kernel_rfl) (by kernel_rfl) (fun _ _ _ h => h) ?_ ?_
  rotate_left
  · first | (refine Or.inl ⟨by rfl, fun W hS => detR_value (w' := W) ?_ (Below.refl _ _)⟩; have hH := hS; obtain ⟨x0, x1, x2, x3, _⟩ := hH.1; go_simp; first | done | with_reducible rfl) | fail
  simp only [Act.put, List.setIfInBounds_toArray, List.set_cons_zero, List.set_cons_succ]
  refine freeW (i := 1) (fun v W => WinAt W v xs0_Nodes xs0_Leads) (Stable.held _ _) (fun v => stable_win v xs0_Nodes xs0_Leads) rfl (by kernel_rfl) (by rfl) (fun W hS => ?_) (fun v1 => ?_)
  · have hH := hS; refine freeR_call (w' := W) (f := ?_) (args := ?_) ?_ ?_; rotate_left 2; (go_simp; (refine ⟨?_, ?_⟩ <;> with_reducible rfl)); refine (HT0.out _ _ (HP0.out.step hH.below)).mono ?_; rintro e wn ⟨v, rfl, hm, hb⟩; exact ⟨v, rfl, hm, hb⟩
  simp only [Act.put, List.setIfInBounds_toArray, List.set_cons_zero, List.set_cons_succ]
  refine freeW (i := 3) (fun v W => WinAt W v xs1_Nodes xs1_Leads) (Stable.and (Stable.held _ _) (stable_win v1 xs0_Nodes xs0_Leads)) (fun v => stable_win v xs1_Nodes xs1_Leads) rfl (by kernel_rfl) (by rfl) (fun W hS => ?_) (fun v2 => ?_)
  · obtain ⟨hH, r1⟩ := hS; refine freeR_call (w' := W) (f := ?_) (args := ?_) ?_ ?_; rotate_left 2; (go_simp; (refine ⟨?_, ?_⟩ <;> with_reducible rfl)); refine (HT1.out _ _ (HP1.out.step hH.below)).mono ?_; rintro e wn ⟨v, rfl, hm, hb⟩; exact ⟨v, rfl, hm, hb⟩
  simp only [Act.put, List.setIfInBounds_toArray, List.set_cons_zero, List.set_cons_succ]
  refine takeW (i := 4) (v := ?_) (Stable.and (Stable.and (Stable.held _ _) (stable_win v1 xs0_Nodes xs0_Leads)) (stable_win v2 xs1_Nodes xs1_Leads)) rfl (by kernel_rfl) (by kernel_rfl) (by kernel_rfl) (fun _ _ _ h => h) ?_ ?_
  rotate_left
  · first | (refine Or.inl ⟨by rfl, fun W hS => ?_⟩; obtain ⟨⟨hH, r1⟩, r2⟩ := hS; refine detR_call (w' := W) (f := ?_) (args := ?_) ?_ ?_; rotate_left 2; (go_simp; (refine ⟨?_, ?_⟩ <;> with_reducible rfl)); (first | (with_reducible refine (HS.out _ _ _ r1 r2).mono ?_) | fail); (first | (rintro e wn ⟨rfl, hb⟩; refine ⟨?_, hb⟩; with_reducible rfl) | (rintro e wn ⟨rfl, rfl⟩; refine ⟨?_, Below.refl _ _⟩; with_reducible rfl) | fail)) | fail
  simp only [Act.put, List.setIfInBounds_toArray, List.set_cons_zero, List.set_cons_succ]
  refine takeW (i := 5) (v := ?_) (Stable.and (Stable.and (Stable.held _ _) (stable_win v1 xs0_Nodes xs0_Leads)) (stable_win v2 xs1_Nodes xs1_Leads)) rfl (by kernel_rfl) (by kernel_rfl) (by kernel_rfl) (fun _ _ _ h => h) ?_ ?_
  rotate_left
  · first | (refine Or.inl ⟨by rfl, fun W hS => detR_value (w' := W) ?_ (Below.refl _ _)⟩; obtain ⟨⟨hH, r1⟩, r2⟩ := hS; obtain ⟨x0, x1, x2, x3, _⟩ := hH.1; go_simp; first | done | with_reducible rfl) | fail
  simp only [Act.put, List.setIfInBounds_toArray, List.set_cons_zero, List.set_cons_succ]
  refine doneW (by kernel_rfl) fun wH3 HG => ?_
  obtain ⟨⟨hH, r1⟩, r2⟩ := HG
  have H3 := Lib.hid hH; clear hH
  have MH3_1 := Lib.hid r1; clear r1
  have MH3_2 := Lib.hid r2; clear r2
  try clear x0 x1 x2 x3
  obtain ⟨x0, x1, x2, x3, _⟩ := H3.out.1
  go_wp2_with fail
  clear MH3_1 MH3_2
  refine (HT0.out _ _ (HP0.out.step H3.out.below)).mono ?_
  rintro e w4 ⟨v4, rfl, hm, hb⟩
  have H4 := Lib.hid (H3.out.step hb); clear hb
  obtain ⟨B1, B2, d1, d2, rfl, k1, k2⟩ := hm
  have M4 := Lib.hid (WinAt.mk k1 k2); clear k1 k2
  clear x0 x1 x2 x3
  obtain ⟨x0, x1, x2, x3, _⟩ := H4.out.1
  obtain ⟨y0, y1, y2, _⟩ := H4.out.2.1
  go_wp2_with fail
  have b5 : Below w4.heap.size w4 (w4.alloc (.cells #[.slice B1 xs0_Nodes.length d1, .slice B2 xs0_Leads.length d2] 61)) := (Below.refl _ _).alloc (Nat.le_refl _) _
  have H5 := Lib.hid (H4.out.new2 w4.heap.size rfl [.slice B1 xs0_Nodes.length d1, .slice B2 xs0_Leads.length d2] 61)
  have M5 := Lib.hid (M4.out.step b5)
  clear b5 x0 x1 x2 x3 y0 y1 y2
  refine (HT1.out _ _ (HP1.out.step H5.out.below)).mono ?_
  rintro e w6 ⟨v6, rfl, hm, hb⟩
  have H6 := Lib.hid (H5.out.step hb)
  have M6 := Lib.hid (M5.out.step hb); clear hb
  obtain ⟨B3, B4, d3, d4, rfl, k1, k2⟩ := hm
  have N6 := Lib.hid (WinAt.mk k1 k2); clear k1 k2
  obtain ⟨x0, x1, x2, x3, x4, x5, _⟩ := H6.out.1
  obtain ⟨y0, y1, y2, y3, y4, _⟩ := H6.out.2.1
  go_wp2_with fail
  have b7 : Below w6.heap.size w6 (w6.alloc (.cells #[.slice B3 xs1_Nodes.length d3, .slice B4 xs1_Leads.length d4] 61)) := (Below.refl _ _).alloc (Nat.le_refl _) _
  have H7 := Lib.hid (H6.out.new2 w6.heap.size rfl [.slice B3 xs1_Nodes.length d3, .slice B4 xs1_Leads.length d4] 61)
  have M7 := Lib.hid (M6.out.step b7)
  have N7 := Lib.hid (N6.out.step b7)
  clear b7 x0 x1 x2 x3 x4 x5 y0 y1 y2 y3 y4
  refine (HI.out _ _ _ M7.out N7.out).mono ?_
  rintro e wH8 ⟨rfl, hb⟩
  have M7 := Lib.hid (M7.out.step hb)
  have N7 := Lib.hid (N7.out.step hb)
  have H8 := Lib.hid ((H7.out).step hb); clear hb
  try clear x0 x1 x2 x3 x4 x5 x6 x7
  obtain ⟨x0, x1, x2, x3, x4, x5, x6, x7, _⟩ := H8.out.1
  go_wp2_with fail
  refine regionW (fun W => ((Held _ W [(w6.heap.size, 0, .slice B3 xs1_Nodes.length d3), (w6.heap.size, 1, .slice B4 xs1_Leads.length d4), (w4.heap.size, 0, .slice B1 xs0_Nodes.length d1), (w4.heap.size, 1, .slice B2 xs0_Leads.length d2), (w.heap.size + 1, 0, .slice A3 xs1_Nodes.length c3), (w.heap.size + 1, 1, .slice A4 xs1_Leads.length c4), (w.heap.size, 0, .slice A xs0_Nodes.length c), (w.heap.size, 1, .slice A2 xs0_Leads.length c2)]) ∧ WinAt W (.agg #[.slice B1 xs0_Nodes.length d1, .slice B2 xs0_Leads.length d2]) xs0_Nodes xs0_Leads) ∧ WinAt W (.agg #[.slice B3 xs1_Nodes.length d3, .slice B4 xs1_Leads.length d4]) xs1_Nodes xs1_Leads) (by kernel_rfl) ⟨⟨H8.out.drew, (M7.out).step ((Below.refl _ _).drew)⟩, (N7.out).step ((Below.refl _ _).drew)⟩ ?_
  refine takeW (i := 0) (v := ?_) (Stable.and (Stable.and (Stable.held _ _) (stable_win (.agg #[.slice B1 xs0_Nodes.length d1, .slice B2 xs0_Leads.length d2]) xs0_Nodes xs0_Leads)) (stable_win (.agg #[.slice B3 xs1_Nodes.length d3, .slice B4 xs1_Leads.length d4]) xs1_Nodes xs1_Leads)) rfl (by kernel_rfl) (by kernel_rfl) (by kernel_rfl) (fun _ _ _ h => h) ?_ ?_
  rotate_left
  · first | (refine Or.inl ⟨by rfl, fun W hS => detR_value (w' := W) ?_ (Below.refl _ _)⟩; obtain ⟨⟨hH, q1⟩, q2⟩ := hS; obtain ⟨x0, x1, x2, x3, x4, x5, x6, x7, _⟩ := hH.1; go_simp; first | done | with_reducible rfl) | fail
  simp only [Act.put, List.setIfInBounds_toArray, List.set_cons_zero, List.set_cons_succ]
  refine takeW (i := 1) (v := ?_) (Stable.and (Stable.and (Stable.held _ _) (stable_win (.agg #[.slice B1 xs0_Nodes.length d1, .slice B2 xs0_Leads.length d2]) xs0_Nodes xs0_Leads)) (stable_win (.agg #[.slice B3 xs1_Nodes.length d3, .slice B4 xs1_Leads.length d4]) xs1_Nodes xs1_Leads)) rfl (by kernel_rfl) (by kernel_rfl) (by kernel_rfl) (fun _ _ _ h => h) ?_ ?_
  rotate_left
  · first | (refine Or.inl ⟨by rfl, fun W hS => detR_value (w' := W) ?_ (Below.refl _ _)⟩; obtain ⟨⟨hH, q1⟩, q2⟩ := hS; obtain ⟨x0, x1, x2, x3, x4, x5, x6, x7, _⟩ := hH.1; go_simp; first | done | with_reducible rfl) | fail
  simp only [Act.put, List.setIfInBounds_toArray, List.set_cons_zero, List.set_cons_succ]
  refine freeW (i := 2) (fun v W => WinAt W v xs0_Nodes xs0_Leads) (Stable.and (Stable.and (Stable.held _ _) (stable_win (.agg #[.slice B1 xs0_Nodes.length d1, .slice B2 xs0_Leads.length d2]) xs0_Nodes xs0_Leads)) (stable_win (.agg #[.slice B3 xs1_Nodes.length d3, .slice B4 xs1_Leads.length d4]) xs1_Nodes xs1_Leads)) (fun v => stable_win v xs0_Nodes xs0_Leads) rfl (by kernel_rfl) (by rfl) (fun W hS => ?_) (fun v1 => ?_)
  · obtain ⟨⟨hH, q1⟩, q2⟩ := hS; refine freeR_call (w' := W) (f := ?_) (args := ?_) ?_ ?_; rotate_left 2; (go_simp; (refine ⟨?_, ?_⟩ <;> with_reducible rfl)); refine (HT0.out _ _ (HP0.out.step hH.below)).mono ?_; rintro e wn ⟨v, rfl, hm, hb⟩; exact ⟨v, rfl, hm, hb⟩
  simp only [Act.put, List.setIfInBounds_toArray, List.set_cons_zero, List.set_cons_succ]
  refine takeW (i := 3) (v := ?_) (Stable.and (Stable.and (Stable.and (Stable.held _ _) (stable_win (.agg #[.slice B1 xs0_Nodes.length d1, .slice B2 xs0_Leads.length d2]) xs0_Nodes xs0_Leads)) (stable_win (.agg #[.slice B3 xs1_Nodes.length d3, .slice B4 xs1_Leads.length d4]) xs1_Nodes xs1_Leads)) (stable_win v1 xs0_Nodes xs0_Leads)) rfl (by kernel_rfl) (by kernel_rfl) (by kernel_rfl) (fun _ _ _ h => h) ?_ ?_
  rotate_left
  · first | (refine Or.inl ⟨by rfl, fun W hS => ?_⟩; obtain ⟨⟨⟨hH, q1⟩, q2⟩, r1⟩ := hS; refine detR_call (w' := W) (f := ?_) (args := ?_) ?_ ?_; rotate_left 2; (go_simp; (refine ⟨?_, ?_⟩ <;> with_reducible rfl)); (first | (with_reducible refine (HE0.out _ _ _ q1 r1).mono ?_) | fail); (first | (rintro e wn ⟨rfl, hb⟩; refine ⟨?_, hb⟩; with_reducible rfl) | (rintro e wn ⟨rfl, rfl⟩; refine ⟨?_, Below.refl _ _⟩; with_reducible rfl) | fail)) | fail
  simp only [Act.put, List.setIfInBounds_toArray, List.set_cons_zero, List.set_cons_succ]
  refine takeW (i := 4) (v := ?_) (Stable.and (Stable.and (Stable.and (Stable.held _ _) (stable_win (.agg #[.slice B1 xs0_Nodes.length d1, .slice B2 xs0_Leads.length d2]) xs0_Nodes xs0_Leads)) (stable_win (.agg #[.slice B3 xs1_Nodes.length d3, .slice B4 xs1_Leads.length d4]) xs1_Nodes xs1_Leads)) (stable_win v1 xs0_Nodes xs0_Leads)) rfl (by kernel_rfl) (by kernel_rfl) (by kernel_rfl) (fun _ _ _ h => h) ?_ ?_
  rotate_left
  · first | (refine Or.inl ⟨by rfl, fun W hS => detR_value (w' := W) ?_ (Below.refl _ _)⟩; obtain ⟨⟨⟨hH, q1⟩, q2⟩, r1⟩ := hS; obtain ⟨x0, x1, x2, x3, x4, x5, x6, x7, _⟩ := hH.1; go_simp; first | done | with_reducible rfl) | fail
  simp only [Act.put, List.setIfInBounds_toArray, List.set_cons_zero, List.set_cons_succ]
  refine doneW (by kernel_rfl) fun wH9 HG => ?_
  obtain ⟨⟨⟨hH, q1⟩, q2⟩, r1⟩ := HG
  have H9 := Lib.hid hH; clear hH
  have MH9_q1 := Lib.hid q1; clear q1
  have MH9_q2 := Lib.hid q2; clear q2
  have MH9_1 := Lib.hid r1; clear r1
  try clear x0 x1 x2 x3 x4 x5 x6 x7
  obtain ⟨x0, x1, x2, x3, x4, x5, x6, x7, _⟩ := H9.out.1
  go_wp2_with fail
  refine regionW (fun W => (Held _ W [(w6.heap.size, 0, .slice B3 xs1_Nodes.length d3), (w6.heap.size, 1, .slice B4 xs1_Leads.length d4), (w4.heap.size, 0, .slice B1 xs0_Nodes.length d1), (w4.heap.size, 1, .slice B2 xs0_Leads.length d2), (w.heap.size + 1, 0, .slice A3 xs1_Nodes.length c3), (w.heap.size + 1, 1, .slice A4 xs1_Leads.length c4), (w.heap.size, 0, .slice A xs0_Nodes.length c), (w.heap.size, 1, .slice A2 xs0_Leads.length c2)]) ∧ WinAt W (.agg #[.slice B3 xs1_Nodes.length d3, .slice B4 xs1_Leads.length d4]) xs1_Nodes xs1_Leads) (by kernel_rfl) ⟨H9.out.drew, (MH9_q2.out).step ((Below.refl _ _).drew)⟩ ?_
  refine takeW (i := 0) (v := ?_) (Stable.and (Stable.held _ _) (stable_win (.agg #[.slice B3 xs1_Nodes.length d3, .slice B4 xs1_Leads.length d4]) xs1_Nodes xs1_Leads)) rfl (by kernel_rfl) (by kernel_rfl) (by kernel_rfl) (fun _ _ _ h => h) ?_ ?_
  rotate_left
  · first | (refine Or.inl ⟨by rfl, fun W hS => detR_value (w' := W) ?_ (Below.refl _ _)⟩; obtain ⟨hH, q1⟩ := hS; obtain ⟨x0, x1, x2, x3, x4, x5, x6, x7, _⟩ := hH.1; go_simp; first | done | with_reducible rfl) | fail
  simp only [Act.put, List.setIfInBounds_toArray, List.set_cons_zero, List.set_cons_succ]
  refine takeW (i := 1) (v := ?_) (Stable.and (Stable.held _ _) (stable_win (.agg #[.slice B3 xs1_Nodes.length d3, .slice B4 xs1_Leads.length d4]) xs1_Nodes xs1_Leads)) rfl (by kernel_rfl) (by kernel_rfl) (by kernel_rfl) (fun _ _ _ h => h) ?_ ?_
  rotate_left
  · first | (refine Or.inl ⟨by rfl, fun W hS => detR_value (w' := W) ?_ (Below.refl _ _)⟩; obtain ⟨hH, q1⟩ := hS; obtain ⟨x0, x1, x2, x3, x4, x5, x6, x7, _⟩ := hH.1; go_simp; first | done | with_reducible rfl) | fail
  simp only [Act.put, List.setIfInBounds_toArray, List.set_cons_zero, List.set_cons_succ]
  refine freeW (i := 2) (fun v W => WinAt W v xs1_Nodes xs1_Leads) (Stable.and (Stable.held _ _) (stable_win (.agg #[.slice B3 xs1_Nodes.length d3, .slice B4 xs1_Leads.length d4]) xs1_Nodes xs1_Leads)) (fun v => stable_win v xs1_Nodes xs1_Leads) rfl (by kernel_rfl) (by rfl) (fun W hS => ?_) (fun v1 => ?_)
  · obtain ⟨hH, q1⟩ := hS; refine freeR_call (w' := W) (f := ?_) (args := ?_) ?_ ?_; rotate_left 2; (go_simp; (refine ⟨?_, ?_⟩ <;> with_reducible rfl)); refine (HT1.out _ _ (HP1.out.step hH.below)).mono ?_; rintro e wn ⟨v, rfl, hm, hb⟩; exact ⟨v, rfl, hm, hb⟩
  simp only [Act.put, List.setIfInBounds_toArray, List.set_cons_zero, List.set_cons_succ]
  refine takeW (i := 3) (v := ?_) (Stable.and (Stable.and (Stable.held _ _) (stable_win (.agg #[.slice B3 xs1_Nodes.length d3, .slice B4 xs1_Leads.length d4]) xs1_Nodes xs1_Leads)) (stable_win v1 xs1_Nodes xs1_Leads)) rfl (by kernel_rfl) (by kernel_rfl) (by kernel_rfl) (fun _ _ _ h => h) ?_ ?_
  rotate_left
  · first | (refine Or.inl ⟨by rfl, fun W hS => ?_⟩; obtain ⟨⟨hH, q1⟩, r1⟩ := hS; refine detR_call (w' := W) (f := ?_) (args := ?_) ?_ ?_; rotate_left 2; (go_simp; (refine ⟨?_, ?_⟩ <;> with_reducible rfl)); (first | (with_reducible refine (HE1.out _ _ _ q1 r1).mono ?_) | fail); (first | (rintro e wn ⟨rfl, hb⟩; refine ⟨?_, hb⟩; with_reducible rfl) | (rintro e wn ⟨rfl, rfl⟩; refine ⟨?_, Below.refl _ _⟩; with_reducible rfl) | fail)) | fail
  simp only [Act.put, List.setIfInBounds_toArray, List.set_cons_zero, List.set_cons_succ]
  refine takeW (i := 4) (v := ?_) (Stable.and (Stable.and (Stable.held _ _) (stable_win (.agg #[.slice B3 xs1_Nodes.length d3, .slice B4 xs1_Leads.length d4]) xs1_Nodes xs1_Leads)) (stable_win v1 xs1_Nodes xs1_Leads)) rfl (by kernel_rfl) (by kernel_rfl) (by kernel_rfl) (fun _ _ _ h => h) ?_ ?_
  rotate_left
  · first | (refine Or.inl ⟨by rfl, fun W hS => detR_value (w' := W) ?_ (Below.refl _ _)⟩; obtain ⟨⟨hH, q1⟩, r1⟩ := hS; obtain ⟨x0, x1, x2, x3, x4, x5, x6, x7, _⟩ := hH.1; go_simp; first | done | with_reducible rfl) | fail
  simp only [Act.put, List.setIfInBounds_toArray, List.set_cons_zero, List.set_cons_succ]
  refine doneW (by kernel_rfl) fun wH10 HG => ?_
  obtain ⟨⟨hH, q1⟩, r1⟩ := HG
  have H10 := Lib.hid hH; clear hH
  have MH10_q1 := Lib.hid q1; clear q1
  have MH10_1 := Lib.hid r1; clear r1
  try clear x0 x1 x2 x3 x4 x5 x6 x7
  obtain ⟨x0, x1, x2, x3, x4, x5, x6, x7, _⟩ := H10.out.1
  go_wp2_with fail
  go_ret
  exact ⟨rfl, H10.out.below⟩

set_option maxRecDepth 100000 in
theorem lifted (os : Os) (started : os.Started) (H : Type) (enc : TypeId × Value → H) :
    ReturnsInHanded {} Try.checked os 11 .any (Rows.fnExactSameWindowSpec.pre6 enc Try.prog Try.f11 Rows.fnExactSameWindowRow.domain false) (Rows.fnExactSameWindowSpec.post enc Try.prog Try.f11 false true false false) := by
  refine returnsInHanded_of_change (C := Try.checked) own started (by kernel_rfl) Try.func11
    (ChangeSpec.witness6 (enc := enc) (C := Try.checked) false ⟨#[], #[.agg #[.slice none 0 0, .slice none 0 0], .agg #[.slice none 0 0, .slice none 0 0]], []⟩ 8 (by kernel_rfl) (by kernel_rfl) (by kernel_rfl) (by kernel_rfl)) ?_
  intro W base args ds gs before hval0 hW hcnd _
  have hval : ∀ (j : Nat) t v, Try.f11.params[j]? = some t → args[j]? = some v → Value.okWide Try.prog W .any base t v := hval0
  have hW' := hW
  obtain ⟨p, q, hA0, hV, rfl, hfz, hnd⟩ := hW
  have hA : DataW.TrodAll enc Try.prog W 0 (fun _ => true) true Try.f11.params.toList args.toList ds p := hA0
  rw [Try.params11] at hA hval
  obtain ⟨v0, vs0, d0, ds0, p0, q0, hargs, rfl, rfl, h0, r0⟩ := trodAll_cons hA
  obtain ⟨v1, vs1, d1, ds1, p1, q1, rfl, rfl, rfl, h1, r1⟩ := trodAll_cons r0
  obtain ⟨rfl, rfl, rfl⟩ := trodAll_nil r1
  obtain rfl : args = #[v0, v1] := by cases args; simp_all
  obtain ⟨rfl, rfl⟩ := trodVars_none hV
  have k0 := h0
  have lt0 : ∀ x ∈ p0, x.block < W.heap.size := by obtain ⟨m, hm⟩ := k0; exact DataW.trod_lt m _ _ _ hm
  have k1 := h1
  have lt1 : ∀ x ∈ p1, x.block < W.heap.size := by obtain ⟨m, hm⟩ := k1; exact DataW.trod_lt m _ _ _ hm
  obtain ⟨c00, c01, y00, y01, m0, rfl, rfl, rfl, g00, g01⟩ := open_agg2 Try.underlying53 (by kernel_rfl) (by kernel_rfl) (hval 0 53 v0 rfl rfl) h0
  obtain ⟨a0_Nodes, xs0_Nodes, e0_Nodes, w0_Nodes⟩ := prs_open Try.underlying50 Try.underlying102 (by kernel_rfl) (by kernel_rfl) Try.underlying3 Try.underlying3 g00
  obtain rfl : c00 = a0_Nodes := by simpa using e0_Nodes
  obtain ⟨a0_Leads, xs0_Leads, e0_Leads, w0_Leads⟩ := prs_open Try.underlying51 Try.underlying104 (by kernel_rfl) (by kernel_rfl) Try.underlying3 Try.underlying3 g01
  obtain rfl : c01 = a0_Leads := by simpa using e0_Leads
  obtain ⟨c10, c11, y10, y11, m1, rfl, rfl, rfl, g10, g11⟩ := open_agg2 Try.underlying53 (by kernel_rfl) (by kernel_rfl) (hval 1 53 v1 rfl rfl) h1
  obtain ⟨a1_Nodes, xs1_Nodes, e1_Nodes, w1_Nodes⟩ := prs_open Try.underlying50 Try.underlying102 (by kernel_rfl) (by kernel_rfl) Try.underlying3 Try.underlying3 g10
  obtain rfl : c10 = a1_Nodes := by simpa using e1_Nodes
  obtain ⟨a1_Leads, xs1_Leads, e1_Leads, w1_Leads⟩ := prs_open Try.underlying51 Try.underlying104 (by kernel_rfl) (by kernel_rfl) Try.underlying3 Try.underlying3 g11
  obtain rfl : c11 = a1_Leads := by simpa using e1_Leads
  clear hA0 hval0
  refine (walk W _ xs0_Nodes w0_Nodes _ xs0_Leads w0_Leads _ xs1_Nodes w1_Nodes _ xs1_Leads w1_Leads).mono fun e W' ⟨he, bel⟩ => ?_
  subst he
  exact ⟨_, rfl, _, _, _, [], _, [], hW', trodAll_mk1 (shut_bool Try.underlying4 _), trodAll_cons_mk (Below.trod laidOut (by kernel_rfl) (of_decide_eq_true (by kernel_rfl)) k0 bel lt0) (trodAll_cons_mk (Below.trod laidOut (by kernel_rfl) (of_decide_eq_true (by kernel_rfl)) k1 bel lt1) (trodAll_mk0)), rfl, bel.frame _, fun h => by cases h⟩

theorem over : Rows.fnExactSameWindowRow.holds Try.pinned (OpenSpec.ofChange Rows.fnExactSameWindowSpec) :=
  OpenClaim.holds_of_wide 11 Try.f11 rfl rfl rfl rfl rfl rfl rfl ⟨rfl, rfl, rfl, rfl, rfl⟩ rfl rfl rfl rfl rfl (by kernel_rfl) Try.func11 (by kernel_rfl)
    (of_decide_eq_true (by kernel_rfl)) (by unfold Func.isWrapper; first | (rw [if_pos (by decide +kernel)]; kernel_rfl) | (rw [if_neg (by decide +kernel)]; exact ⟨rfl, rfl⟩))
    (fun os started H enc _ => lifted os started H enc)

/-- THE STATEMENT. -/
theorem proved : Rows.FnExactSameWindowSaid := over
#print axioms proved
end Go.Proofs.Ytghpbdgghliieab.fnExactSameWindow
