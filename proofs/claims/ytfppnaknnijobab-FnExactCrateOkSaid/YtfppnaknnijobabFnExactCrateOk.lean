/-
  The program's CrateOk returns, for every list of weights and every crate, what the model's CrateOk returns, and leaves both as they are: the law FnExactCrateOk answers true. No condition.
-/
import Derived.Test.YtfppnaknnijobabRows
import Derived.Test.YtfppnaknnijobabCrK
import Derived.Test.YtfppnaknnijobabCrO
import Derived.Test.YtfppnaknnijobabOpen
import Derived.WalkKit
import Derived.ProofKit
import Derived.OpenShut
import Derived.ShutString
import Derived.ChangeOld
import Derived.Below
import Derived.Carry
import Derived.Lib.SmallJoins
namespace Go.Proofs.Ytfppnaknnijobab.fnExactCrateOk
open Go.ChangeShapes Go.WideShapes Go.ChangeAt Go.RowKit Go.Joins
open Go.ChangeMaps (open_string shut_string)
set_option linter.unusedVariables false
set_option linter.unusedSimpArgs false

theorem own : ownKnob Try.prog.godebug = none := by kernel_rfl
theorem laidOut : laidOutB Try.prog = true := by kernel_rfl
set_option maxRecDepth 100000
def CrQ (u : Value) (vx : Value) (B : Nat) (ps : List Int) (l : Int) (xs : List Int) (w : World) : Prop := CrAt w u ps l ∧ Ints w B vx xs
theorem CrQ.step {u vx : Value} {B : Nat} {ps xs : List Int} {l : Int} {w w' : World} (h : CrQ u vx B ps l xs w) (hb : Below w.heap.size w w') : CrQ u vx B ps l xs w' := ⟨h.1.step hb, h.2.step hb⟩
theorem CrQ.cr {u vx : Value} {B : Nat} {ps xs : List Int} {l : Int} {w : World} (h : CrQ u vx B ps l xs w) : CrAt w u ps l := h.1
theorem stable_crq (u vx : Value) (B : Nat) (ps xs : List Int) (l : Int) : Stable fun W => CrQ u vx B ps l xs W := fun _ _ h hb => ⟨h.1.step hb, h.2.step hb⟩
theorem walk (w : World) (a0 : Value) (xs0 : List Int) (w0 : Seq w a0 xs0) (a1_Panes : Value) (xs1_Panes : List Int) (w1_Panes : Seq w a1_Panes xs1_Panes) (a1_Limit : Int) (w1_Limit : (Lit.int .i64 a1_Limit).wf = true) :
    Calls Try.prog 5 #[a0, .agg #[a1_Panes, .int .i64 a1_Limit]] w fun e w' => e = .returned (.bool true) ∧ Below w.heap.size w w' := by
  have hll := w0.len
  have HQ := Lib.hid w0
  have hpl := w1_Panes.len
  obtain ⟨A, c, rfl⟩ := seq_form2 w0
  obtain ⟨A2, c2, rfl⟩ := seq_form2 w1_Panes
  have HP := Lib.hid (show CrAt w (.agg #[.slice A2 xs1_Panes.length c2, .int .i64 a1_Limit]) xs1_Panes a1_Limit from ⟨A2, c2, rfl, w1_Panes⟩)
  clear w0 w1_Panes w1_Limit
  have H0 := Lib.hid ((Held.none_ w).new2 w.heap.size rfl [.slice A2 xs1_Panes.length c2, .int .i64 a1_Limit] 34)
  simp only [newFs, List.cons_append, List.nil_append, List.append_nil] at H0
  go_enter Try.func5, Try.ntmps5
  by_cases hbig : 1048576 < xs0.length
  · go_wp2_with fail
    go_ret
    exact ⟨rfl, H0.out.below⟩
  have hlen1 : xs0.length ≤ 1048576 := by omega
  have HZ := Lib.hid (fun v w h => szCrate_any xs1_Panes a1_Limit v w h)
  obtain ⟨x0, x1, _⟩ := H0.out.1
  go_wp2_with fail
  refine (HZ.out _ _ (HP.out.step H0.out.below)).mono ?_
  rintro e w1 ⟨q, rfl, hq, hb⟩
  have H1 := Lib.hid (H0.out.step hb); clear hb x0 x1
  obtain ⟨x0, x1, _⟩ := H1.out.1
  rcases hq with hq | ⟨hq, hq1⟩
  · go_wp2_with fail
    go_ret
    exact ⟨rfl, H1.out.below⟩
  clear HZ
  have HS := Lib.hid (fun v u w (hv : Seq w v xs0) (hu : CrAt w u xs1_Panes a1_Limit) => (show Calls Try.prog 28 #[v, u] w (BoolIs (crOkB xs0 xs1_Panes a1_Limit) w) by
    obtain ⟨A1, c1, rfl, k⟩ := hu; exact specCrOk _ _ _ _ _ w hv k hq1))
  have HI := Lib.hid (fun v u w (hv : Seq w v xs0) (hu : CrAt w u xs1_Panes a1_Limit) => (show Calls Try.prog 29 #[v, u] w (BoolIs (crOkB xs0 xs1_Panes a1_Limit) w) by
    obtain ⟨A1, c1, rfl, k⟩ := hu; exact implCrOk _ _ _ _ _ w hv k hq1))
  generalize crOkB xs0 xs1_Panes a1_Limit = r at *
  have HT := Lib.hid (fun v w hv => toCrate_at xs1_Panes a1_Limit v w hv hq1)
  have HT2 := Lib.hid (fun w h => toIntS_any xs0 (.slice A xs0.length c) w h hlen1)
  unfold IntsNew at HT2
  have HEQ := Lib.hid (fun v u w hv hu => eqCrate_at xs1_Panes a1_Limit v u w hv hu)
  have HEQ2 := Lib.hid (fun v u w hv hu => eqIntS_seq (w := w) (v1 := v) (v2 := u) (fs := xs0) hv hu)
  have HT3 := Lib.hid (fun w h => (HT2.out w h).mono fun e w' ⟨v, he, hi, hb⟩ => (⟨v, he, hi.seq, hb⟩ : ∃ v, e = Ending.returned v ∧ Seq w' v xs0 ∧ Below w.heap.size w w'))
  go_wp2_with fail
  refine regionW (fun W => Held _ W [(w.heap.size, 0, .slice A2 xs1_Panes.length c2), (w.heap.size, 1, .int .i64 (a1_Limit))]) (by kernel_rfl) H1.out.drew ?_
  refine takeW (i := 0) (v := ?_) (Stable.held _ _) rfl (by kernel_rfl) (by kernel_rfl) (by kernel_rfl) (fun _ _ _ h => h) ?_ ?_
  rotate_left
  · first | (refine Or.inl ⟨by rfl, fun W hS => detR_value (w' := W) ?_ (Below.refl _ _)⟩; have hH := hS; obtain ⟨x0, x1, _⟩ := hH.1; go_simp; first | done | with_reducible rfl) | fail
  simp only [Act.put, List.setIfInBounds_toArray, List.set_cons_zero, List.set_cons_succ]
  refine takeW (i := 2) (v := ?_) (Stable.held _ _) rfl (by kernel_rfl) (by kernel_rfl) (by kernel_rfl) (fun _ _ _ h => h) ?_ ?_
  rotate_left
  · first | (refine Or.inl ⟨by rfl, fun W hS => detR_value (w' := W) ?_ (Below.refl _ _)⟩; have hH := hS; obtain ⟨x0, x1, _⟩ := hH.1; go_simp; first | done | with_reducible rfl) | fail
  simp only [Act.put, List.setIfInBounds_toArray, List.set_cons_zero, List.set_cons_succ]
  refine freeW (i := 1) (fun v W => Seq W v xs0) (Stable.held _ _) (fun v => stable_seq v xs0) rfl (by kernel_rfl) (by rfl) (fun W hS => ?_) (fun v1 => ?_)
  · have hH := hS; refine freeR_call (w' := W) (f := ?_) (args := ?_) ?_ ?_; rotate_left 2; (go_simp; (refine ⟨?_, ?_⟩ <;> with_reducible rfl)); refine (HT3.out _ (HQ.out.step hH.below)).mono ?_; rintro e wn ⟨v, rfl, hm, hb⟩; exact ⟨v, rfl, hm, hb⟩
  simp only [Act.put, List.setIfInBounds_toArray, List.set_cons_zero, List.set_cons_succ]
  refine freeW (i := 3) (fun v W => CrAt W v xs1_Panes a1_Limit) (Stable.and (Stable.held _ _) (stable_seq v1 xs0)) (fun v => stable_cr v xs1_Panes a1_Limit) rfl (by kernel_rfl) (by rfl) (fun W hS => ?_) (fun v2 => ?_)
  · obtain ⟨hH, r1⟩ := hS; refine freeR_call (w' := W) (f := ?_) (args := ?_) ?_ ?_; rotate_left 2; (go_simp; (refine ⟨?_, ?_⟩ <;> with_reducible rfl)); refine (HT.out _ _ (HP.out.step hH.below)).mono ?_; rintro e wn ⟨v, rfl, hm, hb⟩; exact ⟨v, rfl, hm, hb⟩
  simp only [Act.put, List.setIfInBounds_toArray, List.set_cons_zero, List.set_cons_succ]
  refine takeW (i := 4) (v := ?_) (Stable.and (Stable.and (Stable.held _ _) (stable_seq v1 xs0)) (stable_cr v2 xs1_Panes a1_Limit)) rfl (by kernel_rfl) (by kernel_rfl) (by kernel_rfl) (fun _ _ _ h => h) ?_ ?_
  rotate_left
  · first | (refine Or.inl ⟨by rfl, fun W hS => ?_⟩; obtain ⟨⟨hH, r1⟩, r2⟩ := hS; refine detR_call (w' := W) (f := ?_) (args := ?_) ?_ ?_; rotate_left 2; (go_simp; (refine ⟨?_, ?_⟩ <;> with_reducible rfl)); (first | (with_reducible refine (HS.out _ _ _ r1 r2).mono ?_) | fail); (first | (rintro e wn ⟨rfl, hb⟩; refine ⟨?_, hb⟩; with_reducible rfl) | (rintro e wn ⟨rfl, rfl⟩; refine ⟨?_, Below.refl _ _⟩; with_reducible rfl) | fail)) | fail
  simp only [Act.put, List.setIfInBounds_toArray, List.set_cons_zero, List.set_cons_succ]
  refine takeW (i := 5) (v := ?_) (Stable.and (Stable.and (Stable.held _ _) (stable_seq v1 xs0)) (stable_cr v2 xs1_Panes a1_Limit)) rfl (by kernel_rfl) (by kernel_rfl) (by kernel_rfl) (fun _ _ _ h => h) ?_ ?_
  rotate_left
  · first | (refine Or.inl ⟨by rfl, fun W hS => detR_value (w' := W) ?_ (Below.refl _ _)⟩; obtain ⟨⟨hH, r1⟩, r2⟩ := hS; obtain ⟨x0, x1, _⟩ := hH.1; go_simp; first | done | with_reducible rfl) | fail
  simp only [Act.put, List.setIfInBounds_toArray, List.set_cons_zero, List.set_cons_succ]
  refine doneW (by kernel_rfl) fun wH4 HG => ?_
  obtain ⟨⟨hH, r1⟩, r2⟩ := HG
  have H4 := Lib.hid hH; clear hH
  have MH4_1 := Lib.hid r1; clear r1
  have MH4_2 := Lib.hid r2; clear r2
  try clear x0 x1
  obtain ⟨x0, x1, _⟩ := H4.out.1
  go_wp2_with fail
  refine (HT2.out _ (HQ.out.step H4.out.below)).mono ?_
  rintro e w5 ⟨v5, rfl, hm, hb⟩
  have H5 := Lib.hid (H4.out.step hb)
  have Q5 := Lib.hid (hm.mono (b' := 0) (Nat.zero_le _)); clear hm hb x0 x1
  obtain ⟨x0, x1, _⟩ := H5.out.1
  go_wp2_with fail
  refine (HT.out _ _ (HP.out.step H5.out.below)).mono ?_
  rintro e w6 ⟨v6, rfl, hm, hb⟩
  have H6 := Lib.hid (H5.out.step hb)
  have Q6 := Lib.hid (Q5.out.step hb)
  obtain ⟨B1, d1, rfl, k1⟩ := hm
  have M6 := Lib.hid (show CrAt _ (.agg #[.slice B1 xs1_Panes.length d1, .int .i64 a1_Limit]) xs1_Panes a1_Limit from ⟨B1, d1, rfl, k1⟩); clear k1 hb x0 x1
  obtain ⟨x0, x1, _⟩ := H6.out.1
  obtain ⟨y0, _, _⟩ := H6.out.2.1
  go_wp2_with fail
  have H7 := Lib.hid (H6.out.new2 w6.heap.size rfl [.slice B1 xs1_Panes.length d1, .int .i64 a1_Limit] 38)
  simp only [newFs, List.cons_append, List.nil_append, List.append_nil] at H7
  have R7 := Lib.hid (show CrQ (.agg #[.slice B1 xs1_Panes.length d1, .int .i64 a1_Limit]) v5 0 xs1_Panes a1_Limit xs0 _ from ⟨M6.out.step ((Below.refl _ _).alloc (Nat.le_refl _) (.cells #[.slice B1 xs1_Panes.length d1, .int .i64 a1_Limit] 38)), Q6.out.step ((Below.refl _ _).alloc (Nat.le_refl _) (.cells #[.slice B1 xs1_Panes.length d1, .int .i64 a1_Limit] 38))⟩)
  clear x0 x1 y0
  obtain ⟨x0, x1, x2, x3, _⟩ := H7.out.1
  go_wp2_with fail
  refine (HI.out _ _ _ R7.out.2.seq R7.out.1).mono ?_
  rintro e w8 ⟨rfl, hb⟩
  have H8 := Lib.hid (H7.out.step hb)
  have R8 := Lib.hid (R7.out.step hb)
  clear hb x0 x1 x2 x3
  obtain ⟨x0, x1, x2, x3, _⟩ := H8.out.1
  cases r
  · go_wp2_with fail
    refine (HT2.out _ (HQ.out.step H8.out.below)).mono ?_
    rintro e w9 ⟨v9, rfl, hm, hb⟩
    have H9 := Lib.hid (H8.out.step hb)
    have R9 := Lib.hid (R8.out.step hb)
    have Q9 := Lib.hid hm; clear hm hb x0 x1 x2 x3
    go_wp2_with fail
    refine (HEQ2.out _ _ _ R9.out.2.seq Q9.out.seq).mono ?_
    rintro e w10 ⟨rfl, n10, rfl⟩
    have H10 := Lib.hid (H9.out.drewN n10)
    have R10 := Lib.hid (R9.out.step (below_drewN (Below.refl _ _) n10))
    obtain ⟨x0, x1, x2, x3, _⟩ := H10.out.1
    go_wp2_with fail
    refine regionW (fun W => (Held _ W [(w6.heap.size, 0, .slice B1 xs1_Panes.length d1), (w6.heap.size, 1, .int .i64 (a1_Limit)), (w.heap.size, 0, .slice A2 xs1_Panes.length c2), (w.heap.size, 1, .int .i64 (a1_Limit))]) ∧ CrQ (.agg #[.slice B1 xs1_Panes.length d1, .int .i64 a1_Limit]) v5 0 xs1_Panes a1_Limit xs0 W) (by kernel_rfl) ⟨H10.out.drew, (R10.out).step ((Below.refl _ _).drew)⟩ ?_
    refine takeW (i := 0) (v := ?_) (Stable.and (Stable.held _ _) (stable_crq (.agg #[.slice B1 xs1_Panes.length d1, .int .i64 a1_Limit]) v5 0 xs1_Panes xs0 a1_Limit)) rfl (by kernel_rfl) (by kernel_rfl) (by kernel_rfl) (fun _ _ _ h => h) ?_ ?_
    rotate_left
    · first | (refine Or.inl ⟨by rfl, fun W hS => detR_value (w' := W) ?_ (Below.refl _ _)⟩; obtain ⟨hH, q1⟩ := hS; obtain ⟨x0, x1, x2, x3, _⟩ := hH.1; go_simp; first | done | with_reducible rfl) | fail
    simp only [Act.put, List.setIfInBounds_toArray, List.set_cons_zero, List.set_cons_succ]
    refine takeW (i := 1) (v := ?_) (Stable.and (Stable.held _ _) (stable_crq (.agg #[.slice B1 xs1_Panes.length d1, .int .i64 a1_Limit]) v5 0 xs1_Panes xs0 a1_Limit)) rfl (by kernel_rfl) (by kernel_rfl) (by kernel_rfl) (fun _ _ _ h => h) ?_ ?_
    rotate_left
    · first | (refine Or.inl ⟨by rfl, fun W hS => detR_value (w' := W) ?_ (Below.refl _ _)⟩; obtain ⟨hH, q1⟩ := hS; obtain ⟨x0, x1, x2, x3, _⟩ := hH.1; go_simp; first | done | with_reducible rfl) | fail
    simp only [Act.put, List.setIfInBounds_toArray, List.set_cons_zero, List.set_cons_succ]
    refine freeW (i := 2) (fun v W => CrAt W v xs1_Panes a1_Limit) (Stable.and (Stable.held _ _) (stable_crq (.agg #[.slice B1 xs1_Panes.length d1, .int .i64 a1_Limit]) v5 0 xs1_Panes xs0 a1_Limit)) (fun v => stable_cr v xs1_Panes a1_Limit) rfl (by kernel_rfl) (by rfl) (fun W hS => ?_) (fun v1 => ?_)
    · obtain ⟨hH, q1⟩ := hS; refine freeR_call (w' := W) (f := ?_) (args := ?_) ?_ ?_; rotate_left 2; (go_simp; (refine ⟨?_, ?_⟩ <;> with_reducible rfl)); refine (HT.out _ _ (HP.out.step hH.below)).mono ?_; rintro e wn ⟨v, rfl, hm, hb⟩; exact ⟨v, rfl, hm, hb⟩
    simp only [Act.put, List.setIfInBounds_toArray, List.set_cons_zero, List.set_cons_succ]
    refine takeW (i := 3) (v := ?_) (Stable.and (Stable.and (Stable.held _ _) (stable_crq (.agg #[.slice B1 xs1_Panes.length d1, .int .i64 a1_Limit]) v5 0 xs1_Panes xs0 a1_Limit)) (stable_cr v1 xs1_Panes a1_Limit)) rfl (by kernel_rfl) (by kernel_rfl) (by kernel_rfl) (fun _ _ _ h => h) ?_ ?_
    rotate_left
    · first | (refine Or.inl ⟨by rfl, fun W hS => ?_⟩; obtain ⟨⟨hH, q1⟩, r1⟩ := hS; refine detR_call (w' := W) (f := ?_) (args := ?_) ?_ ?_; rotate_left 2; (go_simp; (refine ⟨?_, ?_⟩ <;> with_reducible rfl)); (first | (with_reducible refine (HEQ.out _ _ _ (CrQ.cr q1) r1).mono ?_) | fail); (first | (rintro e wn ⟨rfl, hb⟩; refine ⟨?_, hb⟩; with_reducible rfl) | (rintro e wn ⟨rfl, rfl⟩; refine ⟨?_, Below.refl _ _⟩; with_reducible rfl) | fail)) | fail
    simp only [Act.put, List.setIfInBounds_toArray, List.set_cons_zero, List.set_cons_succ]
    refine takeW (i := 4) (v := ?_) (Stable.and (Stable.and (Stable.held _ _) (stable_crq (.agg #[.slice B1 xs1_Panes.length d1, .int .i64 a1_Limit]) v5 0 xs1_Panes xs0 a1_Limit)) (stable_cr v1 xs1_Panes a1_Limit)) rfl (by kernel_rfl) (by kernel_rfl) (by kernel_rfl) (fun _ _ _ h => h) ?_ ?_
    rotate_left
    · first | (refine Or.inl ⟨by rfl, fun W hS => detR_value (w' := W) ?_ (Below.refl _ _)⟩; obtain ⟨⟨hH, q1⟩, r1⟩ := hS; obtain ⟨x0, x1, x2, x3, _⟩ := hH.1; go_simp; first | done | with_reducible rfl) | fail
    simp only [Act.put, List.setIfInBounds_toArray, List.set_cons_zero, List.set_cons_succ]
    refine doneW (by kernel_rfl) fun wH11 HG => ?_
    obtain ⟨⟨hH, q1⟩, r1⟩ := HG
    have H11 := Lib.hid hH; clear hH
    have MH11_q1 := Lib.hid q1; clear q1
    have MH11_1 := Lib.hid r1; clear r1
    try clear x0 x1 x2 x3
    obtain ⟨x0, x1, x2, x3, _⟩ := H11.out.1
    go_wp2_with fail
    go_ret
    exact ⟨rfl, H11.out.below⟩
  · go_wp2_with fail
    refine (HT2.out _ (HQ.out.step H8.out.below)).mono ?_
    rintro e w9 ⟨v9, rfl, hm, hb⟩
    have H9 := Lib.hid (H8.out.step hb)
    have R9 := Lib.hid (R8.out.step hb)
    have Q9 := Lib.hid hm; clear hm hb x0 x1 x2 x3
    go_wp2_with fail
    refine (HEQ2.out _ _ _ R9.out.2.seq Q9.out.seq).mono ?_
    rintro e w10 ⟨rfl, n10, rfl⟩
    have H10 := Lib.hid (H9.out.drewN n10)
    have R10 := Lib.hid (R9.out.step (below_drewN (Below.refl _ _) n10))
    obtain ⟨x0, x1, x2, x3, _⟩ := H10.out.1
    go_wp2_with fail
    refine regionW (fun W => (Held _ W [(w6.heap.size, 0, .slice B1 xs1_Panes.length d1), (w6.heap.size, 1, .int .i64 (a1_Limit)), (w.heap.size, 0, .slice A2 xs1_Panes.length c2), (w.heap.size, 1, .int .i64 (a1_Limit))]) ∧ CrQ (.agg #[.slice B1 xs1_Panes.length d1, .int .i64 a1_Limit]) v5 0 xs1_Panes a1_Limit xs0 W) (by kernel_rfl) ⟨H10.out.drew, (R10.out).step ((Below.refl _ _).drew)⟩ ?_
    refine takeW (i := 0) (v := ?_) (Stable.and (Stable.held _ _) (stable_crq (.agg #[.slice B1 xs1_Panes.length d1, .int .i64 a1_Limit]) v5 0 xs1_Panes xs0 a1_Limit)) rfl (by kernel_rfl) (by kernel_rfl) (by kernel_rfl) (fun _ _ _ h => h) ?_ ?_
    rotate_left
    · first | (refine Or.inl ⟨by rfl, fun W hS => detR_value (w' := W) ?_ (Below.refl _ _)⟩; obtain ⟨hH, q1⟩ := hS; obtain ⟨x0, x1, x2, x3, _⟩ := hH.1; go_simp; first | done | with_reducible rfl) | fail
    simp only [Act.put, List.setIfInBounds_toArray, List.set_cons_zero, List.set_cons_succ]
    refine takeW (i := 1) (v := ?_) (Stable.and (Stable.held _ _) (stable_crq (.agg #[.slice B1 xs1_Panes.length d1, .int .i64 a1_Limit]) v5 0 xs1_Panes xs0 a1_Limit)) rfl (by kernel_rfl) (by kernel_rfl) (by kernel_rfl) (fun _ _ _ h => h) ?_ ?_
    rotate_left
    · first | (refine Or.inl ⟨by rfl, fun W hS => detR_value (w' := W) ?_ (Below.refl _ _)⟩; obtain ⟨hH, q1⟩ := hS; obtain ⟨x0, x1, x2, x3, _⟩ := hH.1; go_simp; first | done | with_reducible rfl) | fail
    simp only [Act.put, List.setIfInBounds_toArray, List.set_cons_zero, List.set_cons_succ]
    refine freeW (i := 2) (fun v W => CrAt W v xs1_Panes a1_Limit) (Stable.and (Stable.held _ _) (stable_crq (.agg #[.slice B1 xs1_Panes.length d1, .int .i64 a1_Limit]) v5 0 xs1_Panes xs0 a1_Limit)) (fun v => stable_cr v xs1_Panes a1_Limit) rfl (by kernel_rfl) (by rfl) (fun W hS => ?_) (fun v1 => ?_)
    · obtain ⟨hH, q1⟩ := hS; refine freeR_call (w' := W) (f := ?_) (args := ?_) ?_ ?_; rotate_left 2; (go_simp; (refine ⟨?_, ?_⟩ <;> with_reducible rfl)); refine (HT.out _ _ (HP.out.step hH.below)).mono ?_; rintro e wn ⟨v, rfl, hm, hb⟩; exact ⟨v, rfl, hm, hb⟩
    simp only [Act.put, List.setIfInBounds_toArray, List.set_cons_zero, List.set_cons_succ]
    refine takeW (i := 3) (v := ?_) (Stable.and (Stable.and (Stable.held _ _) (stable_crq (.agg #[.slice B1 xs1_Panes.length d1, .int .i64 a1_Limit]) v5 0 xs1_Panes xs0 a1_Limit)) (stable_cr v1 xs1_Panes a1_Limit)) rfl (by kernel_rfl) (by kernel_rfl) (by kernel_rfl) (fun _ _ _ h => h) ?_ ?_
    rotate_left
    · first | (refine Or.inl ⟨by rfl, fun W hS => ?_⟩; obtain ⟨⟨hH, q1⟩, r1⟩ := hS; refine detR_call (w' := W) (f := ?_) (args := ?_) ?_ ?_; rotate_left 2; (go_simp; (refine ⟨?_, ?_⟩ <;> with_reducible rfl)); (first | (with_reducible refine (HEQ.out _ _ _ (CrQ.cr q1) r1).mono ?_) | fail); (first | (rintro e wn ⟨rfl, hb⟩; refine ⟨?_, hb⟩; with_reducible rfl) | (rintro e wn ⟨rfl, rfl⟩; refine ⟨?_, Below.refl _ _⟩; with_reducible rfl) | fail)) | fail
    simp only [Act.put, List.setIfInBounds_toArray, List.set_cons_zero, List.set_cons_succ]
    refine takeW (i := 4) (v := ?_) (Stable.and (Stable.and (Stable.held _ _) (stable_crq (.agg #[.slice B1 xs1_Panes.length d1, .int .i64 a1_Limit]) v5 0 xs1_Panes xs0 a1_Limit)) (stable_cr v1 xs1_Panes a1_Limit)) rfl (by kernel_rfl) (by kernel_rfl) (by kernel_rfl) (fun _ _ _ h => h) ?_ ?_
    rotate_left
    · first | (refine Or.inl ⟨by rfl, fun W hS => detR_value (w' := W) ?_ (Below.refl _ _)⟩; obtain ⟨⟨hH, q1⟩, r1⟩ := hS; obtain ⟨x0, x1, x2, x3, _⟩ := hH.1; go_simp; first | done | with_reducible rfl) | fail
    simp only [Act.put, List.setIfInBounds_toArray, List.set_cons_zero, List.set_cons_succ]
    refine doneW (by kernel_rfl) fun wH11 HG => ?_
    obtain ⟨⟨hH, q1⟩, r1⟩ := HG
    have H11 := Lib.hid hH; clear hH
    have MH11_q1 := Lib.hid q1; clear q1
    have MH11_1 := Lib.hid r1; clear r1
    try clear x0 x1 x2 x3
    obtain ⟨x0, x1, x2, x3, _⟩ := H11.out.1
    go_wp2_with fail
    go_ret
    exact ⟨rfl, H11.out.below⟩

set_option maxRecDepth 100000 in
theorem lifted (os : Os) (started : os.Started) (H : Type) (enc : TypeId × Value → H) :
    ReturnsInHanded {} Try.checked os 5 .any (Rows.fnExactCrateOkSpec.pre6 enc Try.prog Try.f5 Rows.fnExactCrateOkRow.domain false) (Rows.fnExactCrateOkSpec.post enc Try.prog Try.f5 false true false false) := by
  refine returnsInHanded_of_change (C := Try.checked) own started (by kernel_rfl) Try.func5
    (ChangeSpec.witness6 (enc := enc) (C := Try.checked) false ⟨#[], #[.slice none 0 0, .agg #[.slice none 0 0, .int .i64 0]], []⟩ 8 (by kernel_rfl) (by kernel_rfl) (by kernel_rfl) (by kernel_rfl)) ?_
  intro W base args ds gs before hval0 hW hcnd _
  have hval : ∀ (j : Nat) t v, Try.f5.params[j]? = some t → args[j]? = some v → Value.okWide Try.prog W .any base t v := hval0
  have hW' := hW
  obtain ⟨p, q, hA0, hV, rfl, hfz, hnd⟩ := hW
  have hA : DataW.TrodAll enc Try.prog W 0 (fun _ => true) true Try.f5.params.toList args.toList ds p := hA0
  rw [Try.params5] at hA hval
  obtain ⟨v0, vs0, d0, ds0, p0, q0, hargs, rfl, rfl, h0, r0⟩ := trodAll_cons hA
  obtain ⟨v1, vs1, d1, ds1, p1, q1, rfl, rfl, rfl, h1, r1⟩ := trodAll_cons r0
  obtain ⟨rfl, rfl, rfl⟩ := trodAll_nil r1
  obtain rfl : args = #[v0, v1] := by cases args; simp_all
  obtain ⟨rfl, rfl⟩ := trodVars_none hV
  have k0 := h0
  have lt0 : ∀ x ∈ p0, x.block < W.heap.size := by obtain ⟨m, hm⟩ := k0; exact DataW.trod_lt m _ _ _ hm
  have k1 := h1
  have lt1 : ∀ x ∈ p1, x.block < W.heap.size := by obtain ⟨m, hm⟩ := k1; exact DataW.trod_lt m _ _ _ hm
  obtain ⟨A0, len0, cap0, rfl⟩ := Go.WideShapes.okWide_slice Try.underlying32 (hval 0 32 v0 rfl rfl)
  obtain ⟨fuel0, hf0⟩ := h0
  obtain ⟨a0, xs0, e0, w0⟩ := seq_open Try.underlying32 Try.underlying3 (by kernel_rfl) hf0
  simp [Value.cells] at e0
  subst e0
  obtain ⟨c10, c11, y10, y11, m1, rfl, rfl, rfl, g10, g11⟩ := open_agg2 Try.underlying34 (by kernel_rfl) (by kernel_rfl) (hval 1 34 v1 rfl rfl) h1
  obtain ⟨a1_Panes, xs1_Panes, e1_Panes, w1_Panes⟩ := seq_open Try.underlying32 Try.underlying3 (by kernel_rfl) g10
  obtain rfl : c10 = a1_Panes := by simpa using e1_Panes
  obtain ⟨a1_Limit, e11, rfl, w1_Limit⟩ := DataW.trod_int Try.underlying3 g11
  obtain rfl : c11 = .int .i64 a1_Limit := by simpa using e11
  clear hA0 hval0
  refine (walk W _ xs0 w0 _ xs1_Panes w1_Panes a1_Limit w1_Limit).mono fun e W' ⟨he, bel⟩ => ?_
  subst he
  exact ⟨_, rfl, _, _, _, [], _, [], hW', trodAll_mk1 (shut_bool Try.underlying4 _), trodAll_cons_mk (Below.trod laidOut (by kernel_rfl) (of_decide_eq_true (by kernel_rfl)) k0 bel lt0) (trodAll_cons_mk (Below.trod laidOut (by kernel_rfl) (of_decide_eq_true (by kernel_rfl)) k1 bel lt1) (trodAll_mk0)), rfl, bel.frame _, fun h => by cases h⟩

theorem over : Rows.fnExactCrateOkRow.holds Try.pinned (OpenSpec.ofChange Rows.fnExactCrateOkSpec) :=
  OpenClaim.holds_of_wide 5 Try.f5 rfl rfl rfl rfl rfl rfl rfl ⟨rfl, rfl, rfl, rfl, rfl⟩ rfl rfl rfl rfl rfl (by kernel_rfl) Try.func5 (by kernel_rfl)
    (of_decide_eq_true (by kernel_rfl)) (by unfold Func.isWrapper; first | (rw [if_pos (by decide +kernel)]; kernel_rfl) | (rw [if_neg (by decide +kernel)]; exact ⟨rfl, rfl⟩))
    (fun os started H enc _ => lifted os started H enc)

/-- THE STATEMENT. -/
theorem proved : Rows.FnExactCrateOkSaid := over
#print axioms proved
end Go.Proofs.Ytfppnaknnijobab.fnExactCrateOk
