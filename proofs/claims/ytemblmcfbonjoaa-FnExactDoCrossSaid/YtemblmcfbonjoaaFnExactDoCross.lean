/-
  The program's DoCross returns, for every list of nodes and every two leads, what the model's DoCross returns, and leaves the list as it is: the law FnExactDoCross answers true. No condition.
-/
import Derived.Test.YtemblmcfbonjoaaRows
import Derived.Test.YtemblmcfbonjoaaLawN
import Derived.Test.YtemblmcfbonjoaaDetW
import Derived.Test.YtemblmcfbonjoaaImplLead
import Derived.Test.YtemblmcfbonjoaaLeadX
import Derived.Test.YtemblmcfbonjoaaOpen
import Derived.WalkKit
import Derived.ProofKit
import Derived.OpenShut
import Derived.ShutString
import Derived.ChangeOld
import Derived.Below
import Derived.Carry
import Derived.Lib.SmallJoins
namespace Go.Proofs.Ytemblmcfbonjoaa.fnExactDoCross
open Go.ChangeShapes Go.WideShapes Go.ChangeAt Go.RowKit Go.Joins
open Go.ChangeMaps (open_string shut_string)
set_option linter.unusedVariables false
set_option linter.unusedSimpArgs false

theorem own : ownKnob Try.prog.godebug = none := by kernel_rfl
theorem laidOut : laidOutB Try.prog = true := by kernel_rfl
set_option maxRecDepth 100000
theorem stable_prs (v : Value) (xs : List Nd) : Stable fun W => Prs W v xs := fun _ _ h hb => h.step hb
theorem walk (w : World) (a0 : Value) (xs0 : List Nd) (w0 : Prs w a0 xs0) (a1_From : Int) (w1_From : (Lit.int .i64 a1_From).wf = true) (a1_To : Int) (w1_To : (Lit.int .i64 a1_To).wf = true) (a2_From : Int) (w2_From : (Lit.int .i64 a2_From).wf = true) (a2_To : Int) (w2_To : (Lit.int .i64 a2_To).wf = true) :
    Calls Try.prog 13 #[a0, .agg #[.int .i64 a1_From, .int .i64 a1_To], .agg #[.int .i64 a2_From, .int .i64 a2_To]] w fun e w' => e = .returned (.bool true) ∧ Below w.heap.size w w' := by
  have hlen := w0.len
  have HP0 := Lib.hid w0
  have HZ := Lib.hid (fun A c w => szNodeS_any xs0.length c A 1048576 w (by omega) (by omega) hlen)
  have H0 := Lib.hid (held2 w ⟨a1_From, a1_To⟩ ⟨a2_From, a2_To⟩ 63 63)
  obtain ⟨A, c, rfl⟩ := prs_form w0
  clear w0 w1_From w1_To
  have HT3 := Lib.hid (toLead_any ⟨a2_From, a2_To⟩)
  have HTL := Lib.hid (toLead_any ⟨a1_From, a1_To⟩)
  have HL := Lib.hid (fun v w hv => specCross xs0 v ⟨a1_From, a1_To⟩ ⟨a2_From, a2_To⟩ w hv)
  have HI := Lib.hid (fun v w hv => implCross xs0 v ⟨a1_From, a1_To⟩ ⟨a2_From, a2_To⟩ w hv)
  generalize crossB xs0 ⟨a1_From, a1_To⟩ ⟨a2_From, a2_To⟩ = r at *
  unfold NodeIs Nd.val at HTL HT3
  unfold Nd.val at HL HI
  simp only at H0 HTL HT3 HL HI
  by_cases hbig : (1048576 : Int) < xs0.length
  · rw [if_pos hbig] at HZ
    go_enter Try.func13, Try.ntmps13
    go_wp2_with fail
    refine (HZ.out _ _ _).mono ?_
    rintro e w1 ⟨rfl, rfl⟩
    go_wp2_with fail
    go_ret
    exact ⟨rfl, H0.out.below⟩
  rw [if_neg hbig] at HZ
  have HTS := Lib.hid (fun v w hv => toNodeS_any xs0 v w hv (by omega))
  unfold MineIs at HTS
  have HTP := Lib.hid (fun v w hv => (HTS.out v w hv).mono fun (e : Ending) w' ⟨v', h1, h2, h3⟩ => (⟨v', h1, h2.prs, h3⟩ : ∃ v', e = Ending.returned v' ∧ Prs w' v' xs0 ∧ Below w.heap.size w w'))
  have HEQ := Lib.hid (fun v1 v2 w h1 h2 => eqNodeS_yes xs0 v1 v2 w h1 h2)
  clear HTS
  go_enter Try.func13, Try.ntmps13
  go_wp2_with fail
  refine (HZ.out _ _ _).mono ?_
  rintro e w1 ⟨rfl, rfl⟩
  go_wp2_with fail
  refine regionW (fun W => Held _ W [(w.heap.size, 0, .int .i64 (a1_From)), (w.heap.size, 1, .int .i64 (a1_To)), (w.heap.size + 1, 0, .int .i64 (a2_From)), (w.heap.size + 1, 1, .int .i64 (a2_To))]) (by kernel_rfl) H0.out.drew ?_
  refine takeW (i := 0) (v := ?_) (Stable.held _ _) rfl (by kernel_rfl) (by kernel_rfl) (by kernel_rfl) (fun _ _ _ h => h) ?_ ?_
  rotate_left
  · first | (refine Or.inl ⟨by rfl, fun W hS => detR_value (w' := W) ?_ (Below.refl _ _)⟩; have hH := hS; obtain ⟨x0, x1, x2, x3, _⟩ := hH.1; go_simp; first | done | with_reducible rfl) | fail
  simp only [Act.put, List.setIfInBounds_toArray, List.set_cons_zero, List.set_cons_succ]
  refine takeW (i := 2) (v := ?_) (Stable.held _ _) rfl (by kernel_rfl) (by kernel_rfl) (by kernel_rfl) (fun _ _ _ h => h) ?_ ?_
  rotate_left
  · first | (refine Or.inl ⟨by rfl, fun W hS => detR_value (w' := W) ?_ (Below.refl _ _)⟩; have hH := hS; obtain ⟨x0, x1, x2, x3, _⟩ := hH.1; go_simp; first | done | with_reducible rfl) | fail
  simp only [Act.put, List.setIfInBounds_toArray, List.set_cons_zero, List.set_cons_succ]
  refine takeW (i := 4) (v := ?_) (Stable.held _ _) rfl (by kernel_rfl) (by kernel_rfl) (by kernel_rfl) (fun _ _ _ h => h) ?_ ?_
  rotate_left
  · first | (refine Or.inl ⟨by rfl, fun W hS => detR_value (w' := W) ?_ (Below.refl _ _)⟩; have hH := hS; obtain ⟨x0, x1, x2, x3, _⟩ := hH.1; go_simp; first | done | with_reducible rfl) | fail
  simp only [Act.put, List.setIfInBounds_toArray, List.set_cons_zero, List.set_cons_succ]
  refine freeW (i := 1) (fun v W => Prs W v xs0) (Stable.held _ _) (fun v => stable_prs v xs0) rfl (by kernel_rfl) (by rfl) (fun W hS => ?_) (fun v1 => ?_)
  · have hH := hS; refine freeR_call (w' := W) (f := ?_) (args := ?_) ?_ ?_; rotate_left 2; (go_simp; (refine ⟨?_, ?_⟩ <;> with_reducible rfl)); refine (HTP.out _ _ (HP0.out.step hH.below)).mono ?_; rintro e wn ⟨v, rfl, hm, hb⟩; exact ⟨v, rfl, hm, hb⟩
  simp only [Act.put, List.setIfInBounds_toArray, List.set_cons_zero, List.set_cons_succ]
  refine takeW (i := 3) (v := ?_) (Stable.and (Stable.held _ _) (stable_prs v1 xs0)) rfl (by kernel_rfl) (by kernel_rfl) (by kernel_rfl) (fun _ _ _ h => h) ?_ ?_
  rotate_left
  · first | (refine Or.inl ⟨by rfl, fun W hS => ?_⟩; obtain ⟨hH, r1⟩ := hS; refine detR_call (w' := W) (f := ?_) (args := ?_) ?_ ?_; rotate_left 2; (go_simp; (refine ⟨?_, ?_⟩ <;> with_reducible rfl)); (first | (with_reducible refine (HTL.out _).mono ?_) | (with_reducible refine (HT3.out _).mono ?_) | fail); (first | (rintro e wn ⟨rfl, hb⟩; refine ⟨?_, hb⟩; with_reducible rfl) | (rintro e wn ⟨rfl, rfl⟩; refine ⟨?_, Below.refl _ _⟩; with_reducible rfl) | fail)) | fail
  simp only [Act.put, List.setIfInBounds_toArray, List.set_cons_zero, List.set_cons_succ]
  refine takeW (i := 5) (v := ?_) (Stable.and (Stable.held _ _) (stable_prs v1 xs0)) rfl (by kernel_rfl) (by kernel_rfl) (by kernel_rfl) (fun _ _ _ h => h) ?_ ?_
  rotate_left
  · first | (refine Or.inl ⟨by rfl, fun W hS => ?_⟩; obtain ⟨hH, r1⟩ := hS; refine detR_call (w' := W) (f := ?_) (args := ?_) ?_ ?_; rotate_left 2; (go_simp; (refine ⟨?_, ?_⟩ <;> with_reducible rfl)); (first | (with_reducible refine (HTL.out _).mono ?_) | (with_reducible refine (HT3.out _).mono ?_) | fail); (first | (rintro e wn ⟨rfl, hb⟩; refine ⟨?_, hb⟩; with_reducible rfl) | (rintro e wn ⟨rfl, rfl⟩; refine ⟨?_, Below.refl _ _⟩; with_reducible rfl) | fail)) | fail
  simp only [Act.put, List.setIfInBounds_toArray, List.set_cons_zero, List.set_cons_succ]
  refine takeW (i := 6) (v := ?_) (Stable.and (Stable.held _ _) (stable_prs v1 xs0)) rfl (by kernel_rfl) (by kernel_rfl) (by kernel_rfl) (fun _ _ _ h => h) ?_ ?_
  rotate_left
  · first | (refine Or.inl ⟨by rfl, fun W hS => ?_⟩; obtain ⟨hH, r1⟩ := hS; refine detR_call (w' := W) (f := ?_) (args := ?_) ?_ ?_; rotate_left 2; (go_simp; (refine ⟨?_, ?_⟩ <;> with_reducible rfl)); (first | (with_reducible refine (HL.out _ _ r1).mono ?_) | fail); (first | (rintro e wn ⟨rfl, hb⟩; refine ⟨?_, hb⟩; with_reducible rfl) | (rintro e wn ⟨rfl, rfl⟩; refine ⟨?_, Below.refl _ _⟩; with_reducible rfl) | fail)) | fail
  simp only [Act.put, List.setIfInBounds_toArray, List.set_cons_zero, List.set_cons_succ]
  refine takeW (i := 7) (v := ?_) (Stable.and (Stable.held _ _) (stable_prs v1 xs0)) rfl (by kernel_rfl) (by kernel_rfl) (by kernel_rfl) (fun _ _ _ h => h) ?_ ?_
  rotate_left
  · first | (refine Or.inl ⟨by rfl, fun W hS => detR_value (w' := W) ?_ (Below.refl _ _)⟩; obtain ⟨hH, r1⟩ := hS; obtain ⟨x0, x1, x2, x3, _⟩ := hH.1; go_simp; first | done | with_reducible rfl) | fail
  simp only [Act.put, List.setIfInBounds_toArray, List.set_cons_zero, List.set_cons_succ]
  refine doneW (by kernel_rfl) fun wH1 HG => ?_
  obtain ⟨hH, r1⟩ := HG
  have H1 := Lib.hid hH; clear hH
  have MH1_1 := Lib.hid r1; clear r1
  try clear x0 x1 x2 x3
  obtain ⟨x0, x1, x2, x3, _⟩ := H1.out.1
  go_wp2_with fail
  refine (HTP.out _ _ (HP0.out.step H1.out.below)).mono ?_
  rintro e wH2 ⟨vH2, rfl, hm, hb⟩
  have MH2 := Lib.hid hm; clear hm
  have H2 := Lib.hid ((H1.out).step hb); clear hb
  try clear x0 x1 x2 x3
  obtain ⟨x0, x1, x2, x3, _⟩ := H2.out.1
  go_wp2_with fail
  refine regionW (fun W => (Held _ W [(w.heap.size, 0, .int .i64 (a1_From)), (w.heap.size, 1, .int .i64 (a1_To)), (w.heap.size + 1, 0, .int .i64 (a2_From)), (w.heap.size + 1, 1, .int .i64 (a2_To))]) ∧ Prs W vH2 xs0) (by kernel_rfl) ⟨H2.out.drew, (MH2.out).step ((Below.refl _ _).drew)⟩ ?_
  refine takeW (i := 0) (v := ?_) (Stable.and (Stable.held _ _) (stable_prs vH2 xs0)) rfl (by kernel_rfl) (by kernel_rfl) (by kernel_rfl) (fun _ _ _ h => h) ?_ ?_
  rotate_left
  · first | (refine Or.inl ⟨by rfl, fun W hS => detR_value (w' := W) ?_ (Below.refl _ _)⟩; obtain ⟨hH, q1⟩ := hS; obtain ⟨x0, x1, x2, x3, _⟩ := hH.1; go_simp; first | done | with_reducible rfl) | fail
  simp only [Act.put, List.setIfInBounds_toArray, List.set_cons_zero, List.set_cons_succ]
  refine takeW (i := 1) (v := ?_) (Stable.and (Stable.held _ _) (stable_prs vH2 xs0)) rfl (by kernel_rfl) (by kernel_rfl) (by kernel_rfl) (fun _ _ _ h => h) ?_ ?_
  rotate_left
  · first | (refine Or.inl ⟨by rfl, fun W hS => detR_value (w' := W) ?_ (Below.refl _ _)⟩; obtain ⟨hH, q1⟩ := hS; obtain ⟨x0, x1, x2, x3, _⟩ := hH.1; go_simp; first | done | with_reducible rfl) | fail
  simp only [Act.put, List.setIfInBounds_toArray, List.set_cons_zero, List.set_cons_succ]
  refine takeW (i := 2) (v := ?_) (Stable.and (Stable.held _ _) (stable_prs vH2 xs0)) rfl (by kernel_rfl) (by kernel_rfl) (by kernel_rfl) (fun _ _ _ h => h) ?_ ?_
  rotate_left
  · first | (refine Or.inl ⟨by rfl, fun W hS => ?_⟩; obtain ⟨hH, q1⟩ := hS; refine detR_call (w' := W) (f := ?_) (args := ?_) ?_ ?_; rotate_left 2; (go_simp; (refine ⟨?_, ?_⟩ <;> with_reducible rfl)); (first | (with_reducible refine (HTL.out _).mono ?_) | (with_reducible refine (HT3.out _).mono ?_) | fail); (first | (rintro e wn ⟨rfl, hb⟩; refine ⟨?_, hb⟩; with_reducible rfl) | (rintro e wn ⟨rfl, rfl⟩; refine ⟨?_, Below.refl _ _⟩; with_reducible rfl) | fail)) | fail
  simp only [Act.put, List.setIfInBounds_toArray, List.set_cons_zero, List.set_cons_succ]
  refine takeW (i := 3) (v := ?_) (Stable.and (Stable.held _ _) (stable_prs vH2 xs0)) rfl (by kernel_rfl) (by kernel_rfl) (by kernel_rfl) (fun _ _ _ h => h) ?_ ?_
  rotate_left
  · first | (refine Or.inl ⟨by rfl, fun W hS => detR_value (w' := W) ?_ (Below.refl _ _)⟩; obtain ⟨hH, q1⟩ := hS; obtain ⟨x0, x1, x2, x3, _⟩ := hH.1; go_simp; first | done | with_reducible rfl) | fail
  simp only [Act.put, List.setIfInBounds_toArray, List.set_cons_zero, List.set_cons_succ]
  refine takeW (i := 4) (v := ?_) (Stable.and (Stable.held _ _) (stable_prs vH2 xs0)) rfl (by kernel_rfl) (by kernel_rfl) (by kernel_rfl) (fun _ _ _ h => h) ?_ ?_
  rotate_left
  · first | (refine Or.inl ⟨by rfl, fun W hS => ?_⟩; obtain ⟨hH, q1⟩ := hS; refine detR_call (w' := W) (f := ?_) (args := ?_) ?_ ?_; rotate_left 2; (go_simp; (refine ⟨?_, ?_⟩ <;> with_reducible rfl)); (first | (with_reducible refine (HTL.out _).mono ?_) | (with_reducible refine (HT3.out _).mono ?_) | fail); (first | (rintro e wn ⟨rfl, hb⟩; refine ⟨?_, hb⟩; with_reducible rfl) | (rintro e wn ⟨rfl, rfl⟩; refine ⟨?_, Below.refl _ _⟩; with_reducible rfl) | fail)) | fail
  simp only [Act.put, List.setIfInBounds_toArray, List.set_cons_zero, List.set_cons_succ]
  refine takeW (i := 5) (v := ?_) (Stable.and (Stable.held _ _) (stable_prs vH2 xs0)) rfl (by kernel_rfl) (by kernel_rfl) (by kernel_rfl) (fun _ _ _ h => h) ?_ ?_
  rotate_left
  · first | (refine Or.inl ⟨by rfl, fun W hS => ?_⟩; obtain ⟨hH, q1⟩ := hS; refine detR_call (w' := W) (f := ?_) (args := ?_) ?_ ?_; rotate_left 2; (go_simp; (refine ⟨?_, ?_⟩ <;> with_reducible rfl)); (first | (with_reducible refine (HI.out _ _ q1).mono ?_) | fail); (first | (rintro e wn ⟨rfl, hb⟩; refine ⟨?_, hb⟩; with_reducible rfl) | (rintro e wn ⟨rfl, rfl⟩; refine ⟨?_, Below.refl _ _⟩; with_reducible rfl) | fail)) | fail
  simp only [Act.put, List.setIfInBounds_toArray, List.set_cons_zero, List.set_cons_succ]
  refine takeW (i := 6) (v := ?_) (Stable.and (Stable.held _ _) (stable_prs vH2 xs0)) rfl (by kernel_rfl) (by kernel_rfl) (by kernel_rfl) (fun _ _ _ h => h) ?_ ?_
  rotate_left
  · first | (refine Or.inl ⟨by rfl, fun W hS => detR_value (w' := W) ?_ (Below.refl _ _)⟩; obtain ⟨hH, q1⟩ := hS; obtain ⟨x0, x1, x2, x3, _⟩ := hH.1; go_simp; first | done | with_reducible rfl) | fail
  simp only [Act.put, List.setIfInBounds_toArray, List.set_cons_zero, List.set_cons_succ]
  refine doneW (by kernel_rfl) fun wH4 HG => ?_
  obtain ⟨hH, q1⟩ := HG
  have H4 := Lib.hid hH; clear hH
  have MH4_q1 := Lib.hid q1; clear q1
  try clear x0 x1 x2 x3
  obtain ⟨x0, x1, x2, x3, _⟩ := H4.out.1
  go_wp2_with fail
  refine (HTP.out _ _ (HP0.out.step H4.out.below)).mono ?_
  rintro e wH5 ⟨vH5, rfl, hm, hb⟩
  have MH5 := Lib.hid hm; clear hm
  have MH4_q1 := Lib.hid (MH4_q1.out.step hb)
  have H5 := Lib.hid ((H4.out).step hb); clear hb
  try clear x0 x1 x2 x3
  obtain ⟨x0, x1, x2, x3, _⟩ := H5.out.1
  go_wp2_with fail
  refine (HEQ.out _ _ _ MH4_q1.out MH5.out).mono ?_
  rintro e wH6 ⟨rfl, hb⟩
  have H6 := Lib.hid ((H5.out).step hb); clear hb
  try clear x0 x1 x2 x3
  obtain ⟨x0, x1, x2, x3, _⟩ := H6.out.1
  go_wp2_with fail
  go_ret
  exact ⟨rfl, H6.out.below⟩

set_option maxRecDepth 100000 in
theorem lifted (os : Os) (started : os.Started) (H : Type) (enc : TypeId × Value → H) :
    ReturnsInHanded {} Try.checked os 13 .any (Rows.fnExactDoCrossSpec.pre6 enc Try.prog Try.f13 Rows.fnExactDoCrossRow.domain false) (Rows.fnExactDoCrossSpec.post enc Try.prog Try.f13 false true false false) := by
  refine returnsInHanded_of_change (C := Try.checked) own started (by kernel_rfl) Try.func13
    (ChangeSpec.witness6 (enc := enc) (C := Try.checked) false ⟨#[], #[.slice none 0 0, .agg #[.int .i64 0, .int .i64 0], .agg #[.int .i64 0, .int .i64 0]], []⟩ 8 (by kernel_rfl) (by kernel_rfl) (by kernel_rfl) (by kernel_rfl)) ?_
  intro W base args ds gs before hval0 hW hcnd _
  have hval : ∀ (j : Nat) t v, Try.f13.params[j]? = some t → args[j]? = some v → Value.okWide Try.prog W .any base t v := hval0
  have hW' := hW
  obtain ⟨p, q, hA0, hV, rfl, hfz, hnd⟩ := hW
  have hA : DataW.TrodAll enc Try.prog W 0 (fun _ => true) true Try.f13.params.toList args.toList ds p := hA0
  rw [Try.params13] at hA hval
  obtain ⟨v0, vs0, d0, ds0, p0, q0, hargs, rfl, rfl, h0, r0⟩ := trodAll_cons hA
  obtain ⟨v1, vs1, d1, ds1, p1, q1, rfl, rfl, rfl, h1, r1⟩ := trodAll_cons r0
  obtain ⟨v2, vs2, d2, ds2, p2, q2, rfl, rfl, rfl, h2, r2⟩ := trodAll_cons r1
  obtain ⟨rfl, rfl, rfl⟩ := trodAll_nil r2
  obtain rfl : args = #[v0, v1, v2] := by cases args; simp_all
  obtain ⟨rfl, rfl⟩ := trodVars_none hV
  have k0 := h0
  have lt0 : ∀ x ∈ p0, x.block < W.heap.size := by obtain ⟨m, hm⟩ := k0; exact DataW.trod_lt m _ _ _ hm
  have k1 := h1
  have lt1 : ∀ x ∈ p1, x.block < W.heap.size := by obtain ⟨m, hm⟩ := k1; exact DataW.trod_lt m _ _ _ hm
  have k2 := h2
  have lt2 : ∀ x ∈ p2, x.block < W.heap.size := by obtain ⟨m, hm⟩ := k2; exact DataW.trod_lt m _ _ _ hm
  obtain ⟨A0, len0, cap0, rfl⟩ := Go.WideShapes.okWide_slice Try.underlying62 (hval 0 62 v0 rfl rfl)
  obtain ⟨fuel0, hf0⟩ := h0
  obtain ⟨a0, xs0, e0, w0⟩ := prs_open Try.underlying62 Try.underlying57 (by kernel_rfl) (by kernel_rfl) Try.underlying3 Try.underlying3 hf0
  simp [Value.cells] at e0
  subst e0
  obtain ⟨c10, c11, y10, y11, m1, rfl, rfl, rfl, g10, g11⟩ := open_agg2 Try.underlying63 (by kernel_rfl) (by kernel_rfl) (hval 1 63 v1 rfl rfl) h1
  obtain ⟨a1_From, e10, rfl, w1_From⟩ := DataW.trod_int Try.underlying3 g10
  obtain rfl : c10 = .int .i64 a1_From := by simpa using e10
  obtain ⟨a1_To, e11, rfl, w1_To⟩ := DataW.trod_int Try.underlying3 g11
  obtain rfl : c11 = .int .i64 a1_To := by simpa using e11
  obtain ⟨c20, c21, y20, y21, m2, rfl, rfl, rfl, g20, g21⟩ := open_agg2 Try.underlying63 (by kernel_rfl) (by kernel_rfl) (hval 2 63 v2 rfl rfl) h2
  obtain ⟨a2_From, e20, rfl, w2_From⟩ := DataW.trod_int Try.underlying3 g20
  obtain rfl : c20 = .int .i64 a2_From := by simpa using e20
  obtain ⟨a2_To, e21, rfl, w2_To⟩ := DataW.trod_int Try.underlying3 g21
  obtain rfl : c21 = .int .i64 a2_To := by simpa using e21
  clear hA0 hval0
  refine (walk W _ xs0 w0 a1_From w1_From a1_To w1_To a2_From w2_From a2_To w2_To).mono fun e W' ⟨he, bel⟩ => ?_
  subst he
  exact ⟨_, rfl, _, _, _, [], _, [], hW', trodAll_mk1 (shut_bool Try.underlying4 _), trodAll_cons_mk (Below.trod laidOut (by kernel_rfl) (of_decide_eq_true (by kernel_rfl)) k0 bel lt0) (trodAll_cons_mk (Below.trod laidOut (by kernel_rfl) (of_decide_eq_true (by kernel_rfl)) k1 bel lt1) (trodAll_cons_mk (Below.trod laidOut (by kernel_rfl) (of_decide_eq_true (by kernel_rfl)) k2 bel lt2) (trodAll_mk0))), rfl, bel.frame _, fun h => by cases h⟩

theorem over : Rows.fnExactDoCrossRow.holds Try.pinned (OpenSpec.ofChange Rows.fnExactDoCrossSpec) :=
  OpenClaim.holds_of_wide 13 Try.f13 rfl rfl rfl rfl rfl rfl rfl ⟨rfl, rfl, rfl, rfl, rfl⟩ rfl rfl rfl rfl rfl (by kernel_rfl) Try.func13 (by kernel_rfl)
    (of_decide_eq_true (by kernel_rfl)) (by unfold Func.isWrapper; first | (rw [if_pos (by decide +kernel)]; kernel_rfl) | (rw [if_neg (by decide +kernel)]; exact ⟨rfl, rfl⟩))
    (fun os started H enc _ => lifted os started H enc)

/-- THE STATEMENT. -/
theorem proved : Rows.FnExactDoCrossSaid := over
#print axioms proved
end Go.Proofs.Ytemblmcfbonjoaa.fnExactDoCross
