/-
  The program's LayStains returns, for all arguments, the stain that the model's LayStains returns: the law FnExactLayStains answers true. No condition.
-/
import Derived.Test.YtghpbdgghliieaaRows
import Derived.Test.YtghpbdgghliieaaLayL
import Derived.WalkKit
import Derived.ProofKit
import Derived.OpenShut
import Derived.ShutString
import Derived.ChangeOld
import Derived.Below
import Derived.Carry
import Derived.Lib.SmallJoins
namespace Go.Proofs.Ytghpbdgghliieaa.fnExactLayStains
open Go.ChangeShapes Go.WideShapes Go.ChangeAt Go.RowKit Go.Joins
open Go.ChangeMaps (open_string shut_string)
set_option linter.unusedVariables false
set_option linter.unusedSimpArgs false

theorem own : ownKnob Try.prog.godebug = none := by kernel_rfl
theorem laidOut : laidOutB Try.prog = true := by kernel_rfl
set_option maxRecDepth 100000
theorem walk (w : World) (a0_Red : Int) (w0_Red : (Lit.int .i64 a0_Red).wf = true) (a0_Green : Int) (w0_Green : (Lit.int .i64 a0_Green).wf = true) (a0_Blue : Int) (w0_Blue : (Lit.int .i64 a0_Blue).wf = true) (a1_Red : Int) (w1_Red : (Lit.int .i64 a1_Red).wf = true) (a1_Green : Int) (w1_Green : (Lit.int .i64 a1_Green).wf = true) (a1_Blue : Int) (w1_Blue : (Lit.int .i64 a1_Blue).wf = true) :
    Calls Try.prog 6 #[.agg #[.int .i64 a0_Red, .int .i64 a0_Green, .int .i64 a0_Blue], .agg #[.int .i64 a1_Red, .int .i64 a1_Green, .int .i64 a1_Blue]] w fun e w' => e = .returned (.bool true) ∧ Below w.heap.size w w' := by
  have H0 := Lib.hid (((Held.none_ w).new2 (w.heap.size) (by simp) [.int .i64 a0_Red, .int .i64 a0_Green, .int .i64 a0_Blue] 29).new2 (w.heap.size + 1) (by simp) [.int .i64 a1_Red, .int .i64 a1_Green, .int .i64 a1_Blue] 29)
  simp only [newFs, List.cons_append, List.nil_append, List.append_nil] at H0
  have HT0 := Lib.hid (toStain_any ⟨a0_Red, a0_Green, a0_Blue⟩)
  have HT1 := Lib.hid (toStain_any ⟨a1_Red, a1_Green, a1_Blue⟩)
  have HS := Lib.hid (specLay ⟨a0_Red, a0_Green, a0_Blue⟩ ⟨a1_Red, a1_Green, a1_Blue⟩)
  have HI := Lib.hid (implLay ⟨a0_Red, a0_Green, a0_Blue⟩ ⟨a1_Red, a1_Green, a1_Blue⟩)
  generalize layT ⟨a0_Red, a0_Green, a0_Blue⟩ ⟨a1_Red, a1_Green, a1_Blue⟩ = m at *
  have HEQ := Lib.hid (eqStain_yes m)
  obtain ⟨m1, m2, m3⟩ := m
  unfold TriIs Tr.val at HT0
  unfold TriIs Tr.val at HT1
  unfold TriIs Tr.val at HS HI
  unfold Tr.val at HEQ
  simp only at HS HI HT0 HT1 HEQ
  clear w0_Red w0_Green w0_Blue w1_Red w1_Green w1_Blue
  go_enter Try.func6, Try.ntmps6
  go_wp2_with fail
  have HBH1 := Lib.hid H0.out.2.1
  refine regionW (fun W => Held _ W [(w.heap.size + 1, 0, .int .i64 (a1_Red)), (w.heap.size + 1, 1, .int .i64 (a1_Green)), (w.heap.size + 1, 2, .int .i64 (a1_Blue)), (w.heap.size, 0, .int .i64 (a0_Red)), (w.heap.size, 1, .int .i64 (a0_Green)), (w.heap.size, 2, .int .i64 (a0_Blue))]) (by kernel_rfl) (Held.start H0.out.1 H0.out.2.1).drew ?_
  refine takeW (i := 0) (v := ?_) (Stable.held _ _) rfl (by kernel_rfl) (by kernel_rfl) (by kernel_rfl) (fun _ _ _ h => h) ?_ ?_
  rotate_left
  · first | (refine Or.inl ⟨by rfl, fun W hS => detR_value (w' := W) ?_ (Below.refl _ _)⟩; obtain ⟨x0, x1, x2, x3, x4, x5, _⟩ := hS.1; go_simp; first | done | with_reducible rfl) | fail
  simp only [Act.put, List.setIfInBounds_toArray, List.set_cons_zero, List.set_cons_succ]
  refine takeW (i := 1) (v := ?_) (Stable.held _ _) rfl (by kernel_rfl) (by kernel_rfl) (by kernel_rfl) (fun _ _ _ h => h) ?_ ?_
  rotate_left
  · first | (refine Or.inl ⟨by rfl, fun W hS => ?_⟩; have hH := H0.out.after hS; refine detR_call (w' := W) (f := ?_) (args := ?_) ?_ ?_; rotate_left 2; (go_simp; (refine ⟨?_, ?_⟩ <;> with_reducible rfl)); (first | (with_reducible refine (HT0.out _).mono ?_) | (with_reducible refine (HT1.out _).mono ?_) | fail); (first | (rintro e wn ⟨rfl, hb⟩; refine ⟨?_, hb⟩; with_reducible rfl) | (rintro e wn ⟨rfl, rfl⟩; refine ⟨?_, Below.refl _ _⟩; with_reducible rfl) | fail)) | fail
  simp only [Act.put, List.setIfInBounds_toArray, List.set_cons_zero, List.set_cons_succ]
  refine takeW (i := 2) (v := ?_) (Stable.held _ _) rfl (by kernel_rfl) (by kernel_rfl) (by kernel_rfl) (fun _ _ _ h => h) ?_ ?_
  rotate_left
  · first | (refine Or.inl ⟨by rfl, fun W hS => detR_value (w' := W) ?_ (Below.refl _ _)⟩; obtain ⟨x0, x1, x2, x3, x4, x5, _⟩ := hS.1; go_simp; first | done | with_reducible rfl) | fail
  simp only [Act.put, List.setIfInBounds_toArray, List.set_cons_zero, List.set_cons_succ]
  refine takeW (i := 3) (v := ?_) (Stable.held _ _) rfl (by kernel_rfl) (by kernel_rfl) (by kernel_rfl) (fun _ _ _ h => h) ?_ ?_
  rotate_left
  · first | (refine Or.inl ⟨by rfl, fun W hS => ?_⟩; have hH := H0.out.after hS; refine detR_call (w' := W) (f := ?_) (args := ?_) ?_ ?_; rotate_left 2; (go_simp; (refine ⟨?_, ?_⟩ <;> with_reducible rfl)); (first | (with_reducible refine (HT0.out _).mono ?_) | (with_reducible refine (HT1.out _).mono ?_) | fail); (first | (rintro e wn ⟨rfl, hb⟩; refine ⟨?_, hb⟩; with_reducible rfl) | (rintro e wn ⟨rfl, rfl⟩; refine ⟨?_, Below.refl _ _⟩; with_reducible rfl) | fail)) | fail
  simp only [Act.put, List.setIfInBounds_toArray, List.set_cons_zero, List.set_cons_succ]
  refine takeW (i := 4) (v := ?_) (Stable.held _ _) rfl (by kernel_rfl) (by kernel_rfl) (by kernel_rfl) (fun _ _ _ h => h) ?_ ?_
  rotate_left
  · first | (refine Or.inl ⟨by rfl, fun W hS => ?_⟩; have hH := H0.out.after hS; refine detR_call (w' := W) (f := ?_) (args := ?_) ?_ ?_; rotate_left 2; (go_simp; (refine ⟨?_, ?_⟩ <;> with_reducible rfl)); (first | (with_reducible refine (HS.out _).mono ?_) | fail); (first | (rintro e wn ⟨rfl, hb⟩; refine ⟨?_, hb⟩; with_reducible rfl) | (rintro e wn ⟨rfl, rfl⟩; refine ⟨?_, Below.refl _ _⟩; with_reducible rfl) | fail)) | fail
  simp only [Act.put, List.setIfInBounds_toArray, List.set_cons_zero, List.set_cons_succ]
  refine allocV (i := 5) 31 #[.int .i64 0, .int .i64 0, .int .i64 0] rfl (by kernel_rfl) (by rfl) (fun W => ?_) (fun vn => ?_)
  · go_simp; first | done | with_reducible rfl
  simp only [Act.put, List.setIfInBounds_toArray, List.set_cons_zero, List.set_cons_succ]
  refine storeV (i := 6) #[.int .i64 m1, .int .i64 m2, .int .i64 m3] rfl (by kernel_rfl) (by rfl) rfl (by rfl) (by rfl) HBH1.out rfl (by kernel_rfl) (by simp [Value.oneCell']) ?_
  simp only [Act.put, List.setIfInBounds_toArray, List.set_cons_zero, List.set_cons_succ]
  refine doneW (by kernel_rfl) fun wH1 HG => ?_
  obtain ⟨⟨hH, _⟩, bH1, rfl, hbn, hcn⟩ := HG
  have H1 := Lib.hid (Held.joined3 H0.out hH hcn); clear hH hcn HBH1
  try clear x0 x1 x2 x3 x4 x5
  obtain ⟨x0, x1, x2, x3, x4, x5, x6, x7, x8, _⟩ := H1.out.1
  go_wp2_with fail
  clear x0 x1 x2 x3 x4 x5 x6 x7 x8
  have HBH2 := Lib.hid H1.out.2.1
  refine regionW (fun W => Held _ W [(bH1, 0, .int .i64 (m1)), (bH1, 1, .int .i64 (m2)), (bH1, 2, .int .i64 (m3)), (w.heap.size + 1, 0, .int .i64 (a1_Red)), (w.heap.size + 1, 1, .int .i64 (a1_Green)), (w.heap.size + 1, 2, .int .i64 (a1_Blue)), (w.heap.size, 0, .int .i64 (a0_Red)), (w.heap.size, 1, .int .i64 (a0_Green)), (w.heap.size, 2, .int .i64 (a0_Blue))]) (by kernel_rfl) (Held.start H1.out.1 H1.out.2.1).drew ?_
  refine takeW (i := 0) (v := ?_) (Stable.held _ _) rfl (by kernel_rfl) (by kernel_rfl) (by kernel_rfl) (fun _ _ _ h => h) ?_ ?_
  rotate_left
  · first | (refine Or.inl ⟨by rfl, fun W hS => detR_value (w' := W) ?_ (Below.refl _ _)⟩; obtain ⟨x0, x1, x2, x3, x4, x5, x6, x7, x8, _⟩ := hS.1; go_simp; first | done | with_reducible rfl) | fail
  simp only [Act.put, List.setIfInBounds_toArray, List.set_cons_zero, List.set_cons_succ]
  refine takeW (i := 1) (v := ?_) (Stable.held _ _) rfl (by kernel_rfl) (by kernel_rfl) (by kernel_rfl) (fun _ _ _ h => h) ?_ ?_
  rotate_left
  · first | (refine Or.inl ⟨by rfl, fun W hS => ?_⟩; have hH := H1.out.after hS; refine detR_call (w' := W) (f := ?_) (args := ?_) ?_ ?_; rotate_left 2; (go_simp; (refine ⟨?_, ?_⟩ <;> with_reducible rfl)); (first | (with_reducible refine (HT0.out _).mono ?_) | (with_reducible refine (HT1.out _).mono ?_) | fail); (first | (rintro e wn ⟨rfl, hb⟩; refine ⟨?_, hb⟩; with_reducible rfl) | (rintro e wn ⟨rfl, rfl⟩; refine ⟨?_, Below.refl _ _⟩; with_reducible rfl) | fail)) | fail
  simp only [Act.put, List.setIfInBounds_toArray, List.set_cons_zero, List.set_cons_succ]
  refine takeW (i := 2) (v := ?_) (Stable.held _ _) rfl (by kernel_rfl) (by kernel_rfl) (by kernel_rfl) (fun _ _ _ h => h) ?_ ?_
  rotate_left
  · first | (refine Or.inl ⟨by rfl, fun W hS => detR_value (w' := W) ?_ (Below.refl _ _)⟩; obtain ⟨x0, x1, x2, x3, x4, x5, x6, x7, x8, _⟩ := hS.1; go_simp; first | done | with_reducible rfl) | fail
  simp only [Act.put, List.setIfInBounds_toArray, List.set_cons_zero, List.set_cons_succ]
  refine takeW (i := 3) (v := ?_) (Stable.held _ _) rfl (by kernel_rfl) (by kernel_rfl) (by kernel_rfl) (fun _ _ _ h => h) ?_ ?_
  rotate_left
  · first | (refine Or.inl ⟨by rfl, fun W hS => ?_⟩; have hH := H1.out.after hS; refine detR_call (w' := W) (f := ?_) (args := ?_) ?_ ?_; rotate_left 2; (go_simp; (refine ⟨?_, ?_⟩ <;> with_reducible rfl)); (first | (with_reducible refine (HT0.out _).mono ?_) | (with_reducible refine (HT1.out _).mono ?_) | fail); (first | (rintro e wn ⟨rfl, hb⟩; refine ⟨?_, hb⟩; with_reducible rfl) | (rintro e wn ⟨rfl, rfl⟩; refine ⟨?_, Below.refl _ _⟩; with_reducible rfl) | fail)) | fail
  simp only [Act.put, List.setIfInBounds_toArray, List.set_cons_zero, List.set_cons_succ]
  refine takeW (i := 4) (v := ?_) (Stable.held _ _) rfl (by kernel_rfl) (by kernel_rfl) (by kernel_rfl) (fun _ _ _ h => h) ?_ ?_
  rotate_left
  · first | (refine Or.inl ⟨by rfl, fun W hS => ?_⟩; have hH := H1.out.after hS; refine detR_call (w' := W) (f := ?_) (args := ?_) ?_ ?_; rotate_left 2; (go_simp; (refine ⟨?_, ?_⟩ <;> with_reducible rfl)); (first | (with_reducible refine (HI.out _).mono ?_) | fail); (first | (rintro e wn ⟨rfl, hb⟩; refine ⟨?_, hb⟩; with_reducible rfl) | (rintro e wn ⟨rfl, rfl⟩; refine ⟨?_, Below.refl _ _⟩; with_reducible rfl) | fail)) | fail
  simp only [Act.put, List.setIfInBounds_toArray, List.set_cons_zero, List.set_cons_succ]
  refine allocV (i := 5) 31 #[.int .i64 0, .int .i64 0, .int .i64 0] rfl (by kernel_rfl) (by rfl) (fun W => ?_) (fun vn => ?_)
  · go_simp; first | done | with_reducible rfl
  simp only [Act.put, List.setIfInBounds_toArray, List.set_cons_zero, List.set_cons_succ]
  refine storeV (i := 6) #[.int .i64 m1, .int .i64 m2, .int .i64 m3] rfl (by kernel_rfl) (by rfl) rfl (by rfl) (by rfl) HBH2.out rfl (by kernel_rfl) (by simp [Value.oneCell']) ?_
  simp only [Act.put, List.setIfInBounds_toArray, List.set_cons_zero, List.set_cons_succ]
  refine doneW (by kernel_rfl) fun wH2 HG => ?_
  obtain ⟨⟨hH, _⟩, bH2, rfl, hbn, hcn⟩ := HG
  have H2 := Lib.hid (Held.joined3 H1.out hH hcn); clear hH hcn HBH2
  try clear x0 x1 x2 x3 x4 x5 x6 x7 x8
  obtain ⟨x0, x1, x2, x3, x4, x5, x6, x7, x8, x9, x10, x11, _⟩ := H2.out.1
  go_wp2_with fail
  refine (HEQ.out _).mono ?_
  rintro e w4 ⟨rfl, hb⟩
  have H3 := Lib.hid (H2.out.step hb); clear hb
  go_wp2_with fail
  go_ret
  exact ⟨rfl, H3.out.below⟩

set_option maxRecDepth 100000 in
theorem lifted (os : Os) (started : os.Started) (H : Type) (enc : TypeId × Value → H) :
    ReturnsInHanded {} Try.checked os 6 .any (Rows.fnExactLayStainsSpec.pre6 enc Try.prog Try.f6 Rows.fnExactLayStainsRow.domain false) (Rows.fnExactLayStainsSpec.post enc Try.prog Try.f6 false true false false) := by
  refine returnsInHanded_of_change (C := Try.checked) own started (by kernel_rfl) Try.func6
    (ChangeSpec.witness6 (enc := enc) (C := Try.checked) false ⟨#[], #[.agg #[.int .i64 0, .int .i64 0, .int .i64 0], .agg #[.int .i64 0, .int .i64 0, .int .i64 0]], []⟩ 8 (by kernel_rfl) (by kernel_rfl) (by kernel_rfl) (by kernel_rfl)) ?_
  intro W base args ds gs before hval0 hW hcnd _
  have hval : ∀ (j : Nat) t v, Try.f6.params[j]? = some t → args[j]? = some v → Value.okWide Try.prog W .any base t v := hval0
  have hW' := hW
  obtain ⟨p, q, hA0, hV, rfl, hfz, hnd⟩ := hW
  have hA : DataW.TrodAll enc Try.prog W 0 (fun _ => true) true Try.f6.params.toList args.toList ds p := hA0
  rw [Try.params6] at hA hval
  obtain ⟨v0, vs0, d0, ds0, p0, q0, hargs, rfl, rfl, h0, r0⟩ := trodAll_cons hA
  obtain ⟨v1, vs1, d1, ds1, p1, q1, rfl, rfl, rfl, h1, r1⟩ := trodAll_cons r0
  obtain ⟨rfl, rfl, rfl⟩ := trodAll_nil r1
  obtain rfl : args = #[v0, v1] := by cases args; simp_all
  obtain ⟨rfl, rfl⟩ := trodVars_none hV
  have k0 := h0
  have lt0 : ∀ x ∈ p0, x.block < W.heap.size := by obtain ⟨m, hm⟩ := k0; exact DataW.trod_lt m _ _ _ hm
  have k1 := h1
  have lt1 : ∀ x ∈ p1, x.block < W.heap.size := by obtain ⟨m, hm⟩ := k1; exact DataW.trod_lt m _ _ _ hm
  obtain ⟨c00, c01, c02, y00, y01, y02, m0, rfl, rfl, rfl, g00, g01, g02⟩ := open_agg3 Try.underlying29 (by kernel_rfl) (by kernel_rfl) (hval 0 29 v0 rfl rfl) h0
  obtain ⟨a0_Red, e00, rfl, w0_Red⟩ := DataW.trod_int Try.underlying3 g00
  obtain rfl : c00 = .int .i64 a0_Red := by simpa using e00
  obtain ⟨a0_Green, e01, rfl, w0_Green⟩ := DataW.trod_int Try.underlying3 g01
  obtain rfl : c01 = .int .i64 a0_Green := by simpa using e01
  obtain ⟨a0_Blue, e02, rfl, w0_Blue⟩ := DataW.trod_int Try.underlying3 g02
  obtain rfl : c02 = .int .i64 a0_Blue := by simpa using e02
  obtain ⟨c10, c11, c12, y10, y11, y12, m1, rfl, rfl, rfl, g10, g11, g12⟩ := open_agg3 Try.underlying29 (by kernel_rfl) (by kernel_rfl) (hval 1 29 v1 rfl rfl) h1
  obtain ⟨a1_Red, e10, rfl, w1_Red⟩ := DataW.trod_int Try.underlying3 g10
  obtain rfl : c10 = .int .i64 a1_Red := by simpa using e10
  obtain ⟨a1_Green, e11, rfl, w1_Green⟩ := DataW.trod_int Try.underlying3 g11
  obtain rfl : c11 = .int .i64 a1_Green := by simpa using e11
  obtain ⟨a1_Blue, e12, rfl, w1_Blue⟩ := DataW.trod_int Try.underlying3 g12
  obtain rfl : c12 = .int .i64 a1_Blue := by simpa using e12
  clear hA0 hval0
  refine (walk W a0_Red w0_Red a0_Green w0_Green a0_Blue w0_Blue a1_Red w1_Red a1_Green w1_Green a1_Blue w1_Blue).mono fun e W' ⟨he, bel⟩ => ?_
  subst he
  exact ⟨_, rfl, _, _, _, [], _, [], hW', trodAll_mk1 (shut_bool Try.underlying4 _), trodAll_cons_mk (Below.trod laidOut (by kernel_rfl) (of_decide_eq_true (by kernel_rfl)) k0 bel lt0) (trodAll_cons_mk (Below.trod laidOut (by kernel_rfl) (of_decide_eq_true (by kernel_rfl)) k1 bel lt1) (trodAll_mk0)), rfl, bel.frame _, fun h => by cases h⟩

theorem over : Rows.fnExactLayStainsRow.holds Try.pinned (OpenSpec.ofChange Rows.fnExactLayStainsSpec) :=
  OpenClaim.holds_of_wide 6 Try.f6 rfl rfl rfl rfl rfl rfl rfl ⟨rfl, rfl, rfl, rfl, rfl⟩ rfl rfl rfl rfl rfl (by kernel_rfl) Try.func6 (by kernel_rfl)
    (of_decide_eq_true (by kernel_rfl)) (by unfold Func.isWrapper; first | (rw [if_pos (by decide +kernel)]; kernel_rfl) | (rw [if_neg (by decide +kernel)]; exact ⟨rfl, rfl⟩))
    (fun os started H enc _ => lifted os started H enc)

/-- THE STATEMENT. -/
theorem proved : Rows.FnExactLayStainsSaid := over
#print axioms proved
end Go.Proofs.Ytghpbdgghliieaa.fnExactLayStains
