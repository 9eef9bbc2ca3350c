/-
  The program's HalfPlane returns, for every two nodes, what the model's HalfPlane returns: the law FnExactHalfPlane answers true. No condition.
-/
import Derived.Test.YtemblmcfbonjoaaRows
import Derived.Test.YtemblmcfbonjoaaNodeD
import Derived.Test.YtemblmcfbonjoaaNodeX
import Derived.Test.YtemblmcfbonjoaaImplNode
import Derived.WalkKit
import Derived.ProofKit
import Derived.OpenShut
import Derived.ShutString
import Derived.ChangeOld
import Derived.Below
import Derived.Carry
import Derived.Lib.SmallJoins
namespace Go.Proofs.Ytemblmcfbonjoaa.fnExactHalfPlane
open Go.ChangeShapes Go.WideShapes Go.ChangeAt Go.RowKit Go.Joins
open Go.ChangeMaps (open_string shut_string)
set_option linter.unusedVariables false
set_option linter.unusedSimpArgs false

theorem own : ownKnob Try.prog.godebug = none := by kernel_rfl
theorem laidOut : laidOutB Try.prog = true := by kernel_rfl
theorem walk (a0_X : Int) (w0_X : (Lit.int .i64 a0_X).wf = true) (a0_Y : Int) (w0_Y : (Lit.int .i64 a0_Y).wf = true) (a1_X : Int) (w1_X : (Lit.int .i64 a1_X).wf = true) (a1_Y : Int) (w1_Y : (Lit.int .i64 a1_Y).wf = true) (w : World) :
    Calls Try.prog 10 #[.agg #[.int .i64 a0_X, .int .i64 a0_Y], .agg #[.int .i64 a1_X, .int .i64 a1_Y]] w fun e w' => e = .returned (.bool true) ∧ Below w.heap.size w w' := by
  have H0 := Lib.hid (Four.start w ⟨a0_X, a0_Y⟩ ⟨a1_X, a1_Y⟩ 57)
  have t0 := toNode_any ⟨a0_X, a0_Y⟩
  have t1 := toNode_any ⟨a1_X, a1_Y⟩
  have s := specHalf ⟨a0_X, a0_Y⟩ ⟨a1_X, a1_Y⟩
  have i := implHalf ⟨a0_X, a0_Y⟩ ⟨a1_X, a1_Y⟩
  generalize halfI ⟨a0_X, a0_Y⟩ ⟨a1_X, a1_Y⟩ = r at *
  unfold NodeIs Nd.val at t0 t1
  unfold Nd.val at s i
  have HT0 := Lib.hid t0; clear t0
  have HT1 := Lib.hid t1; clear t1
  have HS := Lib.hid s; clear s
  have HI := Lib.hid i; clear i
  clear w0_X w0_Y w1_X w1_Y
  go_enter Try.func10, Try.ntmps10
  go_wp2_with fail
  generalize ((w.alloc (Obj.cells #[Value.int IntKind.i64 a0_X, Value.int IntKind.i64 a0_Y] 57)).alloc (Obj.cells #[Value.int IntKind.i64 a1_X, Value.int IntKind.i64 a1_Y] 57)) = W0 at *
  obtain ⟨⟨x0, x1⟩, ⟨x2, x3⟩, _, _⟩ := H0.out
  go_region_held3 (fun w' => w'.cell? ⟨w.heap.size, 0, none⟩ = some (.int .i64 a0_X) ∧ w'.cell? ⟨w.heap.size, 1, none⟩ = some (.int .i64 a0_Y) ∧ w'.cell? ⟨w.heap.size + 1, 0, none⟩ = some (.int .i64 a1_X) ∧ w'.cell? ⟨w.heap.size + 1, 1, none⟩ = some (.int .i64 a1_Y)) (first | go_keep | (refine ⟨?_, ?_, ?_, ?_⟩ <;> assumption)) (first | (go_at_call 40; (first | (with_reducible refine (HT0.out _).mono ?_) | (with_reducible refine (HT1.out _).mono ?_) | fail); rintro e wn ⟨rfl, hbn⟩; (first | (have HN1 := Lib.hid (H0.out.drew.step hbn)) | (have HN2 := Lib.hid (HN1.out.step hbn)) | (have HN3 := Lib.hid (HN2.out.step hbn)) | fail); clear hbn; (first | (obtain ⟨⟨x0, x1⟩, ⟨x2, x3⟩, _, _⟩ := HN3.out) | (obtain ⟨⟨x0, x1⟩, ⟨x2, x3⟩, _, _⟩ := HN2.out) | (obtain ⟨⟨x0, x1⟩, ⟨x2, x3⟩, _, _⟩ := HN1.out) | fail)) | (go_at_call 44; (with_reducible refine (HS.out _).mono ?_); rintro e wn ⟨rfl, hbn⟩; (first | (have HN1 := Lib.hid (H0.out.drew.step hbn)) | (have HN2 := Lib.hid (HN1.out.step hbn)) | (have HN3 := Lib.hid (HN2.out.step hbn)) | fail); clear hbn; (first | (obtain ⟨⟨x0, x1⟩, ⟨x2, x3⟩, _, _⟩ := HN3.out) | (obtain ⟨⟨x0, x1⟩, ⟨x2, x3⟩, _, _⟩ := HN2.out) | (obtain ⟨⟨x0, x1⟩, ⟨x2, x3⟩, _, _⟩ := HN1.out) | fail)) | fail)
  have HM := HN3
  clear HN1 HN2 HN3 H0 x0 x1 x2 x3
  obtain ⟨⟨x0, x1⟩, ⟨x2, x3⟩, _, _⟩ := HM.out
  go_wp2_with fail
  go_region_held3 (fun w' => w'.cell? ⟨w.heap.size, 0, none⟩ = some (.int .i64 a0_X) ∧ w'.cell? ⟨w.heap.size, 1, none⟩ = some (.int .i64 a0_Y) ∧ w'.cell? ⟨w.heap.size + 1, 0, none⟩ = some (.int .i64 a1_X) ∧ w'.cell? ⟨w.heap.size + 1, 1, none⟩ = some (.int .i64 a1_Y)) (first | go_keep | (refine ⟨?_, ?_, ?_, ?_⟩ <;> assumption)) (first | (go_at_call 40; (first | (with_reducible refine (HT0.out _).mono ?_) | (with_reducible refine (HT1.out _).mono ?_) | fail); rintro e wn ⟨rfl, hbn⟩; (first | (have HN1 := Lib.hid (HM.out.drew.step hbn)) | (have HN2 := Lib.hid (HN1.out.step hbn)) | (have HN3 := Lib.hid (HN2.out.step hbn)) | fail); clear hbn; (first | (obtain ⟨⟨x0, x1⟩, ⟨x2, x3⟩, _, _⟩ := HN3.out) | (obtain ⟨⟨x0, x1⟩, ⟨x2, x3⟩, _, _⟩ := HN2.out) | (obtain ⟨⟨x0, x1⟩, ⟨x2, x3⟩, _, _⟩ := HN1.out) | fail)) | (go_at_call 21; (with_reducible refine (HI.out _).mono ?_); rintro e wn ⟨rfl, hbn⟩; (first | (have HN1 := Lib.hid (HM.out.drew.step hbn)) | (have HN2 := Lib.hid (HN1.out.step hbn)) | (have HN3 := Lib.hid (HN2.out.step hbn)) | fail); clear hbn; (first | (obtain ⟨⟨x0, x1⟩, ⟨x2, x3⟩, _, _⟩ := HN3.out) | (obtain ⟨⟨x0, x1⟩, ⟨x2, x3⟩, _, _⟩ := HN2.out) | (obtain ⟨⟨x0, x1⟩, ⟨x2, x3⟩, _, _⟩ := HN1.out) | fail)) | fail)
  go_wp2_with fail
  go_ret
  exact ⟨rfl, HN3.out.2.2.2⟩

set_option maxRecDepth 100000 in
theorem lifted (os : Os) (started : os.Started) (H : Type) (enc : TypeId × Value → H) :
    ReturnsInHanded {} Try.checked os 10 .any (Rows.fnExactHalfPlaneSpec.pre6 enc Try.prog Try.f10 Rows.fnExactHalfPlaneRow.domain false) (Rows.fnExactHalfPlaneSpec.post enc Try.prog Try.f10 false true false false) := by
  refine returnsInHanded_of_change (C := Try.checked) own started (by kernel_rfl) Try.func10
    (ChangeSpec.witness6 (enc := enc) (C := Try.checked) false ⟨#[], #[.agg #[.int .i64 0, .int .i64 0], .agg #[.int .i64 0, .int .i64 0]], []⟩ 8 (by kernel_rfl) (by kernel_rfl) (by kernel_rfl) (by kernel_rfl)) ?_
  intro W base args ds gs before hval0 hW hcnd _
  have hval : ∀ (j : Nat) t v, Try.f10.params[j]? = some t → args[j]? = some v → Value.okWide Try.prog W .any base t v := hval0
  have hW' := hW
  obtain ⟨p, q, hA0, hV, rfl, hfz, hnd⟩ := hW
  have hA : DataW.TrodAll enc Try.prog W 0 (fun _ => true) true Try.f10.params.toList args.toList ds p := hA0
  rw [Try.params10] at hA hval
  obtain ⟨v0, vs0, d0, ds0, p0, q0, hargs, rfl, rfl, h0, r0⟩ := trodAll_cons hA
  obtain ⟨v1, vs1, d1, ds1, p1, q1, rfl, rfl, rfl, h1, r1⟩ := trodAll_cons r0
  obtain ⟨rfl, rfl, rfl⟩ := trodAll_nil r1
  obtain rfl : args = #[v0, v1] := by cases args; simp_all
  obtain ⟨rfl, rfl⟩ := trodVars_none hV
  have k0 := h0
  have lt0 : ∀ x ∈ p0, x.block < W.heap.size := by obtain ⟨m, hm⟩ := k0; exact DataW.trod_lt m _ _ _ hm
  have k1 := h1
  have lt1 : ∀ x ∈ p1, x.block < W.heap.size := by obtain ⟨m, hm⟩ := k1; exact DataW.trod_lt m _ _ _ hm
  obtain ⟨c00, c01, y00, y01, m0, rfl, rfl, rfl, g00, g01⟩ := open_agg2 Try.underlying57 (by kernel_rfl) (by kernel_rfl) (hval 0 57 v0 rfl rfl) h0
  obtain ⟨a0_X, e00, rfl, w0_X⟩ := DataW.trod_int Try.underlying3 g00
  obtain rfl : c00 = .int .i64 a0_X := by simpa using e00
  obtain ⟨a0_Y, e01, rfl, w0_Y⟩ := DataW.trod_int Try.underlying3 g01
  obtain rfl : c01 = .int .i64 a0_Y := by simpa using e01
  obtain ⟨c10, c11, y10, y11, m1, rfl, rfl, rfl, g10, g11⟩ := open_agg2 Try.underlying57 (by kernel_rfl) (by kernel_rfl) (hval 1 57 v1 rfl rfl) h1
  obtain ⟨a1_X, e10, rfl, w1_X⟩ := DataW.trod_int Try.underlying3 g10
  obtain rfl : c10 = .int .i64 a1_X := by simpa using e10
  obtain ⟨a1_Y, e11, rfl, w1_Y⟩ := DataW.trod_int Try.underlying3 g11
  obtain rfl : c11 = .int .i64 a1_Y := by simpa using e11
  clear hA0 hval0
  refine (walk a0_X w0_X a0_Y w0_Y a1_X w1_X a1_Y w1_Y W).mono fun e W' ⟨he, bel⟩ => ?_
  subst he
  exact ⟨_, rfl, _, _, _, [], _, [], hW', trodAll_mk1 (shut_bool Try.underlying4 _), trodAll_cons_mk (Below.trod laidOut (by kernel_rfl) (of_decide_eq_true (by kernel_rfl)) k0 bel lt0) (trodAll_cons_mk (Below.trod laidOut (by kernel_rfl) (of_decide_eq_true (by kernel_rfl)) k1 bel lt1) (trodAll_mk0)), rfl, bel.frame _, fun h => by cases h⟩

theorem over : Rows.fnExactHalfPlaneRow.holds Try.pinned (OpenSpec.ofChange Rows.fnExactHalfPlaneSpec) :=
  OpenClaim.holds_of_wide 10 Try.f10 rfl rfl rfl rfl rfl rfl rfl ⟨rfl, rfl, rfl, rfl, rfl⟩ rfl rfl rfl rfl rfl (by kernel_rfl) Try.func10 (by kernel_rfl)
    (of_decide_eq_true (by kernel_rfl)) (by unfold Func.isWrapper; first | (rw [if_pos (by decide +kernel)]; kernel_rfl) | (rw [if_neg (by decide +kernel)]; exact ⟨rfl, rfl⟩))
    (fun os started H enc _ => lifted os started H enc)

/-- THE STATEMENT. -/
theorem proved : Rows.FnExactHalfPlaneSaid := over
#print axioms proved
end Go.Proofs.Ytemblmcfbonjoaa.fnExactHalfPlane
