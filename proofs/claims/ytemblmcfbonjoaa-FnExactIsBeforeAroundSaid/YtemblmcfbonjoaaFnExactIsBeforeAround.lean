/-
  The program's IsBeforeAround returns, for every three nodes, what the model's IsBeforeAround returns: the law FnExactIsBeforeAround answers true. No condition.
-/
import Derived.Test.YtemblmcfbonjoaaRows
import Derived.Test.YtemblmcfbonjoaaNodeD
import Derived.Test.YtemblmcfbonjoaaNodeX
import Derived.Test.YtemblmcfbonjoaaImplNode
import Derived.WalkKit
import Derived.ProofKit
import Derived.OpenShut
import Derived.ShutString
import Derived.ChangeOld
import Derived.Below
import Derived.Carry
import Derived.Lib.SmallJoins
namespace Go.Proofs.Ytemblmcfbonjoaa.fnExactIsBeforeAround
open Go.ChangeShapes Go.WideShapes Go.ChangeAt Go.RowKit Go.Joins
open Go.ChangeMaps (open_string shut_string)
set_option linter.unusedVariables false
set_option linter.unusedSimpArgs false

theorem own : ownKnob Try.prog.godebug = none := by kernel_rfl
theorem laidOut : laidOutB Try.prog = true := by kernel_rfl
theorem walk (a0_X : Int) (w0_X : (Lit.int .i64 a0_X).wf = true) (a0_Y : Int) (w0_Y : (Lit.int .i64 a0_Y).wf = true) (a1_X : Int) (w1_X : (Lit.int .i64 a1_X).wf = true) (a1_Y : Int) (w1_Y : (Lit.int .i64 a1_Y).wf = true) (a2_X : Int) (w2_X : (Lit.int .i64 a2_X).wf = true) (a2_Y : Int) (w2_Y : (Lit.int .i64 a2_Y).wf = true) (w : World) :
    Calls Try.prog 11 #[.agg #[.int .i64 a0_X, .int .i64 a0_Y], .agg #[.int .i64 a1_X, .int .i64 a1_Y], .agg #[.int .i64 a2_X, .int .i64 a2_Y]] w fun e w' => e = .returned (.bool true) ∧ Below w.heap.size w w' := by
  have H0 := Lib.hid (Six.start w ⟨a0_X, a0_Y⟩ ⟨a1_X, a1_Y⟩ ⟨a2_X, a2_Y⟩ 57)
  have t0 := toNode_any ⟨a0_X, a0_Y⟩
  have t1 := toNode_any ⟨a1_X, a1_Y⟩
  have t2 := toNode_any ⟨a2_X, a2_Y⟩
  have s := specBefore ⟨a0_X, a0_Y⟩ ⟨a1_X, a1_Y⟩ ⟨a2_X, a2_Y⟩
  have i := implBefore ⟨a0_X, a0_Y⟩ ⟨a1_X, a1_Y⟩ ⟨a2_X, a2_Y⟩
  generalize beforeB ⟨a0_X, a0_Y⟩ ⟨a1_X, a1_Y⟩ ⟨a2_X, a2_Y⟩ = r at *
  unfold NodeIs Nd.val at t0 t1 t2
  unfold Nd.val at s i
  have HT0 := Lib.hid t0; clear t0
  have HT1 := Lib.hid t1; clear t1
  have HT2 := Lib.hid t2; clear t2
  have HS := Lib.hid s; clear s
  have HI := Lib.hid i; clear i
  clear w0_X w0_Y w1_X w1_Y w2_X w2_Y
  go_enter Try.func11, Try.ntmps11
  go_wp2_with fail
  generalize (((w.alloc (Obj.cells #[Value.int IntKind.i64 a0_X, Value.int IntKind.i64 a0_Y] 57)).alloc (Obj.cells #[Value.int IntKind.i64 a1_X, Value.int IntKind.i64 a1_Y] 57)).alloc (Obj.cells #[Value.int IntKind.i64 a2_X, Value.int IntKind.i64 a2_Y] 57)) = W0 at *
  obtain ⟨⟨x0, x1⟩, ⟨x2, x3⟩, ⟨x4, x5⟩, _, _⟩ := H0.out
  go_region_held3 (fun w' => w'.cell? ⟨w.heap.size, 0, none⟩ = some (.int .i64 a0_X) ∧ w'.cell? ⟨w.heap.size, 1, none⟩ = some (.int .i64 a0_Y) ∧ w'.cell? ⟨w.heap.size + 1, 0, none⟩ = some (.int .i64 a1_X) ∧ w'.cell? ⟨w.heap.size + 1, 1, none⟩ = some (.int .i64 a1_Y) ∧ w'.cell? ⟨w.heap.size + 1 + 1, 0, none⟩ = some (.int .i64 a2_X) ∧ w'.cell? ⟨w.heap.size + 1 + 1, 1, none⟩ = some (.int .i64 a2_Y)) (first | go_keep | (refine ⟨?_, ?_, ?_, ?_, ?_, ?_⟩ <;> assumption)) (first | (go_at_call 40; (first | (with_reducible refine (HT0.out _).mono ?_) | (with_reducible refine (HT1.out _).mono ?_) | (with_reducible refine (HT2.out _).mono ?_) | fail); rintro e wn ⟨rfl, hbn⟩; (first | (have HN1 := Lib.hid (H0.out.drew.step hbn)) | (have HN2 := Lib.hid (HN1.out.step hbn)) | (have HN3 := Lib.hid (HN2.out.step hbn)) | (have HN4 := Lib.hid (HN3.out.step hbn)) | fail); clear hbn; (first | (obtain ⟨⟨x0, x1⟩, ⟨x2, x3⟩, ⟨x4, x5⟩, _, _⟩ := HN4.out) | (obtain ⟨⟨x0, x1⟩, ⟨x2, x3⟩, ⟨x4, x5⟩, _, _⟩ := HN3.out) | (obtain ⟨⟨x0, x1⟩, ⟨x2, x3⟩, ⟨x4, x5⟩, _, _⟩ := HN2.out) | (obtain ⟨⟨x0, x1⟩, ⟨x2, x3⟩, ⟨x4, x5⟩, _, _⟩ := HN1.out) | fail)) | (go_at_call 45; (with_reducible refine (HS.out _).mono ?_); rintro e wn ⟨rfl, hbn⟩; (first | (have HN1 := Lib.hid (H0.out.drew.step hbn)) | (have HN2 := Lib.hid (HN1.out.step hbn)) | (have HN3 := Lib.hid (HN2.out.step hbn)) | (have HN4 := Lib.hid (HN3.out.step hbn)) | fail); clear hbn; (first | (obtain ⟨⟨x0, x1⟩, ⟨x2, x3⟩, ⟨x4, x5⟩, _, _⟩ := HN4.out) | (obtain ⟨⟨x0, x1⟩, ⟨x2, x3⟩, ⟨x4, x5⟩, _, _⟩ := HN3.out) | (obtain ⟨⟨x0, x1⟩, ⟨x2, x3⟩, ⟨x4, x5⟩, _, _⟩ := HN2.out) | (obtain ⟨⟨x0, x1⟩, ⟨x2, x3⟩, ⟨x4, x5⟩, _, _⟩ := HN1.out) | fail)) | fail)
  have HM := HN4
  clear HN1 HN2 HN3 HN4 H0 x0 x1 x2 x3 x4 x5
  obtain ⟨⟨x0, x1⟩, ⟨x2, x3⟩, ⟨x4, x5⟩, _, _⟩ := HM.out
  go_wp2_with fail
  go_region_held3 (fun w' => w'.cell? ⟨w.heap.size, 0, none⟩ = some (.int .i64 a0_X) ∧ w'.cell? ⟨w.heap.size, 1, none⟩ = some (.int .i64 a0_Y) ∧ w'.cell? ⟨w.heap.size + 1, 0, none⟩ = some (.int .i64 a1_X) ∧ w'.cell? ⟨w.heap.size + 1, 1, none⟩ = some (.int .i64 a1_Y) ∧ w'.cell? ⟨w.heap.size + 1 + 1, 0, none⟩ = some (.int .i64 a2_X) ∧ w'.cell? ⟨w.heap.size + 1 + 1, 1, none⟩ = some (.int .i64 a2_Y)) (first | go_keep | (refine ⟨?_, ?_, ?_, ?_, ?_, ?_⟩ <;> assumption)) (first | (go_at_call 40; (first | (with_reducible refine (HT0.out _).mono ?_) | (with_reducible refine (HT1.out _).mono ?_) | (with_reducible refine (HT2.out _).mono ?_) | fail); rintro e wn ⟨rfl, hbn⟩; (first | (have HN1 := Lib.hid (HM.out.drew.step hbn)) | (have HN2 := Lib.hid (HN1.out.step hbn)) | (have HN3 := Lib.hid (HN2.out.step hbn)) | (have HN4 := Lib.hid (HN3.out.step hbn)) | fail); clear hbn; (first | (obtain ⟨⟨x0, x1⟩, ⟨x2, x3⟩, ⟨x4, x5⟩, _, _⟩ := HN4.out) | (obtain ⟨⟨x0, x1⟩, ⟨x2, x3⟩, ⟨x4, x5⟩, _, _⟩ := HN3.out) | (obtain ⟨⟨x0, x1⟩, ⟨x2, x3⟩, ⟨x4, x5⟩, _, _⟩ := HN2.out) | (obtain ⟨⟨x0, x1⟩, ⟨x2, x3⟩, ⟨x4, x5⟩, _, _⟩ := HN1.out) | fail)) | (go_at_call 20; (with_reducible refine (HI.out _).mono ?_); rintro e wn ⟨rfl, hbn⟩; (first | (have HN1 := Lib.hid (HM.out.drew.step hbn)) | (have HN2 := Lib.hid (HN1.out.step hbn)) | (have HN3 := Lib.hid (HN2.out.step hbn)) | (have HN4 := Lib.hid (HN3.out.step hbn)) | fail); clear hbn; (first | (obtain ⟨⟨x0, x1⟩, ⟨x2, x3⟩, ⟨x4, x5⟩, _, _⟩ := HN4.out) | (obtain ⟨⟨x0, x1⟩, ⟨x2, x3⟩, ⟨x4, x5⟩, _, _⟩ := HN3.out) | (obtain ⟨⟨x0, x1⟩, ⟨x2, x3⟩, ⟨x4, x5⟩, _, _⟩ := HN2.out) | (obtain ⟨⟨x0, x1⟩, ⟨x2, x3⟩, ⟨x4, x5⟩, _, _⟩ := HN1.out) | fail)) | fail)
  go_wp2_with fail
  go_ret
  exact ⟨rfl, HN4.out.2.2.2.2⟩

set_option maxRecDepth 100000 in
theorem lifted (os : Os) (started : os.Started) (H : Type) (enc : TypeId × Value → H) :
    ReturnsInHanded {} Try.checked os 11 .any (Rows.fnExactIsBeforeAroundSpec.pre6 enc Try.prog Try.f11 Rows.fnExactIsBeforeAroundRow.domain false) (Rows.fnExactIsBeforeAroundSpec.post enc Try.prog Try.f11 false true false false) := by
  refine returnsInHanded_of_change (C := Try.checked) own started (by kernel_rfl) Try.func11
    (ChangeSpec.witness6 (enc := enc) (C := Try.checked) false ⟨#[], #[.agg #[.int .i64 0, .int .i64 0], .agg #[.int .i64 0, .int .i64 0], .agg #[.int .i64 0, .int .i64 0]], []⟩ 8 (by kernel_rfl) (by kernel_rfl) (by kernel_rfl) (by kernel_rfl)) ?_
  intro W base args ds gs before hval0 hW hcnd _
  have hval : ∀ (j : Nat) t v, Try.f11.params[j]? = some t → args[j]? = some v → Value.okWide Try.prog W .any base t v := hval0
  have hW' := hW
  obtain ⟨p, q, hA0, hV, rfl, hfz, hnd⟩ := hW
  have hA : DataW.TrodAll enc Try.prog W 0 (fun _ => true) true Try.f11.params.toList args.toList ds p := hA0
  rw [Try.params11] at hA hval
  obtain ⟨v0, vs0, d0, ds0, p0, q0, hargs, rfl, rfl, h0, r0⟩ := trodAll_cons hA
  obtain ⟨v1, vs1, d1, ds1, p1, q1, rfl, rfl, rfl, h1, r1⟩ := trodAll_cons r0
  obtain ⟨v2, vs2, d2, ds2, p2, q2, rfl, rfl, rfl, h2, r2⟩ := trodAll_cons r1
  obtain ⟨rfl, rfl, rfl⟩ := trodAll_nil r2
  obtain rfl : args = #[v0, v1, v2] := by cases args; simp_all
  obtain ⟨rfl, rfl⟩ := trodVars_none hV
  have k0 := h0
  have lt0 : ∀ x ∈ p0, x.block < W.heap.size := by obtain ⟨m, hm⟩ := k0; exact DataW.trod_lt m _ _ _ hm
  have k1 := h1
  have lt1 : ∀ x ∈ p1, x.block < W.heap.size := by obtain ⟨m, hm⟩ := k1; exact DataW.trod_lt m _ _ _ hm
  have k2 := h2
  have lt2 : ∀ x ∈ p2, x.block < W.heap.size := by obtain ⟨m, hm⟩ := k2; exact DataW.trod_lt m _ _ _ hm
  obtain ⟨c00, c01, y00, y01, m0, rfl, rfl, rfl, g00, g01⟩ := open_agg2 Try.underlying57 (by kernel_rfl) (by kernel_rfl) (hval 0 57 v0 rfl rfl) h0
  obtain ⟨a0_X, e00, rfl, w0_X⟩ := DataW.trod_int Try.underlying3 g00
  obtain rfl : c00 = .int .i64 a0_X := by simpa using e00
  obtain ⟨a0_Y, e01, rfl, w0_Y⟩ := DataW.trod_int Try.underlying3 g01
  obtain rfl : c01 = .int .i64 a0_Y := by simpa using e01
  obtain ⟨c10, c11, y10, y11, m1, rfl, rfl, rfl, g10, g11⟩ := open_agg2 Try.underlying57 (by kernel_rfl) (by kernel_rfl) (hval 1 57 v1 rfl rfl) h1
  obtain ⟨a1_X, e10, rfl, w1_X⟩ := DataW.trod_int Try.underlying3 g10
  obtain rfl : c10 = .int .i64 a1_X := by simpa using e10
  obtain ⟨a1_Y, e11, rfl, w1_Y⟩ := DataW.trod_int Try.underlying3 g11
  obtain rfl : c11 = .int .i64 a1_Y := by simpa using e11
  obtain ⟨c20, c21, y20, y21, m2, rfl, rfl, rfl, g20, g21⟩ := open_agg2 Try.underlying57 (by kernel_rfl) (by kernel_rfl) (hval 2 57 v2 rfl rfl) h2
  obtain ⟨a2_X, e20, rfl, w2_X⟩ := DataW.trod_int Try.underlying3 g20
  obtain rfl : c20 = .int .i64 a2_X := by simpa using e20
  obtain ⟨a2_Y, e21, rfl, w2_Y⟩ := DataW.trod_int Try.underlying3 g21
  obtain rfl : c21 = .int .i64 a2_Y := by simpa using e21
  clear hA0 hval0
  refine (walk a0_X w0_X a0_Y w0_Y a1_X w1_X a1_Y w1_Y a2_X w2_X a2_Y w2_Y W).mono fun e W' ⟨he, bel⟩ => ?_
  subst he
  exact ⟨_, rfl, _, _, _, [], _, [], hW', trodAll_mk1 (shut_bool Try.underlying4 _), trodAll_cons_mk (Below.trod laidOut (by kernel_rfl) (of_decide_eq_true (by kernel_rfl)) k0 bel lt0) (trodAll_cons_mk (Below.trod laidOut (by kernel_rfl) (of_decide_eq_true (by kernel_rfl)) k1 bel lt1) (trodAll_cons_mk (Below.trod laidOut (by kernel_rfl) (of_decide_eq_true (by kernel_rfl)) k2 bel lt2) (trodAll_mk0))), rfl, bel.frame _, fun h => by cases h⟩

theorem over : Rows.fnExactIsBeforeAroundRow.holds Try.pinned (OpenSpec.ofChange Rows.fnExactIsBeforeAroundSpec) :=
  OpenClaim.holds_of_wide 11 Try.f11 rfl rfl rfl rfl rfl rfl rfl ⟨rfl, rfl, rfl, rfl, rfl⟩ rfl rfl rfl rfl rfl (by kernel_rfl) Try.func11 (by kernel_rfl)
    (of_decide_eq_true (by kernel_rfl)) (by unfold Func.isWrapper; first | (rw [if_pos (by decide +kernel)]; kernel_rfl) | (rw [if_neg (by decide +kernel)]; exact ⟨rfl, rfl⟩))
    (fun os started H enc _ => lifted os started H enc)

/-- THE STATEMENT. -/
theorem proved : Rows.FnExactIsBeforeAroundSaid := over
#print axioms proved
end Go.Proofs.Ytemblmcfbonjoaa.fnExactIsBeforeAround
