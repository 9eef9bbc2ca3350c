/-
  The program's IsInRoom returns, for all arguments, what the model's IsInRoom returns: the law FnExactIsInRoom answers true. No condition.
-/
import Derived.Test.YtghpbdgghliieaaRows
import Derived.Test.YtghpbdgghliieaaSpot
import Derived.Test.YtghpbdgghliieaaLawN
import Derived.WalkKit
import Derived.ProofKit
import Derived.OpenShut
import Derived.ShutString
import Derived.ChangeOld
import Derived.Below
import Derived.Carry
import Derived.Lib.SmallJoins
namespace Go.Proofs.Ytghpbdgghliieaa.fnExactIsInRoom
open Go.ChangeShapes Go.WideShapes Go.ChangeAt Go.RowKit Go.Joins
open Go.ChangeMaps (open_string shut_string)
set_option linter.unusedVariables false
set_option linter.unusedSimpArgs false

theorem own : ownKnob Try.prog.godebug = none := by kernel_rfl
theorem laidOut : laidOutB Try.prog = true := by kernel_rfl
set_option maxRecDepth 100000
theorem walk (w : World) (a0_X : Int) (w0_X : (Lit.int .i64 a0_X).wf = true) (a0_Y : Int) (w0_Y : (Lit.int .i64 a0_Y).wf = true) (a1 : Int) (w1 : (Lit.int .i64 a1).wf = true) (a2_Side : Int) (w2_Side : (Lit.int .i64 a2_Side).wf = true) (a2_Fall : Int) (w2_Fall : (Lit.int .i64 a2_Fall).wf = true) (a2_Unit : Int) (w2_Unit : (Lit.int .i64 a2_Unit).wf = true) (a3 : Int) (w3 : (Lit.int .i64 a3).wf = true) :
    Calls Try.prog 8 #[.agg #[.int .i64 a0_X, .int .i64 a0_Y], .int .i64 a1, .agg #[.int .i64 a2_Side, .int .i64 a2_Fall, .int .i64 a2_Unit], .int .i64 a3] w fun e w' => e = .returned (.bool true) ∧ Below w.heap.size w w' := by
  have H0 := Lib.hid (((Held.none_ w).new2 (w.heap.size) (by simp) [.int .i64 a0_X, .int .i64 a0_Y] 39).new2 (w.heap.size + 1) (by simp) [.int .i64 a2_Side, .int .i64 a2_Fall, .int .i64 a2_Unit] 41)
  simp only [newFs, List.cons_append, List.nil_append, List.append_nil] at H0
  have HT0 := Lib.hid (toNode_any ⟨a0_X, a0_Y⟩)
  have HT2 := Lib.hid (toSun_any ⟨a2_Side, a2_Fall, a2_Unit⟩)
  have HS := Lib.hid (specRoom ⟨a0_X, a0_Y⟩ a1 ⟨a2_Side, a2_Fall, a2_Unit⟩ a3)
  have HI := Lib.hid (implRoom ⟨a0_X, a0_Y⟩ a1 ⟨a2_Side, a2_Fall, a2_Unit⟩ a3)
  generalize roomB ⟨a0_X, a0_Y⟩ a1 ⟨a2_Side, a2_Fall, a2_Unit⟩ a3 = r at *
  unfold NodeIs Nd.val at HT0
  unfold TriIs Tr.val at HT2
  unfold Tr.val Nd.val at HS HI
  simp only at HS HI HT0 HT2
  clear w0_X w0_Y w1 w2_Side w2_Fall w2_Unit w3
  go_enter Try.func8, Try.ntmps8
  go_wp2_with fail
  refine regionD (S := fun W => Held _ W [(w.heap.size + 1, 0, .int .i64 (a2_Side)), (w.heap.size + 1, 1, .int .i64 (a2_Fall)), (w.heap.size + 1, 2, .int .i64 (a2_Unit)), (w.heap.size, 0, .int .i64 (a0_X)), (w.heap.size, 1, .int .i64 (a0_Y))]) (by kernel_rfl) H0.out.drew ?_
  iterate 8 (refine takeT (v := ?_) rfl (by kernel_rfl) (by kernel_rfl) (by kernel_rfl) ?_ ?_; rotate_left; (first | (refine Or.inr ⟨by rfl, ?_⟩; with_reducible rfl) | (refine Or.inl ⟨by rfl, fun W hS => detRes_value (w' := W) ?_ hS⟩; obtain ⟨x0, x1, x2, x3, x4, _⟩ := hS.1; go_simp; first | done | with_reducible rfl) | (refine Or.inl ⟨by rfl, fun W hS => ?_⟩; refine detRes_call (w' := W) (f := ?_) (args := ?_) ?_ ?_; rotate_left 2; (go_simp; (refine ⟨?_, ?_⟩ <;> with_reducible rfl)); (first | (with_reducible refine (HT0.out _).mono ?_) | (with_reducible refine (HT2.out _).mono ?_) | (with_reducible refine (HS.out _).mono ?_) | fail); (first | (rintro e wn ⟨rfl, hb⟩; refine ⟨?_, hS.step hb⟩; with_reducible rfl) | (rintro e wn ⟨rfl, rfl⟩; refine ⟨?_, hS⟩; with_reducible rfl) | fail)) | fail); (simp only [Act.put, List.setIfInBounds_toArray, List.set_cons_zero, List.set_cons_succ]))
  refine doneD (by kernel_rfl) fun wH1 HS => ?_
  have H1 := Lib.hid HS; clear HS
  try clear x0 x1 x2 x3 x4
  obtain ⟨x0, x1, x2, x3, x4, _⟩ := H1.out.1
  go_wp2_with fail
  refine regionD (S := fun W => Held _ W [(w.heap.size + 1, 0, .int .i64 (a2_Side)), (w.heap.size + 1, 1, .int .i64 (a2_Fall)), (w.heap.size + 1, 2, .int .i64 (a2_Unit)), (w.heap.size, 0, .int .i64 (a0_X)), (w.heap.size, 1, .int .i64 (a0_Y))]) (by kernel_rfl) H1.out.drew ?_
  iterate 8 (refine takeT (v := ?_) rfl (by kernel_rfl) (by kernel_rfl) (by kernel_rfl) ?_ ?_; rotate_left; (first | (refine Or.inr ⟨by rfl, ?_⟩; with_reducible rfl) | (refine Or.inl ⟨by rfl, fun W hS => detRes_value (w' := W) ?_ hS⟩; obtain ⟨x0, x1, x2, x3, x4, _⟩ := hS.1; go_simp; first | done | with_reducible rfl) | (refine Or.inl ⟨by rfl, fun W hS => ?_⟩; refine detRes_call (w' := W) (f := ?_) (args := ?_) ?_ ?_; rotate_left 2; (go_simp; (refine ⟨?_, ?_⟩ <;> with_reducible rfl)); (first | (with_reducible refine (HT0.out _).mono ?_) | (with_reducible refine (HT2.out _).mono ?_) | (with_reducible refine (HI.out _).mono ?_) | fail); (first | (rintro e wn ⟨rfl, hb⟩; refine ⟨?_, hS.step hb⟩; with_reducible rfl) | (rintro e wn ⟨rfl, rfl⟩; refine ⟨?_, hS⟩; with_reducible rfl) | fail)) | fail); (simp only [Act.put, List.setIfInBounds_toArray, List.set_cons_zero, List.set_cons_succ]))
  refine doneD (by kernel_rfl) fun wH2 HS => ?_
  have H2 := Lib.hid HS; clear HS
  try clear x0 x1 x2 x3 x4
  obtain ⟨x0, x1, x2, x3, x4, _⟩ := H2.out.1
  go_wp2_with fail
  go_ret
  exact ⟨rfl, H2.out.below⟩

set_option maxRecDepth 100000 in
theorem lifted (os : Os) (started : os.Started) (H : Type) (enc : TypeId × Value → H) :
    ReturnsInHanded {} Try.checked os 8 .any (Rows.fnExactIsInRoomSpec.pre6 enc Try.prog Try.f8 Rows.fnExactIsInRoomRow.domain false) (Rows.fnExactIsInRoomSpec.post enc Try.prog Try.f8 false true false false) := by
  refine returnsInHanded_of_change (C := Try.checked) own started (by kernel_rfl) Try.func8
    (ChangeSpec.witness6 (enc := enc) (C := Try.checked) false ⟨#[], #[.agg #[.int .i64 0, .int .i64 0], .int .i64 0, .agg #[.int .i64 0, .int .i64 0, .int .i64 0], .int .i64 0], []⟩ 8 (by kernel_rfl) (by kernel_rfl) (by kernel_rfl) (by kernel_rfl)) ?_
  intro W base args ds gs before hval0 hW hcnd _
  have hval : ∀ (j : Nat) t v, Try.f8.params[j]? = some t → args[j]? = some v → Value.okWide Try.prog W .any base t v := hval0
  have hW' := hW
  obtain ⟨p, q, hA0, hV, rfl, hfz, hnd⟩ := hW
  have hA : DataW.TrodAll enc Try.prog W 0 (fun _ => true) true Try.f8.params.toList args.toList ds p := hA0
  rw [Try.params8] at hA hval
  obtain ⟨v0, vs0, d0, ds0, p0, q0, hargs, rfl, rfl, h0, r0⟩ := trodAll_cons hA
  obtain ⟨v1, vs1, d1, ds1, p1, q1, rfl, rfl, rfl, h1, r1⟩ := trodAll_cons r0
  obtain ⟨v2, vs2, d2, ds2, p2, q2, rfl, rfl, rfl, h2, r2⟩ := trodAll_cons r1
  obtain ⟨v3, vs3, d3, ds3, p3, q3, rfl, rfl, rfl, h3, r3⟩ := trodAll_cons r2
  obtain ⟨rfl, rfl, rfl⟩ := trodAll_nil r3
  obtain rfl : args = #[v0, v1, v2, v3] := by cases args; simp_all
  obtain ⟨rfl, rfl⟩ := trodVars_none hV
  have k0 := h0
  have lt0 : ∀ x ∈ p0, x.block < W.heap.size := by obtain ⟨m, hm⟩ := k0; exact DataW.trod_lt m _ _ _ hm
  have k1 := h1
  have lt1 : ∀ x ∈ p1, x.block < W.heap.size := by obtain ⟨m, hm⟩ := k1; exact DataW.trod_lt m _ _ _ hm
  have k2 := h2
  have lt2 : ∀ x ∈ p2, x.block < W.heap.size := by obtain ⟨m, hm⟩ := k2; exact DataW.trod_lt m _ _ _ hm
  have k3 := h3
  have lt3 : ∀ x ∈ p3, x.block < W.heap.size := by obtain ⟨m, hm⟩ := k3; exact DataW.trod_lt m _ _ _ hm
  obtain ⟨c00, c01, y00, y01, m0, rfl, rfl, rfl, g00, g01⟩ := open_agg2 Try.underlying39 (by kernel_rfl) (by kernel_rfl) (hval 0 39 v0 rfl rfl) h0
  obtain ⟨a0_X, e00, rfl, w0_X⟩ := DataW.trod_int Try.underlying3 g00
  obtain rfl : c00 = .int .i64 a0_X := by simpa using e00
  obtain ⟨a0_Y, e01, rfl, w0_Y⟩ := DataW.trod_int Try.underlying3 g01
  obtain rfl : c01 = .int .i64 a0_Y := by simpa using e01
  obtain ⟨a1, rfl, rfl, rfl, w1⟩ := open_int Try.underlying3 (hval 1 3 v1 rfl rfl) h1
  obtain ⟨c20, c21, c22, y20, y21, y22, m2, rfl, rfl, rfl, g20, g21, g22⟩ := open_agg3 Try.underlying41 (by kernel_rfl) (by kernel_rfl) (hval 2 41 v2 rfl rfl) h2
  obtain ⟨a2_Side, e20, rfl, w2_Side⟩ := DataW.trod_int Try.underlying3 g20
  obtain rfl : c20 = .int .i64 a2_Side := by simpa using e20
  obtain ⟨a2_Fall, e21, rfl, w2_Fall⟩ := DataW.trod_int Try.underlying3 g21
  obtain rfl : c21 = .int .i64 a2_Fall := by simpa using e21
  obtain ⟨a2_Unit, e22, rfl, w2_Unit⟩ := DataW.trod_int Try.underlying3 g22
  obtain rfl : c22 = .int .i64 a2_Unit := by simpa using e22
  obtain ⟨a3, rfl, rfl, rfl, w3⟩ := open_int Try.underlying3 (hval 3 3 v3 rfl rfl) h3
  clear hA0 hval0
  refine (walk W a0_X w0_X a0_Y w0_Y a1 w1 a2_Side w2_Side a2_Fall w2_Fall a2_Unit w2_Unit a3 w3).mono fun e W' ⟨he, bel⟩ => ?_
  subst he
  exact ⟨_, rfl, _, _, _, [], _, [], hW', trodAll_mk1 (shut_bool Try.underlying4 _), trodAll_cons_mk (Below.trod laidOut (by kernel_rfl) (of_decide_eq_true (by kernel_rfl)) k0 bel lt0) (trodAll_cons_mk (Below.trod laidOut (by kernel_rfl) (of_decide_eq_true (by kernel_rfl)) k1 bel lt1) (trodAll_cons_mk (Below.trod laidOut (by kernel_rfl) (of_decide_eq_true (by kernel_rfl)) k2 bel lt2) (trodAll_cons_mk (Below.trod laidOut (by kernel_rfl) (of_decide_eq_true (by kernel_rfl)) k3 bel lt3) (trodAll_mk0)))), rfl, bel.frame _, fun h => by cases h⟩

theorem over : Rows.fnExactIsInRoomRow.holds Try.pinned (OpenSpec.ofChange Rows.fnExactIsInRoomSpec) :=
  OpenClaim.holds_of_wide 8 Try.f8 rfl rfl rfl rfl rfl rfl rfl ⟨rfl, rfl, rfl, rfl, rfl⟩ rfl rfl rfl rfl rfl (by kernel_rfl) Try.func8 (by kernel_rfl)
    (of_decide_eq_true (by kernel_rfl)) (by unfold Func.isWrapper; first | (rw [if_pos (by decide +kernel)]; kernel_rfl) | (rw [if_neg (by decide +kernel)]; exact ⟨rfl, rfl⟩))
    (fun os started H enc _ => lifted os started H enc)

/-- THE STATEMENT. -/
theorem proved : Rows.FnExactIsInRoomSaid := over
#print axioms proved
end Go.Proofs.Ytghpbdgghliieaa.fnExactIsInRoom
