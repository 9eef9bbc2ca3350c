/-
  The program's CanShare returns, for all arguments, what the model's CanShare returns: the law FnExactCanShare answers true. No condition.
-/
import Derived.Test.YtghpbdgghliieaaRows
import Derived.Test.YtghpbdgghliieaaShare
import Derived.WalkKit
import Derived.ProofKit
import Derived.OpenShut
import Derived.ShutString
import Derived.ChangeOld
import Derived.Below
import Derived.Carry
import Derived.Lib.SmallJoins
namespace Go.Proofs.Ytghpbdgghliieaa.fnExactCanShare
open Go.ChangeShapes Go.WideShapes Go.ChangeAt Go.RowKit Go.Joins
open Go.ChangeMaps (open_string shut_string)
set_option linter.unusedVariables false
set_option linter.unusedSimpArgs false

theorem own : ownKnob Try.prog.godebug = none := by kernel_rfl
theorem laidOut : laidOutB Try.prog = true := by kernel_rfl
set_option maxRecDepth 100000
theorem walk (w : World) (a0_Heat : Int) (w0_Heat : (Lit.int .i64 a0_Heat).wf = true) (a0_Hours : Int) (w0_Hours : (Lit.int .i64 a0_Hours).wf = true) (a0_Room : Int) (w0_Room : (Lit.int .i64 a0_Room).wf = true) (a1_Heat : Int) (w1_Heat : (Lit.int .i64 a1_Heat).wf = true) (a1_Hours : Int) (w1_Hours : (Lit.int .i64 a1_Hours).wf = true) (a1_Room : Int) (w1_Room : (Lit.int .i64 a1_Room).wf = true) :
    Calls Try.prog 3 #[.agg #[.int .i64 a0_Heat, .int .i64 a0_Hours, .int .i64 a0_Room], .agg #[.int .i64 a1_Heat, .int .i64 a1_Hours, .int .i64 a1_Room]] w fun e w' => e = .returned (.bool true) ∧ Below w.heap.size w w' := by
  have H0 := Lib.hid (((Held.none_ w).new2 (w.heap.size) (by simp) [.int .i64 a0_Heat, .int .i64 a0_Hours, .int .i64 a0_Room] 23).new2 (w.heap.size + 1) (by simp) [.int .i64 a1_Heat, .int .i64 a1_Hours, .int .i64 a1_Room] 23)
  simp only [newFs, List.cons_append, List.nil_append, List.append_nil] at H0
  have HT0 := Lib.hid (toFiring_any ⟨a0_Heat, a0_Hours, a0_Room⟩)
  have HT1 := Lib.hid (toFiring_any ⟨a1_Heat, a1_Hours, a1_Room⟩)
  have HS := Lib.hid (specShare ⟨a0_Heat, a0_Hours, a0_Room⟩ ⟨a1_Heat, a1_Hours, a1_Room⟩)
  have HI := Lib.hid (implShare ⟨a0_Heat, a0_Hours, a0_Room⟩ ⟨a1_Heat, a1_Hours, a1_Room⟩)
  generalize fshareB ⟨a0_Heat, a0_Hours, a0_Room⟩ ⟨a1_Heat, a1_Hours, a1_Room⟩ = r at *
  unfold TriIs Tr.val at HT0
  unfold TriIs Tr.val at HT1
  unfold Tr.val at HS HI
  simp only at HS HI HT0 HT1
  clear w0_Heat w0_Hours w0_Room w1_Heat w1_Hours w1_Room
  go_enter Try.func3, Try.ntmps3
  go_wp2_with fail
  refine regionD (S := fun W => Held _ W [(w.heap.size + 1, 0, .int .i64 (a1_Heat)), (w.heap.size + 1, 1, .int .i64 (a1_Hours)), (w.heap.size + 1, 2, .int .i64 (a1_Room)), (w.heap.size, 0, .int .i64 (a0_Heat)), (w.heap.size, 1, .int .i64 (a0_Hours)), (w.heap.size, 2, .int .i64 (a0_Room))]) (by kernel_rfl) H0.out.drew ?_
  iterate 6 (refine takeT (v := ?_) rfl (by kernel_rfl) (by kernel_rfl) (by kernel_rfl) ?_ ?_; rotate_left; (first | (refine Or.inr ⟨by rfl, ?_⟩; with_reducible rfl) | (refine Or.inl ⟨by rfl, fun W hS => detRes_value (w' := W) ?_ hS⟩; obtain ⟨x0, x1, x2, x3, x4, x5, _⟩ := hS.1; go_simp; first | done | with_reducible rfl) | (refine Or.inl ⟨by rfl, fun W hS => ?_⟩; refine detRes_call (w' := W) (f := ?_) (args := ?_) ?_ ?_; rotate_left 2; (go_simp; (refine ⟨?_, ?_⟩ <;> with_reducible rfl)); (first | (with_reducible refine (HT0.out _).mono ?_) | (with_reducible refine (HT1.out _).mono ?_) | (with_reducible refine (HS.out _).mono ?_) | fail); (first | (rintro e wn ⟨rfl, hb⟩; refine ⟨?_, hS.step hb⟩; with_reducible rfl) | (rintro e wn ⟨rfl, rfl⟩; refine ⟨?_, hS⟩; with_reducible rfl) | fail)) | fail); (simp only [Act.put, List.setIfInBounds_toArray, List.set_cons_zero, List.set_cons_succ]))
  refine doneD (by kernel_rfl) fun wH1 HS => ?_
  have H1 := Lib.hid HS; clear HS
  try clear x0 x1 x2 x3 x4 x5
  obtain ⟨x0, x1, x2, x3, x4, x5, _⟩ := H1.out.1
  go_wp2_with fail
  refine regionD (S := fun W => Held _ W [(w.heap.size + 1, 0, .int .i64 (a1_Heat)), (w.heap.size + 1, 1, .int .i64 (a1_Hours)), (w.heap.size + 1, 2, .int .i64 (a1_Room)), (w.heap.size, 0, .int .i64 (a0_Heat)), (w.heap.size, 1, .int .i64 (a0_Hours)), (w.heap.size, 2, .int .i64 (a0_Room))]) (by kernel_rfl) H1.out.drew ?_
  iterate 6 (refine takeT (v := ?_) rfl (by kernel_rfl) (by kernel_rfl) (by kernel_rfl) ?_ ?_; rotate_left; (first | (refine Or.inr ⟨by rfl, ?_⟩; with_reducible rfl) | (refine Or.inl ⟨by rfl, fun W hS => detRes_value (w' := W) ?_ hS⟩; obtain ⟨x0, x1, x2, x3, x4, x5, _⟩ := hS.1; go_simp; first | done | with_reducible rfl) | (refine Or.inl ⟨by rfl, fun W hS => ?_⟩; refine detRes_call (w' := W) (f := ?_) (args := ?_) ?_ ?_; rotate_left 2; (go_simp; (refine ⟨?_, ?_⟩ <;> with_reducible rfl)); (first | (with_reducible refine (HT0.out _).mono ?_) | (with_reducible refine (HT1.out _).mono ?_) | (with_reducible refine (HI.out _).mono ?_) | fail); (first | (rintro e wn ⟨rfl, hb⟩; refine ⟨?_, hS.step hb⟩; with_reducible rfl) | (rintro e wn ⟨rfl, rfl⟩; refine ⟨?_, hS⟩; with_reducible rfl) | fail)) | fail); (simp only [Act.put, List.setIfInBounds_toArray, List.set_cons_zero, List.set_cons_succ]))
  refine doneD (by kernel_rfl) fun wH2 HS => ?_
  have H2 := Lib.hid HS; clear HS
  try clear x0 x1 x2 x3 x4 x5
  obtain ⟨x0, x1, x2, x3, x4, x5, _⟩ := H2.out.1
  go_wp2_with fail
  go_ret
  exact ⟨rfl, H2.out.below⟩

set_option maxRecDepth 100000 in
theorem lifted (os : Os) (started : os.Started) (H : Type) (enc : TypeId × Value → H) :
    ReturnsInHanded {} Try.checked os 3 .any (Rows.fnExactCanShareSpec.pre6 enc Try.prog Try.f3 Rows.fnExactCanShareRow.domain false) (Rows.fnExactCanShareSpec.post enc Try.prog Try.f3 false true false false) := by
  refine returnsInHanded_of_change (C := Try.checked) own started (by kernel_rfl) Try.func3
    (ChangeSpec.witness6 (enc := enc) (C := Try.checked) false ⟨#[], #[.agg #[.int .i64 0, .int .i64 0, .int .i64 0], .agg #[.int .i64 0, .int .i64 0, .int .i64 0]], []⟩ 8 (by kernel_rfl) (by kernel_rfl) (by kernel_rfl) (by kernel_rfl)) ?_
  intro W base args ds gs before hval0 hW hcnd _
  have hval : ∀ (j : Nat) t v, Try.f3.params[j]? = some t → args[j]? = some v → Value.okWide Try.prog W .any base t v := hval0
  have hW' := hW
  obtain ⟨p, q, hA0, hV, rfl, hfz, hnd⟩ := hW
  have hA : DataW.TrodAll enc Try.prog W 0 (fun _ => true) true Try.f3.params.toList args.toList ds p := hA0
  rw [Try.params3] at hA hval
  obtain ⟨v0, vs0, d0, ds0, p0, q0, hargs, rfl, rfl, h0, r0⟩ := trodAll_cons hA
  obtain ⟨v1, vs1, d1, ds1, p1, q1, rfl, rfl, rfl, h1, r1⟩ := trodAll_cons r0
  obtain ⟨rfl, rfl, rfl⟩ := trodAll_nil r1
  obtain rfl : args = #[v0, v1] := by cases args; simp_all
  obtain ⟨rfl, rfl⟩ := trodVars_none hV
  have k0 := h0
  have lt0 : ∀ x ∈ p0, x.block < W.heap.size := by obtain ⟨m, hm⟩ := k0; exact DataW.trod_lt m _ _ _ hm
  have k1 := h1
  have lt1 : ∀ x ∈ p1, x.block < W.heap.size := by obtain ⟨m, hm⟩ := k1; exact DataW.trod_lt m _ _ _ hm
  obtain ⟨c00, c01, c02, y00, y01, y02, m0, rfl, rfl, rfl, g00, g01, g02⟩ := open_agg3 Try.underlying23 (by kernel_rfl) (by kernel_rfl) (hval 0 23 v0 rfl rfl) h0
  obtain ⟨a0_Heat, e00, rfl, w0_Heat⟩ := DataW.trod_int Try.underlying3 g00
  obtain rfl : c00 = .int .i64 a0_Heat := by simpa using e00
  obtain ⟨a0_Hours, e01, rfl, w0_Hours⟩ := DataW.trod_int Try.underlying3 g01
  obtain rfl : c01 = .int .i64 a0_Hours := by simpa using e01
  obtain ⟨a0_Room, e02, rfl, w0_Room⟩ := DataW.trod_int Try.underlying3 g02
  obtain rfl : c02 = .int .i64 a0_Room := by simpa using e02
  obtain ⟨c10, c11, c12, y10, y11, y12, m1, rfl, rfl, rfl, g10, g11, g12⟩ := open_agg3 Try.underlying23 (by kernel_rfl) (by kernel_rfl) (hval 1 23 v1 rfl rfl) h1
  obtain ⟨a1_Heat, e10, rfl, w1_Heat⟩ := DataW.trod_int Try.underlying3 g10
  obtain rfl : c10 = .int .i64 a1_Heat := by simpa using e10
  obtain ⟨a1_Hours, e11, rfl, w1_Hours⟩ := DataW.trod_int Try.underlying3 g11
  obtain rfl : c11 = .int .i64 a1_Hours := by simpa using e11
  obtain ⟨a1_Room, e12, rfl, w1_Room⟩ := DataW.trod_int Try.underlying3 g12
  obtain rfl : c12 = .int .i64 a1_Room := by simpa using e12
  clear hA0 hval0
  refine (walk W a0_Heat w0_Heat a0_Hours w0_Hours a0_Room w0_Room a1_Heat w1_Heat a1_Hours w1_Hours a1_Room w1_Room).mono fun e W' ⟨he, bel⟩ => ?_
  subst he
  exact ⟨_, rfl, _, _, _, [], _, [], hW', trodAll_mk1 (shut_bool Try.underlying4 _), trodAll_cons_mk (Below.trod laidOut (by kernel_rfl) (of_decide_eq_true (by kernel_rfl)) k0 bel lt0) (trodAll_cons_mk (Below.trod laidOut (by kernel_rfl) (of_decide_eq_true (by kernel_rfl)) k1 bel lt1) (trodAll_mk0)), rfl, bel.frame _, fun h => by cases h⟩

theorem over : Rows.fnExactCanShareRow.holds Try.pinned (OpenSpec.ofChange Rows.fnExactCanShareSpec) :=
  OpenClaim.holds_of_wide 3 Try.f3 rfl rfl rfl rfl rfl rfl rfl ⟨rfl, rfl, rfl, rfl, rfl⟩ rfl rfl rfl rfl rfl (by kernel_rfl) Try.func3 (by kernel_rfl)
    (of_decide_eq_true (by kernel_rfl)) (by unfold Func.isWrapper; first | (rw [if_pos (by decide +kernel)]; kernel_rfl) | (rw [if_neg (by decide +kernel)]; exact ⟨rfl, rfl⟩))
    (fun os started H enc _ => lifted os started H enc)

/-- THE STATEMENT. -/
theorem proved : Rows.FnExactCanShareSaid := over
#print axioms proved
end Go.Proofs.Ytghpbdgghliieaa.fnExactCanShare
