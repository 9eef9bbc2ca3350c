/-
  The program's DistanceOf returns, for all arguments, what the model's DistanceOf returns: the law FnExactDistanceOf answers true. No condition.
-/
import Derived.Test.YtghpbdgghliieabRows
import Derived.Test.YtghpbdgghliieabDist
import Derived.WalkKit
import Derived.ProofKit
import Derived.OpenShut
import Derived.ShutString
import Derived.ChangeOld
import Derived.Below
import Derived.Carry
import Derived.Lib.SmallJoins
namespace Go.Proofs.Ytghpbdgghliieab.fnExactDistanceOf
open Go.ChangeShapes Go.WideShapes Go.ChangeAt Go.RowKit Go.Joins
open Go.ChangeMaps (open_string shut_string)
set_option linter.unusedVariables false
set_option linter.unusedSimpArgs false

theorem own : ownKnob Try.prog.godebug = none := by kernel_rfl
theorem laidOut : laidOutB Try.prog = true := by kernel_rfl
set_option maxRecDepth 100000
theorem walk (w : World) (a0_Sand : Int) (w0_Sand : (Lit.int .i64 a0_Sand).wf = true) (a0_Ash : Int) (w0_Ash : (Lit.int .i64 a0_Ash).wf = true) (a0_Lime : Int) (w0_Lime : (Lit.int .i64 a0_Lime).wf = true) (a0_Metal : Int) (w0_Metal : (Lit.int .i64 a0_Metal).wf = true) (a1_Sand : Int) (w1_Sand : (Lit.int .i64 a1_Sand).wf = true) (a1_Ash : Int) (w1_Ash : (Lit.int .i64 a1_Ash).wf = true) (a1_Lime : Int) (w1_Lime : (Lit.int .i64 a1_Lime).wf = true) (a1_Metal : Int) (w1_Metal : (Lit.int .i64 a1_Metal).wf = true) :
    Calls Try.prog 4 #[.agg #[.int .i64 a0_Sand, .int .i64 a0_Ash, .int .i64 a0_Lime, .int .i64 a0_Metal], .agg #[.int .i64 a1_Sand, .int .i64 a1_Ash, .int .i64 a1_Lime, .int .i64 a1_Metal]] w fun e w' => e = .returned (.bool true) ∧ Below w.heap.size w w' := by
  have H0 := Lib.hid (((Held.none_ w).new2 (w.heap.size) (by simp) [.int .i64 a0_Sand, .int .i64 a0_Ash, .int .i64 a0_Lime, .int .i64 a0_Metal] 23).new2 (w.heap.size + 1) (by simp) [.int .i64 a1_Sand, .int .i64 a1_Ash, .int .i64 a1_Lime, .int .i64 a1_Metal] 23)
  simp only [newFs, List.cons_append, List.nil_append, List.append_nil] at H0
  have HT0 := Lib.hid (toRecipe_any ⟨a0_Sand, a0_Ash, a0_Lime, a0_Metal⟩)
  have HT1 := Lib.hid (toRecipe_any ⟨a1_Sand, a1_Ash, a1_Lime, a1_Metal⟩)
  have HS := Lib.hid (specDist ⟨a0_Sand, a0_Ash, a0_Lime, a0_Metal⟩ ⟨a1_Sand, a1_Ash, a1_Lime, a1_Metal⟩)
  have HI := Lib.hid (implDist ⟨a0_Sand, a0_Ash, a0_Lime, a0_Metal⟩ ⟨a1_Sand, a1_Ash, a1_Lime, a1_Metal⟩)
  generalize distI ⟨a0_Sand, a0_Ash, a0_Lime, a0_Metal⟩ ⟨a1_Sand, a1_Ash, a1_Lime, a1_Metal⟩ = r at *
  unfold QdIs Qd.val at HT0
  unfold QdIs Qd.val at HT1
  unfold Qd.val at HS HI
  simp only at HS HI HT0 HT1
  clear w0_Sand w0_Ash w0_Lime w0_Metal w1_Sand w1_Ash w1_Lime w1_Metal
  go_enter Try.func4, Try.ntmps4
  go_wp2_with fail
  refine regionD (S := fun W => Held _ W [(w.heap.size + 1, 0, .int .i64 (a1_Sand)), (w.heap.size + 1, 1, .int .i64 (a1_Ash)), (w.heap.size + 1, 2, .int .i64 (a1_Lime)), (w.heap.size + 1, 3, .int .i64 (a1_Metal)), (w.heap.size, 0, .int .i64 (a0_Sand)), (w.heap.size, 1, .int .i64 (a0_Ash)), (w.heap.size, 2, .int .i64 (a0_Lime)), (w.heap.size, 3, .int .i64 (a0_Metal))]) (by kernel_rfl) H0.out.drew ?_
  iterate 6 (refine takeT (v := ?_) rfl (by kernel_rfl) (by kernel_rfl) (by kernel_rfl) ?_ ?_; rotate_left; (first | (refine Or.inr ⟨by rfl, ?_⟩; with_reducible rfl) | (refine Or.inl ⟨by rfl, fun W hS => detRes_value (w' := W) ?_ hS⟩; obtain ⟨x0, x1, x2, x3, x4, x5, x6, x7, _⟩ := hS.1; go_simp; first | done | with_reducible rfl) | (refine Or.inl ⟨by rfl, fun W hS => ?_⟩; refine detRes_call (w' := W) (f := ?_) (args := ?_) ?_ ?_; rotate_left 2; (go_simp; (refine ⟨?_, ?_⟩ <;> with_reducible rfl)); (first | (with_reducible refine (HT0.out _).mono ?_) | (with_reducible refine (HT1.out _).mono ?_) | (with_reducible refine (HS.out _).mono ?_) | fail); (first | (rintro e wn ⟨rfl, hb⟩; refine ⟨?_, hS.step hb⟩; with_reducible rfl) | (rintro e wn ⟨rfl, rfl⟩; refine ⟨?_, hS⟩; with_reducible rfl) | fail)) | fail); (simp only [Act.put, List.setIfInBounds_toArray, List.set_cons_zero, List.set_cons_succ]))
  refine doneD (by kernel_rfl) fun wH1 HS => ?_
  have H1 := Lib.hid HS; clear HS
  try clear x0 x1 x2 x3 x4 x5 x6 x7
  obtain ⟨x0, x1, x2, x3, x4, x5, x6, x7, _⟩ := H1.out.1
  go_wp2_with fail
  refine regionD (S := fun W => Held _ W [(w.heap.size + 1, 0, .int .i64 (a1_Sand)), (w.heap.size + 1, 1, .int .i64 (a1_Ash)), (w.heap.size + 1, 2, .int .i64 (a1_Lime)), (w.heap.size + 1, 3, .int .i64 (a1_Metal)), (w.heap.size, 0, .int .i64 (a0_Sand)), (w.heap.size, 1, .int .i64 (a0_Ash)), (w.heap.size, 2, .int .i64 (a0_Lime)), (w.heap.size, 3, .int .i64 (a0_Metal))]) (by kernel_rfl) H1.out.drew ?_
  iterate 6 (refine takeT (v := ?_) rfl (by kernel_rfl) (by kernel_rfl) (by kernel_rfl) ?_ ?_; rotate_left; (first | (refine Or.inr ⟨by rfl, ?_⟩; with_reducible rfl) | (refine Or.inl ⟨by rfl, fun W hS => detRes_value (w' := W) ?_ hS⟩; obtain ⟨x0, x1, x2, x3, x4, x5, x6, x7, _⟩ := hS.1; go_simp; first | done | with_reducible rfl) | (refine Or.inl ⟨by rfl, fun W hS => ?_⟩; refine detRes_call (w' := W) (f := ?_) (args := ?_) ?_ ?_; rotate_left 2; (go_simp; (refine ⟨?_, ?_⟩ <;> with_reducible rfl)); (first | (with_reducible refine (HT0.out _).mono ?_) | (with_reducible refine (HT1.out _).mono ?_) | (with_reducible refine (HI.out _).mono ?_) | fail); (first | (rintro e wn ⟨rfl, hb⟩; refine ⟨?_, hS.step hb⟩; with_reducible rfl) | (rintro e wn ⟨rfl, rfl⟩; refine ⟨?_, hS⟩; with_reducible rfl) | fail)) | fail); (simp only [Act.put, List.setIfInBounds_toArray, List.set_cons_zero, List.set_cons_succ]))
  refine doneD (by kernel_rfl) fun wH2 HS => ?_
  have H2 := Lib.hid HS; clear HS
  try clear x0 x1 x2 x3 x4 x5 x6 x7
  obtain ⟨x0, x1, x2, x3, x4, x5, x6, x7, _⟩ := H2.out.1
  go_wp2_with fail
  go_ret
  exact ⟨rfl, H2.out.below⟩

set_option maxRecDepth 100000 in
theorem lifted (os : Os) (started : os.Started) (H : Type) (enc : TypeId × Value → H) :
    ReturnsInHanded {} Try.checked os 4 .any (Rows.fnExactDistanceOfSpec.pre6 enc Try.prog Try.f4 Rows.fnExactDistanceOfRow.domain false) (Rows.fnExactDistanceOfSpec.post enc Try.prog Try.f4 false true false false) := by
  refine returnsInHanded_of_change (C := Try.checked) own started (by kernel_rfl) Try.func4
    (ChangeSpec.witness6 (enc := enc) (C := Try.checked) false ⟨#[], #[.agg #[.int .i64 0, .int .i64 0, .int .i64 0, .int .i64 0], .agg #[.int .i64 0, .int .i64 0, .int .i64 0, .int .i64 0]], []⟩ 8 (by kernel_rfl) (by kernel_rfl) (by kernel_rfl) (by kernel_rfl)) ?_
  intro W base args ds gs before hval0 hW hcnd _
  have hval : ∀ (j : Nat) t v, Try.f4.params[j]? = some t → args[j]? = some v → Value.okWide Try.prog W .any base t v := hval0
  have hW' := hW
  obtain ⟨p, q, hA0, hV, rfl, hfz, hnd⟩ := hW
  have hA : DataW.TrodAll enc Try.prog W 0 (fun _ => true) true Try.f4.params.toList args.toList ds p := hA0
  rw [Try.params4] at hA hval
  obtain ⟨v0, vs0, d0, ds0, p0, q0, hargs, rfl, rfl, h0, r0⟩ := trodAll_cons hA
  obtain ⟨v1, vs1, d1, ds1, p1, q1, rfl, rfl, rfl, h1, r1⟩ := trodAll_cons r0
  obtain ⟨rfl, rfl, rfl⟩ := trodAll_nil r1
  obtain rfl : args = #[v0, v1] := by cases args; simp_all
  obtain ⟨rfl, rfl⟩ := trodVars_none hV
  have k0 := h0
  have lt0 : ∀ x ∈ p0, x.block < W.heap.size := by obtain ⟨m, hm⟩ := k0; exact DataW.trod_lt m _ _ _ hm
  have k1 := h1
  have lt1 : ∀ x ∈ p1, x.block < W.heap.size := by obtain ⟨m, hm⟩ := k1; exact DataW.trod_lt m _ _ _ hm
  obtain ⟨c00, c01, c02, c03, y00, y01, y02, y03, m0, rfl, rfl, rfl, g00, g01, g02, g03⟩ := open_agg4 Try.underlying23 (by kernel_rfl) (by kernel_rfl) (hval 0 23 v0 rfl rfl) h0
  obtain ⟨a0_Sand, e00, rfl, w0_Sand⟩ := DataW.trod_int Try.underlying3 g00
  obtain rfl : c00 = .int .i64 a0_Sand := by simpa using e00
  obtain ⟨a0_Ash, e01, rfl, w0_Ash⟩ := DataW.trod_int Try.underlying3 g01
  obtain rfl : c01 = .int .i64 a0_Ash := by simpa using e01
  obtain ⟨a0_Lime, e02, rfl, w0_Lime⟩ := DataW.trod_int Try.underlying3 g02
  obtain rfl : c02 = .int .i64 a0_Lime := by simpa using e02
  obtain ⟨a0_Metal, e03, rfl, w0_Metal⟩ := DataW.trod_int Try.underlying3 g03
  obtain rfl : c03 = .int .i64 a0_Metal := by simpa using e03
  obtain ⟨c10, c11, c12, c13, y10, y11, y12, y13, m1, rfl, rfl, rfl, g10, g11, g12, g13⟩ := open_agg4 Try.underlying23 (by kernel_rfl) (by kernel_rfl) (hval 1 23 v1 rfl rfl) h1
  obtain ⟨a1_Sand, e10, rfl, w1_Sand⟩ := DataW.trod_int Try.underlying3 g10
  obtain rfl : c10 = .int .i64 a1_Sand := by simpa using e10
  obtain ⟨a1_Ash, e11, rfl, w1_Ash⟩ := DataW.trod_int Try.underlying3 g11
  obtain rfl : c11 = .int .i64 a1_Ash := by simpa using e11
  obtain ⟨a1_Lime, e12, rfl, w1_Lime⟩ := DataW.trod_int Try.underlying3 g12
  obtain rfl : c12 = .int .i64 a1_Lime := by simpa using e12
  obtain ⟨a1_Metal, e13, rfl, w1_Metal⟩ := DataW.trod_int Try.underlying3 g13
  obtain rfl : c13 = .int .i64 a1_Metal := by simpa using e13
  clear hA0 hval0
  refine (walk W a0_Sand w0_Sand a0_Ash w0_Ash a0_Lime w0_Lime a0_Metal w0_Metal a1_Sand w1_Sand a1_Ash w1_Ash a1_Lime w1_Lime a1_Metal w1_Metal).mono fun e W' ⟨he, bel⟩ => ?_
  subst he
  exact ⟨_, rfl, _, _, _, [], _, [], hW', trodAll_mk1 (shut_bool Try.underlying4 _), trodAll_cons_mk (Below.trod laidOut (by kernel_rfl) (of_decide_eq_true (by kernel_rfl)) k0 bel lt0) (trodAll_cons_mk (Below.trod laidOut (by kernel_rfl) (of_decide_eq_true (by kernel_rfl)) k1 bel lt1) (trodAll_mk0)), rfl, bel.frame _, fun h => by cases h⟩

theorem over : Rows.fnExactDistanceOfRow.holds Try.pinned (OpenSpec.ofChange Rows.fnExactDistanceOfSpec) :=
  OpenClaim.holds_of_wide 4 Try.f4 rfl rfl rfl rfl rfl rfl rfl ⟨rfl, rfl, rfl, rfl, rfl⟩ rfl rfl rfl rfl rfl (by kernel_rfl) Try.func4 (by kernel_rfl)
    (of_decide_eq_true (by kernel_rfl)) (by unfold Func.isWrapper; first | (rw [if_pos (by decide +kernel)]; kernel_rfl) | (rw [if_neg (by decide +kernel)]; exact ⟨rfl, rfl⟩))
    (fun os started H enc _ => lifted os started H enc)

/-- THE STATEMENT. -/
theorem proved : Rows.FnExactDistanceOfSaid := over
#print axioms proved
end Go.Proofs.Ytghpbdgghliieab.fnExactDistanceOf
