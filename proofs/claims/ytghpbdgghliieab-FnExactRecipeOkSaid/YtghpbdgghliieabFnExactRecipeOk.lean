/-
  The program's RecipeOk returns, for all arguments, what the model's RecipeOk returns: the law FnExactRecipeOk answers true. No condition.
-/
import Derived.Test.YtghpbdgghliieabRows
import Derived.Test.YtghpbdgghliieabRec
import Derived.WalkKit
import Derived.ProofKit
import Derived.OpenShut
import Derived.ShutString
import Derived.ChangeOld
import Derived.Below
import Derived.Carry
import Derived.Lib.SmallJoins
namespace Go.Proofs.Ytghpbdgghliieab.fnExactRecipeOk
open Go.ChangeShapes Go.WideShapes Go.ChangeAt Go.RowKit Go.Joins
open Go.ChangeMaps (open_string shut_string)
set_option linter.unusedVariables false
set_option linter.unusedSimpArgs false

theorem own : ownKnob Try.prog.godebug = none := by kernel_rfl
theorem laidOut : laidOutB Try.prog = true := by kernel_rfl
set_option maxRecDepth 100000
theorem walk (w : World) (a0_Sand : Int) (w0_Sand : (Lit.int .i64 a0_Sand).wf = true) (a0_Ash : Int) (w0_Ash : (Lit.int .i64 a0_Ash).wf = true) (a0_Lime : Int) (w0_Lime : (Lit.int .i64 a0_Lime).wf = true) (a0_Metal : Int) (w0_Metal : (Lit.int .i64 a0_Metal).wf = true) :
    Calls Try.prog 3 #[.agg #[.int .i64 a0_Sand, .int .i64 a0_Ash, .int .i64 a0_Lime, .int .i64 a0_Metal]] w fun e w' => e = .returned (.bool true) ∧ Below w.heap.size w w' := by
  have H0 := Lib.hid ((Held.none_ w).new2 (w.heap.size) (by simp) [.int .i64 a0_Sand, .int .i64 a0_Ash, .int .i64 a0_Lime, .int .i64 a0_Metal] 23)
  simp only [newFs, List.cons_append, List.nil_append, List.append_nil] at H0
  have HT0 := Lib.hid (toRecipe_any ⟨a0_Sand, a0_Ash, a0_Lime, a0_Metal⟩)
  have HS := Lib.hid (specRecipe ⟨a0_Sand, a0_Ash, a0_Lime, a0_Metal⟩)
  have HI := Lib.hid (implRecipeOk ⟨a0_Sand, a0_Ash, a0_Lime, a0_Metal⟩)
  generalize recB ⟨a0_Sand, a0_Ash, a0_Lime, a0_Metal⟩ = r at *
  unfold QdIs Qd.val at HT0
  unfold Qd.val at HS HI
  simp only at HS HI HT0
  clear w0_Sand w0_Ash w0_Lime w0_Metal
  go_enter Try.func3, Try.ntmps3
  go_wp2_with fail
  repeat' (first | ((first | (with_reducible refine (HT0.out _).mono ?_) | (with_reducible refine (HS.out _).mono ?_) | (with_reducible refine (HI.out _).mono ?_) | fail); rintro e wn ⟨rfl, hb⟩; have H0 := Lib.hid (H0.out.step hb); clear hb; (try clear x0 x1 x2 x3); obtain ⟨x0, x1, x2, x3, _⟩ := H0.out.1; go_wp2_with fail) | fail)
  go_ret
  exact ⟨rfl, H0.out.below⟩

set_option maxRecDepth 100000 in
theorem lifted (os : Os) (started : os.Started) (H : Type) (enc : TypeId × Value → H) :
    ReturnsInHanded {} Try.checked os 3 .any (Rows.fnExactRecipeOkSpec.pre6 enc Try.prog Try.f3 Rows.fnExactRecipeOkRow.domain false) (Rows.fnExactRecipeOkSpec.post enc Try.prog Try.f3 false true false false) := by
  refine returnsInHanded_of_change (C := Try.checked) own started (by kernel_rfl) Try.func3
    (ChangeSpec.witness6 (enc := enc) (C := Try.checked) false ⟨#[], #[.agg #[.int .i64 0, .int .i64 0, .int .i64 0, .int .i64 0]], []⟩ 8 (by kernel_rfl) (by kernel_rfl) (by kernel_rfl) (by kernel_rfl)) ?_
  intro W base args ds gs before hval0 hW hcnd _
  have hval : ∀ (j : Nat) t v, Try.f3.params[j]? = some t → args[j]? = some v → Value.okWide Try.prog W .any base t v := hval0
  have hW' := hW
  obtain ⟨p, q, hA0, hV, rfl, hfz, hnd⟩ := hW
  have hA : DataW.TrodAll enc Try.prog W 0 (fun _ => true) true Try.f3.params.toList args.toList ds p := hA0
  rw [Try.params3] at hA hval
  obtain ⟨v0, vs0, d0, ds0, p0, q0, hargs, rfl, rfl, h0, r0⟩ := trodAll_cons hA
  obtain ⟨rfl, rfl, rfl⟩ := trodAll_nil r0
  obtain rfl : args = #[v0] := by cases args; simp_all
  obtain ⟨rfl, rfl⟩ := trodVars_none hV
  have k0 := h0
  have lt0 : ∀ x ∈ p0, x.block < W.heap.size := by obtain ⟨m, hm⟩ := k0; exact DataW.trod_lt m _ _ _ hm
  obtain ⟨c00, c01, c02, c03, y00, y01, y02, y03, m0, rfl, rfl, rfl, g00, g01, g02, g03⟩ := open_agg4 Try.underlying23 (by kernel_rfl) (by kernel_rfl) (hval 0 23 v0 rfl rfl) h0
  obtain ⟨a0_Sand, e00, rfl, w0_Sand⟩ := DataW.trod_int Try.underlying3 g00
  obtain rfl : c00 = .int .i64 a0_Sand := by simpa using e00
  obtain ⟨a0_Ash, e01, rfl, w0_Ash⟩ := DataW.trod_int Try.underlying3 g01
  obtain rfl : c01 = .int .i64 a0_Ash := by simpa using e01
  obtain ⟨a0_Lime, e02, rfl, w0_Lime⟩ := DataW.trod_int Try.underlying3 g02
  obtain rfl : c02 = .int .i64 a0_Lime := by simpa using e02
  obtain ⟨a0_Metal, e03, rfl, w0_Metal⟩ := DataW.trod_int Try.underlying3 g03
  obtain rfl : c03 = .int .i64 a0_Metal := by simpa using e03
  clear hA0 hval0
  refine (walk W a0_Sand w0_Sand a0_Ash w0_Ash a0_Lime w0_Lime a0_Metal w0_Metal).mono fun e W' ⟨he, bel⟩ => ?_
  subst he
  exact ⟨_, rfl, _, _, _, [], _, [], hW', trodAll_mk1 (shut_bool Try.underlying4 _), trodAll_cons_mk (Below.trod laidOut (by kernel_rfl) (of_decide_eq_true (by kernel_rfl)) k0 bel lt0) (trodAll_mk0), rfl, bel.frame _, fun h => by cases h⟩

theorem over : Rows.fnExactRecipeOkRow.holds Try.pinned (OpenSpec.ofChange Rows.fnExactRecipeOkSpec) :=
  OpenClaim.holds_of_wide 3 Try.f3 rfl rfl rfl rfl rfl rfl rfl ⟨rfl, rfl, rfl, rfl, rfl⟩ rfl rfl rfl rfl rfl (by kernel_rfl) Try.func3 (by kernel_rfl)
    (of_decide_eq_true (by kernel_rfl)) (by unfold Func.isWrapper; first | (rw [if_pos (by decide +kernel)]; kernel_rfl) | (rw [if_neg (by decide +kernel)]; exact ⟨rfl, rfl⟩))
    (fun os started H enc _ => lifted os started H enc)

/-- THE STATEMENT. -/
theorem proved : Rows.FnExactRecipeOkSaid := over
#print axioms proved
end Go.Proofs.Ytghpbdgghliieab.fnExactRecipeOk
