/-
  The program's SheetOk returns, for every sheet, what the model's SheetOk returns: the law FnExactSheetOk answers true. No condition.
-/
import Derived.Test.YtcaochbmcfefaaaRows
import Derived.Test.YtcaochbmcfefaaaShe
import Derived.WalkKit
import Derived.ProofKit
import Derived.OpenShut
import Derived.ShutString
import Derived.ChangeOld
import Derived.Below
import Derived.Carry
import Derived.Lib.SmallJoins
namespace Go.Proofs.Ytcaochbmcfefaaa.fnExactSheetOk
open Go.ChangeShapes Go.WideShapes Go.ChangeAt Go.RowKit Go.Joins
open Go.ChangeMaps (open_string shut_string)
set_option linter.unusedVariables false
set_option linter.unusedSimpArgs false

theorem own : ownKnob Try.prog.godebug = none := by kernel_rfl
theorem laidOut : laidOutB Try.prog = true := by kernel_rfl
set_option maxRecDepth 100000
theorem walk (w : World) (a0_Width : Int) (w0_Width : (Lit.int .i64 a0_Width).wf = true) (a0_Height : Int) (w0_Height : (Lit.int .i64 a0_Height).wf = true) :
    Calls Try.prog 3 #[.agg #[.int .i64 a0_Width, .int .i64 a0_Height]] w fun e w' => e = .returned (.bool true) ∧ Below w.heap.size w w' := by
  have H0 := Lib.hid (held1 w ⟨a0_Width, a0_Height⟩ 23)
  have HT := Lib.hid (toSheet_any ⟨a0_Width, a0_Height⟩)
  have HS := Lib.hid (specSheetOk ⟨a0_Width, a0_Height⟩)
  have HI := Lib.hid (implSheetOk ⟨a0_Width, a0_Height⟩)
  generalize shB ⟨a0_Width, a0_Height⟩ = r at *
  unfold PairIs Nd.val at HT
  unfold Nd.val at HS HI
  simp only at H0 HT HS HI
  clear w0_Width w0_Height
  go_enter Try.func3, Try.ntmps3
  go_wp2_with fail
  repeat' (first | ((first | (with_reducible refine (HT.out _).mono ?_) | (with_reducible refine (HS.out _).mono ?_) | (with_reducible refine (HI.out _).mono ?_) | fail); rintro e wn ⟨rfl, hb⟩; have H0 := Lib.hid (H0.out.step hb); clear hb; (try clear x0 x1); obtain ⟨x0, x1, _⟩ := H0.out.1; go_wp2_with fail) | fail)
  go_ret
  exact ⟨rfl, H0.out.below⟩

set_option maxRecDepth 100000 in
theorem lifted (os : Os) (started : os.Started) (H : Type) (enc : TypeId × Value → H) :
    ReturnsInHanded {} Try.checked os 3 .any (Rows.fnExactSheetOkSpec.pre6 enc Try.prog Try.f3 Rows.fnExactSheetOkRow.domain false) (Rows.fnExactSheetOkSpec.post enc Try.prog Try.f3 false true false false) := by
  refine returnsInHanded_of_change (C := Try.checked) own started (by kernel_rfl) Try.func3
    (ChangeSpec.witness6 (enc := enc) (C := Try.checked) false ⟨#[], #[.agg #[.int .i64 0, .int .i64 0]], []⟩ 8 (by kernel_rfl) (by kernel_rfl) (by kernel_rfl) (by kernel_rfl)) ?_
  intro W base args ds gs before hval0 hW hcnd _
  have hval : ∀ (j : Nat) t v, Try.f3.params[j]? = some t → args[j]? = some v → Value.okWide Try.prog W .any base t v := hval0
  have hW' := hW
  obtain ⟨p, q, hA0, hV, rfl, hfz, hnd⟩ := hW
  have hA : DataW.TrodAll enc Try.prog W 0 (fun _ => true) true Try.f3.params.toList args.toList ds p := hA0
  rw [Try.params3] at hA hval
  obtain ⟨v0, vs0, d0, ds0, p0, q0, hargs, rfl, rfl, h0, r0⟩ := trodAll_cons hA
  obtain ⟨rfl, rfl, rfl⟩ := trodAll_nil r0
  obtain rfl : args = #[v0] := by cases args; simp_all
  obtain ⟨rfl, rfl⟩ := trodVars_none hV
  have k0 := h0
  have lt0 : ∀ x ∈ p0, x.block < W.heap.size := by obtain ⟨m, hm⟩ := k0; exact DataW.trod_lt m _ _ _ hm
  obtain ⟨c00, c01, y00, y01, m0, rfl, rfl, rfl, g00, g01⟩ := open_agg2 Try.underlying23 (by kernel_rfl) (by kernel_rfl) (hval 0 23 v0 rfl rfl) h0
  obtain ⟨a0_Width, e00, rfl, w0_Width⟩ := DataW.trod_int Try.underlying3 g00
  obtain rfl : c00 = .int .i64 a0_Width := by simpa using e00
  obtain ⟨a0_Height, e01, rfl, w0_Height⟩ := DataW.trod_int Try.underlying3 g01
  obtain rfl : c01 = .int .i64 a0_Height := by simpa using e01
  clear hA0 hval0
  refine (walk W a0_Width w0_Width a0_Height w0_Height).mono fun e W' ⟨he, bel⟩ => ?_
  subst he
  exact ⟨_, rfl, _, _, _, [], _, [], hW', trodAll_mk1 (shut_bool Try.underlying4 _), trodAll_cons_mk (Below.trod laidOut (by kernel_rfl) (of_decide_eq_true (by kernel_rfl)) k0 bel lt0) (trodAll_mk0), rfl, bel.frame _, fun h => by cases h⟩

theorem over : Rows.fnExactSheetOkRow.holds Try.pinned (OpenSpec.ofChange Rows.fnExactSheetOkSpec) :=
  OpenClaim.holds_of_wide 3 Try.f3 rfl rfl rfl rfl rfl rfl rfl ⟨rfl, rfl, rfl, rfl, rfl⟩ rfl rfl rfl rfl rfl (by kernel_rfl) Try.func3 (by kernel_rfl)
    (of_decide_eq_true (by kernel_rfl)) (by unfold Func.isWrapper; first | (rw [if_pos (by decide +kernel)]; kernel_rfl) | (rw [if_neg (by decide +kernel)]; exact ⟨rfl, rfl⟩))
    (fun os started H enc _ => lifted os started H enc)

/-- THE STATEMENT. -/
theorem proved : Rows.FnExactSheetOkSaid := over
#print axioms proved
end Go.Proofs.Ytcaochbmcfefaaa.fnExactSheetOk
