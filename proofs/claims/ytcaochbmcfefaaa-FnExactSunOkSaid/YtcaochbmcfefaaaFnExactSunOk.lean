/-
  The program's SunOk returns, for all arguments, what the model's SunOk returns: the law FnExactSunOk answers true. No condition.
-/
import Derived.Test.YtcaochbmcfefaaaRows
import Derived.Test.YtcaochbmcfefaaaSun
import Derived.WalkKit
import Derived.ProofKit
import Derived.OpenShut
import Derived.ShutString
import Derived.ChangeOld
import Derived.Below
import Derived.Carry
import Derived.Lib.SmallJoins
namespace Go.Proofs.Ytcaochbmcfefaaa.fnExactSunOk
open Go.ChangeShapes Go.WideShapes Go.ChangeAt Go.RowKit Go.Joins
open Go.ChangeMaps (open_string shut_string)
set_option linter.unusedVariables false
set_option linter.unusedSimpArgs false

theorem own : ownKnob Try.prog.godebug = none := by kernel_rfl
theorem laidOut : laidOutB Try.prog = true := by kernel_rfl
set_option maxRecDepth 100000
theorem walk (w : World) (a0_Side : Int) (w0_Side : (Lit.int .i64 a0_Side).wf = true) (a0_Fall : Int) (w0_Fall : (Lit.int .i64 a0_Fall).wf = true) (a0_Unit : Int) (w0_Unit : (Lit.int .i64 a0_Unit).wf = true) :
    Calls Try.prog 12 #[.agg #[.int .i64 a0_Side, .int .i64 a0_Fall, .int .i64 a0_Unit]] w fun e w' => e = .returned (.bool true) ∧ Below w.heap.size w w' := by
  have H0 := Lib.hid ((Held.none_ w).new2 (w.heap.size) (by simp) [.int .i64 a0_Side, .int .i64 a0_Fall, .int .i64 a0_Unit] 52)
  simp only [newFs, List.cons_append, List.nil_append, List.append_nil] at H0
  have HT0 := Lib.hid (toSun_any ⟨a0_Side, a0_Fall, a0_Unit⟩)
  have HS := Lib.hid (specSunOk ⟨a0_Side, a0_Fall, a0_Unit⟩)
  have HI := Lib.hid (implSunOk ⟨a0_Side, a0_Fall, a0_Unit⟩)
  generalize sunB ⟨a0_Side, a0_Fall, a0_Unit⟩ = r at *
  unfold TriIs Tr.val at HT0
  unfold Tr.val at HS HI
  simp only at HS HI HT0
  clear w0_Side w0_Fall w0_Unit
  go_enter Try.func12, Try.ntmps12
  go_wp2_with fail
  repeat' (first | ((first | (with_reducible refine (HT0.out _).mono ?_) | (with_reducible refine (HS.out _).mono ?_) | (with_reducible refine (HI.out _).mono ?_) | fail); rintro e wn ⟨rfl, hb⟩; have H0 := Lib.hid (H0.out.step hb); clear hb; (try clear x0 x1 x2); obtain ⟨x0, x1, x2, _⟩ := H0.out.1; go_wp2_with fail) | fail)
  go_ret
  exact ⟨rfl, H0.out.below⟩

set_option maxRecDepth 100000 in
theorem lifted (os : Os) (started : os.Started) (H : Type) (enc : TypeId × Value → H) :
    ReturnsInHanded {} Try.checked os 12 .any (Rows.fnExactSunOkSpec.pre6 enc Try.prog Try.f12 Rows.fnExactSunOkRow.domain false) (Rows.fnExactSunOkSpec.post enc Try.prog Try.f12 false true false false) := by
  refine returnsInHanded_of_change (C := Try.checked) own started (by kernel_rfl) Try.func12
    (ChangeSpec.witness6 (enc := enc) (C := Try.checked) false ⟨#[], #[.agg #[.int .i64 0, .int .i64 0, .int .i64 0]], []⟩ 8 (by kernel_rfl) (by kernel_rfl) (by kernel_rfl) (by kernel_rfl)) ?_
  intro W base args ds gs before hval0 hW hcnd _
  have hval : ∀ (j : Nat) t v, Try.f12.params[j]? = some t → args[j]? = some v → Value.okWide Try.prog W .any base t v := hval0
  have hW' := hW
  obtain ⟨p, q, hA0, hV, rfl, hfz, hnd⟩ := hW
  have hA : DataW.TrodAll enc Try.prog W 0 (fun _ => true) true Try.f12.params.toList args.toList ds p := hA0
  rw [Try.params12] at hA hval
  obtain ⟨v0, vs0, d0, ds0, p0, q0, hargs, rfl, rfl, h0, r0⟩ := trodAll_cons hA
  obtain ⟨rfl, rfl, rfl⟩ := trodAll_nil r0
  obtain rfl : args = #[v0] := by cases args; simp_all
  obtain ⟨rfl, rfl⟩ := trodVars_none hV
  have k0 := h0
  have lt0 : ∀ x ∈ p0, x.block < W.heap.size := by obtain ⟨m, hm⟩ := k0; exact DataW.trod_lt m _ _ _ hm
  obtain ⟨c00, c01, c02, y00, y01, y02, m0, rfl, rfl, rfl, g00, g01, g02⟩ := open_agg3 Try.underlying52 (by kernel_rfl) (by kernel_rfl) (hval 0 52 v0 rfl rfl) h0
  obtain ⟨a0_Side, e00, rfl, w0_Side⟩ := DataW.trod_int Try.underlying3 g00
  obtain rfl : c00 = .int .i64 a0_Side := by simpa using e00
  obtain ⟨a0_Fall, e01, rfl, w0_Fall⟩ := DataW.trod_int Try.underlying3 g01
  obtain rfl : c01 = .int .i64 a0_Fall := by simpa using e01
  obtain ⟨a0_Unit, e02, rfl, w0_Unit⟩ := DataW.trod_int Try.underlying3 g02
  obtain rfl : c02 = .int .i64 a0_Unit := by simpa using e02
  clear hA0 hval0
  refine (walk W a0_Side w0_Side a0_Fall w0_Fall a0_Unit w0_Unit).mono fun e W' ⟨he, bel⟩ => ?_
  subst he
  exact ⟨_, rfl, _, _, _, [], _, [], hW', trodAll_mk1 (shut_bool Try.underlying4 _), trodAll_cons_mk (Below.trod laidOut (by kernel_rfl) (of_decide_eq_true (by kernel_rfl)) k0 bel lt0) (trodAll_mk0), rfl, bel.frame _, fun h => by cases h⟩

theorem over : Rows.fnExactSunOkRow.holds Try.pinned (OpenSpec.ofChange Rows.fnExactSunOkSpec) :=
  OpenClaim.holds_of_wide 12 Try.f12 rfl rfl rfl rfl rfl rfl rfl ⟨rfl, rfl, rfl, rfl, rfl⟩ rfl rfl rfl rfl rfl (by kernel_rfl) Try.func12 (by kernel_rfl)
    (of_decide_eq_true (by kernel_rfl)) (by unfold Func.isWrapper; first | (rw [if_pos (by decide +kernel)]; kernel_rfl) | (rw [if_neg (by decide +kernel)]; exact ⟨rfl, rfl⟩))
    (fun os started H enc _ => lifted os started H enc)

/-- THE STATEMENT. -/
theorem proved : Rows.FnExactSunOkSaid := over
#print axioms proved
end Go.Proofs.Ytcaochbmcfefaaa.fnExactSunOk
