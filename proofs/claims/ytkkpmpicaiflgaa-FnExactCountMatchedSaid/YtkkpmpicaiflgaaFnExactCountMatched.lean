/-
  The program's CountMatched returns, for all arguments, what the model's CountMatched returns, and leaves the list as it is: the law FnExactCountMatched answers true. No condition.
-/
import Derived.Test.YtkkpmpicaiflgaaRows
import Derived.Test.YtkkpmpicaiflgaaCntM
import Derived.WalkKit
import Derived.ProofKit
import Derived.OpenShut
import Derived.ShutString
import Derived.ChangeOld
import Derived.Below
import Derived.Carry
import Derived.Lib.SmallJoins
namespace Go.Proofs.Ytkkpmpicaiflgaa.fnExactCountMatched
open Go.ChangeShapes Go.WideShapes Go.ChangeAt Go.RowKit Go.Joins
open Go.ChangeMaps (open_string shut_string)
set_option linter.unusedVariables false
set_option linter.unusedSimpArgs false

theorem own : ownKnob Try.prog.godebug = none := by kernel_rfl
theorem laidOut : laidOutB Try.prog = true := by kernel_rfl
set_option maxRecDepth 100000
theorem walk (w : World) (a0 : Value) (xs0 : List Int) (w0 : Seq w a0 xs0) :
    Calls Try.prog 5 #[a0] w fun e w' => e = .returned (.bool true) ∧ Below w.heap.size w w' := by
  have HP := Lib.hid w0
  have H0 := Lib.hid (Held.none_ w)
  obtain ⟨A, c, rfl⟩ := seq_form2 w0
  clear w0
  have HEQ := Lib.hid (fun v u w hv hu => eqIntS_seq (w := w) (v1 := v) (v2 := u) (fs := xs0) hv hu)
  go_enter Try.func5, Try.ntmps5
  by_cases hbig : 1048576 < xs0.length
  · go_wp2_with fail
    go_ret
    exact ⟨rfl, Below.refl _ _⟩
  have hlen : xs0.length ≤ 1048576 := by omega
  have HT := Lib.hid (fun w h => toIntS_any xs0 (.slice A xs0.length c) w h hlen)
  unfold IntsNew at HT
  have HS := Lib.hid (fun v w h => specCntM xs0 v w h)
  have HI := Lib.hid (fun v w h => implCntM xs0 v w h)
  generalize (cntM xs0 xs0.length : Int) = r at *
  go_wp2_with fail
  refine (HT.out _ (HP.out.step H0.out.below)).mono ?_
  rintro e wH1 ⟨vH1, rfl, hm, hb⟩
  have H1 := Lib.hid (H0.out.step hb); clear hb
  have M1 := Lib.hid hm.seq; clear hm
  go_wp2_with fail
  refine (HS.out _ _ M1.out).mono ?_
  rintro e wH2 ⟨rfl, hb⟩
  have H2 := Lib.hid ((H1.out).step hb); clear hb
  go_wp2_with fail
  refine (HT.out _ (HP.out.step H2.out.below)).mono ?_
  rintro e wH3 ⟨vH3, rfl, hm, hb⟩
  have H3 := Lib.hid (H2.out.step hb); clear hb
  have M3 := Lib.hid hm.seq; clear hm
  go_wp2_with fail
  refine (HI.out _ _ M3.out).mono ?_
  rintro e wH4 ⟨rfl, hb⟩
  have M3 := Lib.hid (M3.out.step hb)
  have H4 := Lib.hid ((H3.out).step hb); clear hb
  go_wp2_with fail
  refine (HT.out _ (HP.out.step H4.out.below)).mono ?_
  rintro e wH5 ⟨vH5, rfl, hm, hb⟩
  have M3 := Lib.hid (M3.out.step hb)
  have H5 := Lib.hid (H4.out.step hb); clear hb
  have M5 := Lib.hid hm.seq; clear hm
  go_wp2_with fail
  refine (HEQ.out _ _ _ M3.out M5.out).mono ?_
  rintro e w6 ⟨rfl, n, rfl⟩
  go_wp2_with fail
  go_ret
  exact ⟨rfl, (H5.out.drewN n).below⟩

set_option maxRecDepth 100000 in
theorem lifted (os : Os) (started : os.Started) (H : Type) (enc : TypeId × Value → H) :
    ReturnsInHanded {} Try.checked os 5 .any (Rows.fnExactCountMatchedSpec.pre6 enc Try.prog Try.f5 Rows.fnExactCountMatchedRow.domain false) (Rows.fnExactCountMatchedSpec.post enc Try.prog Try.f5 false true false false) := by
  refine returnsInHanded_of_change (C := Try.checked) own started (by kernel_rfl) Try.func5
    (ChangeSpec.witness6 (enc := enc) (C := Try.checked) false ⟨#[], #[.slice none 0 0], []⟩ 8 (by kernel_rfl) (by kernel_rfl) (by kernel_rfl) (by kernel_rfl)) ?_
  intro W base args ds gs before hval0 hW hcnd _
  have hval : ∀ (j : Nat) t v, Try.f5.params[j]? = some t → args[j]? = some v → Value.okWide Try.prog W .any base t v := hval0
  have hW' := hW
  obtain ⟨p, q, hA0, hV, rfl, hfz, hnd⟩ := hW
  have hA : DataW.TrodAll enc Try.prog W 0 (fun _ => true) true Try.f5.params.toList args.toList ds p := hA0
  rw [Try.params5] at hA hval
  obtain ⟨v0, vs0, d0, ds0, p0, q0, hargs, rfl, rfl, h0, r0⟩ := trodAll_cons hA
  obtain ⟨rfl, rfl, rfl⟩ := trodAll_nil r0
  obtain rfl : args = #[v0] := by cases args; simp_all
  obtain ⟨rfl, rfl⟩ := trodVars_none hV
  have k0 := h0
  have lt0 : ∀ x ∈ p0, x.block < W.heap.size := by obtain ⟨m, hm⟩ := k0; exact DataW.trod_lt m _ _ _ hm
  obtain ⟨A0, len0, cap0, rfl⟩ := Go.WideShapes.okWide_slice Try.underlying30 (hval 0 30 v0 rfl rfl)
  obtain ⟨fuel0, hf0⟩ := h0
  obtain ⟨a0, xs0, e0, w0⟩ := seq_open Try.underlying30 Try.underlying3 (by kernel_rfl) hf0
  simp [Value.cells] at e0
  subst e0
  clear hA0 hval0
  refine (walk W _ xs0 w0).mono fun e W' ⟨he, bel⟩ => ?_
  subst he
  exact ⟨_, rfl, _, _, _, [], _, [], hW', trodAll_mk1 (shut_bool Try.underlying4 _), trodAll_cons_mk (Below.trod laidOut (by kernel_rfl) (of_decide_eq_true (by kernel_rfl)) k0 bel lt0) (trodAll_mk0), rfl, bel.frame _, fun h => by cases h⟩

theorem over : Rows.fnExactCountMatchedRow.holds Try.pinned (OpenSpec.ofChange Rows.fnExactCountMatchedSpec) :=
  OpenClaim.holds_of_wide 5 Try.f5 rfl rfl rfl rfl rfl rfl rfl ⟨rfl, rfl, rfl, rfl, rfl⟩ rfl rfl rfl rfl rfl (by kernel_rfl) Try.func5 (by kernel_rfl)
    (of_decide_eq_true (by kernel_rfl)) (by unfold Func.isWrapper; first | (rw [if_pos (by decide +kernel)]; kernel_rfl) | (rw [if_neg (by decide +kernel)]; exact ⟨rfl, rfl⟩))
    (fun os started H enc _ => lifted os started H enc)

/-- THE STATEMENT. -/
theorem proved : Rows.FnExactCountMatchedSaid := over
#print axioms proved
end Go.Proofs.Ytkkpmpicaiflgaa.fnExactCountMatched
