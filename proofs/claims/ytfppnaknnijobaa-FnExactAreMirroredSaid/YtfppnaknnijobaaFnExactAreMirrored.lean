/-
  The program's AreMirrored returns, for every two lists of nodes, what the model's AreMirrored returns, and leaves the lists as they are: the law FnExactAreMirrored answers true. No condition.
-/
import Derived.Test.YtfppnaknnijobaaRows
import Derived.Test.YtfppnaknnijobaaShpV
import Derived.Test.YtfppnaknnijobaaLawN
import Derived.Test.YtfppnaknnijobaaOpen
import Derived.WalkKit
import Derived.ProofKit
import Derived.OpenShut
import Derived.ShutString
import Derived.ChangeOld
import Derived.Below
import Derived.Carry
import Derived.Lib.SmallJoins
namespace Go.Proofs.Ytfppnaknnijobaa.fnExactAreMirrored
open Go.ChangeShapes Go.WideShapes Go.ChangeAt Go.RowKit Go.Joins
open Go.ChangeMaps (open_string shut_string)
set_option linter.unusedVariables false
set_option linter.unusedSimpArgs false

theorem own : ownKnob Try.prog.godebug = none := by kernel_rfl
theorem laidOut : laidOutB Try.prog = true := by kernel_rfl
set_option maxRecDepth 100000
theorem walk (w : World) (a0 : Value) (xs0 : List Nd) (w0 : Prs w a0 xs0) (a1 : Value) (xs1 : List Nd) (w1 : Prs w a1 xs1) :
    Calls Try.prog 13 #[a0, a1] w fun e w' => e = .returned (.bool true) ∧ Below w.heap.size w w' := by
  have hl0 := w0.len
  have hl1 := w1.len
  have HP0 := Lib.hid w0
  have HP1 := Lib.hid w1
  have H0 := Lib.hid (Held.none_ w)
  obtain ⟨A, c, rfl⟩ := prs_form2 w0
  obtain ⟨A1, c1, rfl⟩ := prs_form2 w1
  clear w0 w1
  have HZ0 := Lib.hid (fun w => szNodeS_any xs0.length c A 1048576 w (by omega) (by omega) hl0)
  go_enter Try.func13, Try.ntmps13
  go_wp2_with fail
  refine (HZ0.out _).mono ?_
  rintro e w' ⟨rfl, rfl⟩
  by_cases hb0 : 1048576 < xs0.length
  · rw [if_pos (by omega)]
    go_wp2_with fail
    go_ret
    exact ⟨rfl, Below.refl _ _⟩
  rw [if_neg (by omega)]
  have hq0 : xs0.length ≤ 1048576 := by omega
  have HZ1 := Lib.hid (fun w => szNodeS_any xs1.length c1 A1 (1048576 - (xs0.length : Int)) w (by omega) (by omega) hl1)
  have hn0 : ¬ ((1048576 : Int) - (xs0.length : Int) < 0) := by omega
  have hqb : (1048576 : Int) - (xs0.length : Int) ≤ 1048576 := by omega
  generalize (1048576 : Int) - (xs0.length : Int) = q0 at *
  go_wp2_with fail
  refine (HZ1.out _).mono ?_
  rintro e w' ⟨rfl, rfl⟩
  by_cases hb1 : q0 < (xs1.length : Int)
  · rw [if_pos hb1]
    go_wp2_with fail
    go_ret
    exact ⟨rfl, Below.refl _ _⟩
  rw [if_neg hb1]
  have hq1 : xs1.length ≤ 1048576 := by omega
  have hqq := hq1
  have HS := Lib.hid (fun v u w h1 h2 => specMirrored xs0 xs1 v u w h1 h2 hqq)
  have HI := Lib.hid (fun v u w h1 h2 => implMirrored xs0 xs1 v u w h1 h2 hqq)
  generalize mirroredB xs0 xs1 = r at *
  clear hqq
  have hn1 : ¬ (q0 - (xs1.length : Int) < 0) := by omega
  generalize q0 - (xs1.length : Int) = q1 at *
  have HT0 := Lib.hid (fun w h => toNodeS_any xs0 (.slice A xs0.length c) w h hq0)
  have HT1 := Lib.hid (fun w h => toNodeS_any xs1 (.slice A1 xs1.length c1) w h hq1)
  have HE0 := Lib.hid (fun v u w h1 h2 => eqNodeS_yes xs0 v u w h1 h2)
  have HE1 := Lib.hid (fun v u w h1 h2 => eqNodeS_yes xs1 v u w h1 h2)
  unfold MineIs at HT0 HT1
  clear hb0 hb1 hq0 hq1 hn0
  go_wp2_with fail
  refine (HT0.out _ (HP0.out.step H0.out.below)).mono ?_
  rintro e wa ⟨va, rfl, hm, hb⟩
  have Ha := Lib.hid (H0.out.step hb); clear hb
  have Ma := Lib.hid hm.prs; clear hm
  go_wp2_with fail
  refine (HT1.out _ (HP1.out.step Ha.out.below)).mono ?_
  rintro e wb ⟨vb, rfl, hm, hb⟩
  have Hb := Lib.hid (Ha.out.step hb)
  have Ma := Lib.hid (Ma.out.step hb); clear hb
  have Mb := Lib.hid hm.prs; clear hm
  go_wp2_with fail
  refine (HS.out _ _ _ Ma.out Mb.out).mono ?_
  rintro e wHc ⟨rfl, hb⟩
  have Hc := Lib.hid ((Hb.out).step hb); clear hb
  go_wp2_with fail
  refine (HT0.out _ (HP0.out.step Hc.out.below)).mono ?_
  rintro e wd ⟨vd, rfl, hm, hb⟩
  have Hd := Lib.hid (Hc.out.step hb); clear hb
  have Md := Lib.hid hm.prs; clear hm
  go_wp2_with fail
  refine (HT1.out _ (HP1.out.step Hd.out.below)).mono ?_
  rintro e we ⟨ve, rfl, hm, hb⟩
  have He := Lib.hid (Hd.out.step hb)
  have Md := Lib.hid (Md.out.step hb); clear hb
  have Me := Lib.hid hm.prs; clear hm
  go_wp2_with fail
  refine (HI.out _ _ _ Md.out Me.out).mono ?_
  rintro e wHf ⟨rfl, hb⟩
  have Md := Lib.hid (Md.out.step hb)
  have Me := Lib.hid (Me.out.step hb)
  have Hf := Lib.hid ((He.out).step hb); clear hb
  go_wp2_with fail
  refine (HT0.out _ (HP0.out.step Hf.out.below)).mono ?_
  rintro e wg ⟨vg, rfl, hm, hb⟩
  have Hg := Lib.hid (Hf.out.step hb)
  have Md := Lib.hid (Md.out.step hb)
  have Me := Lib.hid (Me.out.step hb); clear hb
  have Mg := Lib.hid hm.prs; clear hm
  go_wp2_with fail
  refine (HE0.out _ _ _ Md.out Mg.out).mono ?_
  rintro e wHh ⟨rfl, hb⟩
  have Me := Lib.hid (Me.out.step hb)
  have Hh := Lib.hid ((Hg.out).step hb); clear hb
  go_wp2_with fail
  refine (HT1.out _ (HP1.out.step Hh.out.below)).mono ?_
  rintro e wi ⟨vi, rfl, hm, hb⟩
  have Hi := Lib.hid (Hh.out.step hb)
  have Me := Lib.hid (Me.out.step hb); clear hb
  have Mi := Lib.hid hm.prs; clear hm
  go_wp2_with fail
  refine (HE1.out _ _ _ Me.out Mi.out).mono ?_
  rintro e wHj ⟨rfl, hb⟩
  have Hj := Lib.hid ((Hi.out).step hb); clear hb
  go_wp2_with fail
  go_ret
  exact ⟨rfl, Hj.out.below⟩

set_option maxRecDepth 100000 in
theorem lifted (os : Os) (started : os.Started) (H : Type) (enc : TypeId × Value → H) :
    ReturnsInHanded {} Try.checked os 13 .any (Rows.fnExactAreMirroredSpec.pre6 enc Try.prog Try.f13 Rows.fnExactAreMirroredRow.domain false) (Rows.fnExactAreMirroredSpec.post enc Try.prog Try.f13 false true false false) := by
  refine returnsInHanded_of_change (C := Try.checked) own started (by kernel_rfl) Try.func13
    (ChangeSpec.witness6 (enc := enc) (C := Try.checked) false ⟨#[], #[.slice none 0 0, .slice none 0 0], []⟩ 8 (by kernel_rfl) (by kernel_rfl) (by kernel_rfl) (by kernel_rfl)) ?_
  intro W base args ds gs before hval0 hW hcnd _
  have hval : ∀ (j : Nat) t v, Try.f13.params[j]? = some t → args[j]? = some v → Value.okWide Try.prog W .any base t v := hval0
  have hW' := hW
  obtain ⟨p, q, hA0, hV, rfl, hfz, hnd⟩ := hW
  have hA : DataW.TrodAll enc Try.prog W 0 (fun _ => true) true Try.f13.params.toList args.toList ds p := hA0
  rw [Try.params13] at hA hval
  obtain ⟨v0, vs0, d0, ds0, p0, q0, hargs, rfl, rfl, h0, r0⟩ := trodAll_cons hA
  obtain ⟨v1, vs1, d1, ds1, p1, q1, rfl, rfl, rfl, h1, r1⟩ := trodAll_cons r0
  obtain ⟨rfl, rfl, rfl⟩ := trodAll_nil r1
  obtain rfl : args = #[v0, v1] := by cases args; simp_all
  obtain ⟨rfl, rfl⟩ := trodVars_none hV
  have k0 := h0
  have lt0 : ∀ x ∈ p0, x.block < W.heap.size := by obtain ⟨m, hm⟩ := k0; exact DataW.trod_lt m _ _ _ hm
  have k1 := h1
  have lt1 : ∀ x ∈ p1, x.block < W.heap.size := by obtain ⟨m, hm⟩ := k1; exact DataW.trod_lt m _ _ _ hm
  obtain ⟨A0, len0, cap0, rfl⟩ := Go.WideShapes.okWide_slice Try.underlying22 (hval 0 22 v0 rfl rfl)
  obtain ⟨fuel0, hf0⟩ := h0
  obtain ⟨a0, xs0, e0, w0⟩ := prs_open Try.underlying22 Try.underlying47 (by kernel_rfl) (by kernel_rfl) Try.underlying3 Try.underlying3 hf0
  simp [Value.cells] at e0
  subst e0
  obtain ⟨A1, len1, cap1, rfl⟩ := Go.WideShapes.okWide_slice Try.underlying22 (hval 1 22 v1 rfl rfl)
  obtain ⟨fuel1, hf1⟩ := h1
  obtain ⟨a1, xs1, e1, w1⟩ := prs_open Try.underlying22 Try.underlying47 (by kernel_rfl) (by kernel_rfl) Try.underlying3 Try.underlying3 hf1
  simp [Value.cells] at e1
  subst e1
  clear hA0 hval0
  refine (walk W _ xs0 w0 _ xs1 w1).mono fun e W' ⟨he, bel⟩ => ?_
  subst he
  exact ⟨_, rfl, _, _, _, [], _, [], hW', trodAll_mk1 (shut_bool Try.underlying4 _), trodAll_cons_mk (Below.trod laidOut (by kernel_rfl) (of_decide_eq_true (by kernel_rfl)) k0 bel lt0) (trodAll_cons_mk (Below.trod laidOut (by kernel_rfl) (of_decide_eq_true (by kernel_rfl)) k1 bel lt1) (trodAll_mk0)), rfl, bel.frame _, fun h => by cases h⟩

theorem over : Rows.fnExactAreMirroredRow.holds Try.pinned (OpenSpec.ofChange Rows.fnExactAreMirroredSpec) :=
  OpenClaim.holds_of_wide 13 Try.f13 rfl rfl rfl rfl rfl rfl rfl ⟨rfl, rfl, rfl, rfl, rfl⟩ rfl rfl rfl rfl rfl (by kernel_rfl) Try.func13 (by kernel_rfl)
    (of_decide_eq_true (by kernel_rfl)) (by unfold Func.isWrapper; first | (rw [if_pos (by decide +kernel)]; kernel_rfl) | (rw [if_neg (by decide +kernel)]; exact ⟨rfl, rfl⟩))
    (fun os started H enc _ => lifted os started H enc)

/-- THE STATEMENT. -/
theorem proved : Rows.FnExactAreMirroredSaid := over
#print axioms proved
end Go.Proofs.Ytfppnaknnijobaa.fnExactAreMirrored
