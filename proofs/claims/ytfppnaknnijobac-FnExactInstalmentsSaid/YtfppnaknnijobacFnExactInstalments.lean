/-
  The program's Instalments returns, for all arguments, the ints that the model's Instalments returns, in memory of its own: the law FnExactInstalments answers true. No condition.
-/
import Derived.Test.YtfppnaknnijobacRows
import Derived.Test.YtfppnaknnijobacMarkB
import Derived.Test.YtfppnaknnijobacInst
import Derived.WalkKit
import Derived.ProofKit
import Derived.OpenShut
import Derived.ShutString
import Derived.ChangeOld
import Derived.Below
import Derived.Carry
import Derived.Lib.SmallJoins
namespace Go.Proofs.Ytfppnaknnijobac.fnExactInstalments
open Go.ChangeShapes Go.WideShapes Go.ChangeAt Go.RowKit Go.Joins
open Go.ChangeMaps (open_string shut_string)
set_option linter.unusedVariables false
set_option linter.unusedSimpArgs false

theorem own : ownKnob Try.prog.godebug = none := by kernel_rfl
theorem laidOut : laidOutB Try.prog = true := by kernel_rfl
set_option maxRecDepth 100000
theorem walk (w : World) (a0 : Int) (w0 : (Lit.int .i64 a0).wf = true) (a1 : Int) (w1 : (Lit.int .i64 a1).wf = true) :
    Calls Try.prog 3 #[.int .i64 a0, .int .i64 a1] w fun e w' => e = .returned (.bool true) ∧ Below w.heap.size w w' := by
  clear w0 w1
  have H0 := Lib.hid (Held.none_ w)
  have HS := Lib.hid (fun w => specInst a0 a1 w)
  have HI := Lib.hid (fun w => implInst a0 a1 w)
  go_enter Try.func3, Try.ntmps3
  have HJ : (insV a0 a1).length ≤ 1048576 := (Nat.le_trans (insV_len _ _) (by omega))
  generalize insV a0 a1 = js at *
  unfold IntsNew at HS HI
  go_wp2_with fail
  refine (HS.out _).mono ?_
  rintro e w1_ ⟨vw, rfl, hm, hb⟩
  have H1 := Lib.hid (H0.out.step hb)
  have W1 := Lib.hid hm; clear hm hb
  have kW := Lib.hid (fun k e => (W1.out.own k e).2)
  go_wp2_with fail
  refine (HI.out _).mono ?_
  rintro e w2_ ⟨vg, rfl, hm, hb⟩
  have H2 := Lib.hid (H1.out.step hb)
  have W2 := Lib.hid (W1.out.step hb)
  have G2 := Lib.hid hm; clear hm hb
  go_wp2_with fail
  refine (eqIntS_yes G2.out W2.out).mono ?_
  rintro e wq3 ⟨rfl, n3, rfl⟩
  have hb := below_drewN (Below.refl (w2_).heap.size (w2_)) n3
  have H3 := Lib.hid (H2.out.step hb)
  have W3 := Lib.hid (W2.out.step hb)
  have G3 := Lib.hid (G2.out.step hb)
  clear hb
  go_wp2_with fail
  refine (markIntS_b G3.out HJ).mono ?_
  rintro e w4_ ⟨rfl, hmk, hgr⟩
  have ht := Turn.of_grown (Lo := w1_.heap.size) (Hi := ((w2_).drewN n3).heap.size) hgr (fun g e => G3.out.own g e)
  have H4 := Lib.hid (H3.out.turn ht trivial (H1.out.below.size))
  have G4 := Lib.hid hmk
  have W4 := Lib.hid (W3.out.turn ht fun k e => .inl (kW.out k e))
  clear hmk hgr ht
  obtain ⟨z2, hz2, hz20⟩ : ∃ z : Int, ((1 + js.length : Nat) : Int) = z ∧ 0 ≤ z := ⟨_, rfl, by omega⟩
  have HHE := Lib.hid (fun W (h : Ints W w1_.heap.size vg (marksI 1 js.length)) => (show Calls Try.prog 11 #[vg, .int .i64 1] W (fun e w' => e = .returned (.int .i64 z2) ∧ ∃ m, w' = W.drewN m) by
    rw [← hz2]; exact heldIntS_b js.length h HJ))
  rw [hz2]; clear hz2
  go_wp2_with fail
  refine (HHE.out _ G4.out).mono ?_
  rintro e wq5 ⟨rfl, n5, rfl⟩
  have hb := below_drewN (Below.refl (w4_).heap.size (w4_)) n5
  have H5 := Lib.hid (H4.out.step hb)
  have W5 := Lib.hid (W4.out.step hb)
  have G5 := Lib.hid (G4.out.step hb)
  clear hb
  go_wp2_with fail
  refine (HI.out _).mono ?_
  rintro e w6_ ⟨vh, rfl, hm, hb⟩
  have H6 := Lib.hid (H5.out.step hb)
  have W6 := Lib.hid (W5.out.step hb)
  have G6 := Lib.hid (G5.out.step hb)
  have R6 := Lib.hid hm
  clear hm hb
  go_wp2_with fail
  refine (eqIntS_yes R6.out W6.out).mono ?_
  rintro e wq7 ⟨rfl, n7, rfl⟩
  have hb := below_drewN (Below.refl (w6_).heap.size (w6_)) n7
  have H7 := Lib.hid (H6.out.step hb)
  have W7 := Lib.hid (W6.out.step hb)
  have G7 := Lib.hid (G6.out.step hb)
  clear hb
  go_wp2_with fail
  refine (HHE.out _ G7.out).mono ?_
  rintro e wq8 ⟨rfl, n8, rfl⟩
  have hb := below_drewN (Below.refl ((w6_).drewN n7).heap.size ((w6_).drewN n7)) n8
  have H8 := Lib.hid (H7.out.step hb)
  have W8 := Lib.hid (W7.out.step hb)
  have G8 := Lib.hid (G7.out.step hb)
  clear hb
  go_wp2_with fail
  go_ret
  exact ⟨rfl, (H6.out.step (below_drewN (Below.refl _ _) (n7 + n8))).below⟩

set_option maxRecDepth 100000 in
theorem lifted (os : Os) (started : os.Started) (H : Type) (enc : TypeId × Value → H) :
    ReturnsInHanded {} Try.checked os 3 .any (Rows.fnExactInstalmentsSpec.pre6 enc Try.prog Try.f3 Rows.fnExactInstalmentsRow.domain false) (Rows.fnExactInstalmentsSpec.post enc Try.prog Try.f3 false true false false) := by
  refine returnsInHanded_of_change (C := Try.checked) own started (by kernel_rfl) Try.func3
    (ChangeSpec.witness6 (enc := enc) (C := Try.checked) false ⟨#[], #[.int .i64 0, .int .i64 0], []⟩ 8 (by kernel_rfl) (by kernel_rfl) (by kernel_rfl) (by kernel_rfl)) ?_
  intro W base args ds gs before hval0 hW hcnd _
  have hval : ∀ (j : Nat) t v, Try.f3.params[j]? = some t → args[j]? = some v → Value.okWide Try.prog W .any base t v := hval0
  have hW' := hW
  obtain ⟨p, q, hA0, hV, rfl, hfz, hnd⟩ := hW
  have hA : DataW.TrodAll enc Try.prog W 0 (fun _ => true) true Try.f3.params.toList args.toList ds p := hA0
  rw [Try.params3] at hA hval
  obtain ⟨v0, vs0, d0, ds0, p0, q0, hargs, rfl, rfl, h0, r0⟩ := trodAll_cons hA
  obtain ⟨v1, vs1, d1, ds1, p1, q1, rfl, rfl, rfl, h1, r1⟩ := trodAll_cons r0
  obtain ⟨rfl, rfl, rfl⟩ := trodAll_nil r1
  obtain rfl : args = #[v0, v1] := by cases args; simp_all
  obtain ⟨rfl, rfl⟩ := trodVars_none hV
  have k0 := h0
  have lt0 : ∀ x ∈ p0, x.block < W.heap.size := by obtain ⟨m, hm⟩ := k0; exact DataW.trod_lt m _ _ _ hm
  have k1 := h1
  have lt1 : ∀ x ∈ p1, x.block < W.heap.size := by obtain ⟨m, hm⟩ := k1; exact DataW.trod_lt m _ _ _ hm
  obtain ⟨a0, rfl, rfl, rfl, w0⟩ := open_int Try.underlying3 (hval 0 3 v0 rfl rfl) h0
  obtain ⟨a1, rfl, rfl, rfl, w1⟩ := open_int Try.underlying3 (hval 1 3 v1 rfl rfl) h1
  clear hA0 hval0
  refine (walk W a0 w0 a1 w1).mono fun e W' ⟨he, bel⟩ => ?_
  subst he
  exact ⟨_, rfl, _, _, _, [], _, [], hW', trodAll_mk1 (shut_bool Try.underlying4 _), trodAll_cons_mk (Below.trod laidOut (by kernel_rfl) (of_decide_eq_true (by kernel_rfl)) k0 bel lt0) (trodAll_cons_mk (Below.trod laidOut (by kernel_rfl) (of_decide_eq_true (by kernel_rfl)) k1 bel lt1) (trodAll_mk0)), rfl, bel.frame _, fun h => by cases h⟩

theorem over : Rows.fnExactInstalmentsRow.holds Try.pinned (OpenSpec.ofChange Rows.fnExactInstalmentsSpec) :=
  OpenClaim.holds_of_wide 3 Try.f3 rfl rfl rfl rfl rfl rfl rfl ⟨rfl, rfl, rfl, rfl, rfl⟩ rfl rfl rfl rfl rfl (by kernel_rfl) Try.func3 (by kernel_rfl)
    (of_decide_eq_true (by kernel_rfl)) (by unfold Func.isWrapper; first | (rw [if_pos (by decide +kernel)]; kernel_rfl) | (rw [if_neg (by decide +kernel)]; exact ⟨rfl, rfl⟩))
    (fun os started H enc _ => lifted os started H enc)

/-- THE STATEMENT. -/
theorem proved : Rows.FnExactInstalmentsSaid := over
#print axioms proved
end Go.Proofs.Ytfppnaknnijobac.fnExactInstalments
