/-
  The program's FireOrder returns, for every list of firings, the places that the model's FireOrder returns, in memory of its own, and leaves the list as it is: the law FnExactFireOrder answers true. No condition.
-/
import Derived.Test.YtfppnaknnijobabRows
import Derived.Test.YtfppnaknnijobabFiro
import Derived.Test.YtfppnaknnijobabTrM
import Derived.Test.YtfppnaknnijobabMarkB
import Derived.Test.YtfppnaknnijobabTurn
import Derived.Test.YtfppnaknnijobabOpen
import Derived.WalkKit
import Derived.ProofKit
import Derived.OpenShut
import Derived.ShutString
import Derived.ChangeOld
import Derived.Below
import Derived.Carry
import Derived.Lib.SmallJoins
namespace Go.Proofs.Ytfppnaknnijobab.fnExactFireOrder
open Go.ChangeShapes Go.WideShapes Go.ChangeAt Go.RowKit Go.Joins
open Go.ChangeMaps (open_string shut_string)
set_option linter.unusedVariables false
set_option linter.unusedSimpArgs false

theorem own : ownKnob Try.prog.godebug = none := by kernel_rfl
theorem laidOut : laidOutB Try.prog = true := by kernel_rfl
set_option maxRecDepth 100000
theorem walk (w : World) (a0 : Value) (xs0 : List Tr) (w0 : Trs w a0 xs0) :
    Calls Try.prog 14 #[a0] w fun e w' => e = .returned (.bool true) ∧ Below w.heap.size w w' := by
  have hl0 := w0.len
  have HQ := Lib.hid w0
  obtain ⟨A, c, rfl⟩ := w0.form2
  clear w0
  have H0 := Lib.hid (Held.none_ w)
  have HZ := Lib.hid (fun w => szFiringS_any xs0.length c A 1048576 w (by omega) (by omega) hl0)
  go_enter Try.func14, Try.ntmps14
  go_wp2_with fail
  refine (HZ.out _).mono ?_
  rintro e w1' ⟨rfl, rfl⟩
  by_cases hbig1 : 1048576 < xs0.length
  · rw [if_pos (by omega)]
    go_wp2_with fail
    go_ret
    exact ⟨rfl, H0.out.below⟩
  have hl1 : xs0.length ≤ 1048576 := by omega
  rw [if_neg (by omega)]
  clear HZ
  have HS := Lib.hid (fun u w (hu : Trs w u xs0) => specFireOrder xs0 u w hu)
  have HI := Lib.hid (fun u w (hu : Trs w u xs0) => implFireOrder xs0 u w hu)
  have HJ := fireL_len xs0
  generalize fireL xs0 = js at *
  unfold IntsNew at HS HI
  have HT2 := Lib.hid (fun w h => toFiringS_any xs0 (.slice A xs0.length c) w h hl1)
  unfold TpsNew at HT2
  have HEQ2 := Lib.hid (fun v u w hv hu => eqFiringS_yes xs0 v u w hv hu)
  go_wp2_with fail
  refine (HT2.out _ (HQ.out.step H0.out.below)).mono ?_
  rintro e w2 ⟨v2, rfl, hm, hb⟩
  have H2 := Lib.hid (H0.out.step hb)
  have Q2 := Lib.hid hm.trs; clear hm hb
  go_wp2_with fail
  refine (HS.out _ _ Q2.out).mono ?_
  rintro e w3 ⟨vw, rfl, hi, hb⟩
  have H3 := Lib.hid (H2.out.step hb); clear hb
  have KW := Lib.hid (fun k e => (hi.own k e).2)
  have IW3 := Lib.hid hi; clear hi Q2
  go_wp2_with fail
  refine (HT2.out _ (HQ.out.step H3.out.below)).mono ?_
  rintro e w5 ⟨vt, rfl, hm, hb⟩
  have H5 := Lib.hid (H3.out.step hb)
  have IW5 := Lib.hid (IW3.out.step hb)
  have KT := Lib.hid (fun k e => (hm.own k e).2)
  have hs5 := hb.size
  have T5 := Lib.hid hm; clear hm hb
  have hlo := H5.out.below.size
  go_wp2_with fail
  refine (HI.out _ _ T5.out.trs).mono ?_
  rintro e w6 ⟨vg, rfl, hg, hb⟩
  have H6 := Lib.hid (H5.out.step hb)
  have IW6 := Lib.hid (IW5.out.step hb)
  have T6 := Lib.hid (T5.out.step hb)
  have IG6 := Lib.hid hg; clear hg hb
  go_wp2_with fail
  refine (eqIntS_yes IG6.out IW6.out).mono ?_
  rintro e w9' ⟨rfl, n9, rfl⟩
  have hb := below_drewN (Below.refl w6.heap.size w6) n9
  have H9 := Lib.hid (H6.out.step hb)
  have IW9 := Lib.hid (IW6.out.step hb)
  have T9 := Lib.hid (T6.out.step hb)
  have IG9 := Lib.hid (IG6.out.step hb)
  clear hb
  go_wp2_with fail
  refine (HT2.out _ (HQ.out.step H9.out.below)).mono ?_
  rintro e w10 ⟨vz, rfl, hm, hb⟩
  have Z10 := Lib.hid hm.trs; clear hm
  have H10 := Lib.hid (H9.out.step hb)
  have IW10 := Lib.hid (IW9.out.step hb)
  have T10 := Lib.hid (T9.out.step hb)
  have IG10 := Lib.hid (IG9.out.step hb)
  clear hb
  go_wp2_with fail
  refine (HEQ2.out _ _ _ T10.out.trs Z10.out).mono ?_
  rintro e w12 ⟨rfl, hb⟩
  have H12 := Lib.hid (H10.out.step hb)
  have IW12 := Lib.hid (IW10.out.step hb)
  have T12 := Lib.hid (T10.out.step hb)
  have IG12 := Lib.hid (IG10.out.step hb)
  clear hb Z10
  have HMK := Lib.hid (fun W (h : Tps W w3.heap.size 130 vt xs0) => markFiringS_one h (by omega))
  obtain ⟨z2, hz2, hz20⟩ : ∃ z : Int, ((1 + 3 * xs0.length : Nat) : Int) = z ∧ 0 ≤ z := ⟨_, rfl, by omega⟩
  rw [hz2] at HMK
  clear hz2
  have hs3 := H3.out.below.size
  go_wp2_with fail
  refine (HMK.out _ T12.out).mono ?_
  rintro e w13 ⟨rfl, -, hgr⟩
  have ht := Turn.of_grown (Lo := w3.heap.size) (Hi := w5.heap.size) hgr (fun g e => ⟨(T12.out.own g e).1, KT.out g e⟩)
  have H13 := Lib.hid (H12.out.turn ht trivial hs3)
  have IG13 := Lib.hid (IG12.out.turn ht fun k e => .inr (IG12.out.own k e).1)
  have IW13 := Lib.hid (IW12.out.turn ht fun k e => .inl (KW.out k e))
  clear hgr ht HMK
  go_wp2_with fail
  any_goals (first | (exfalso; omega) | skip)
  refine (eqIntS_yes IG13.out IW13.out).mono ?_
  rintro e w14' ⟨rfl, n14, rfl⟩
  have hb := below_drewN (Below.refl w13.heap.size w13) n14
  have H14 := Lib.hid (H13.out.step hb)
  have IW14 := Lib.hid (IW13.out.step hb)
  have IG14 := Lib.hid (IG13.out.step hb)
  clear hb
  have hs13 := H13.out.below.size
  go_wp2_with fail
  refine (markIntS_b IG14.out (by omega)).mono ?_
  rintro e w15 ⟨rfl, hmk, hgr⟩
  have ht := Turn.of_grown (Lo := w5.heap.size) (Hi := (w13.drewN n14).heap.size) hgr (fun g e => IG14.out.own g e)
  have H15 := Lib.hid (H14.out.turn ht trivial (by omega))
  have IG15 := Lib.hid hmk
  have IW15 := Lib.hid (IW14.out.turn ht fun k e => .inl (by have := KW.out k e; omega))
  clear hmk hgr ht
  obtain ⟨z3, hz3, hz30⟩ : ∃ z : Int, ((1 + js.length : Nat) : Int) = z ∧ 0 ≤ z := ⟨_, rfl, by omega⟩
  have HHE := Lib.hid (fun W (h : Ints W w5.heap.size vg (marksI 1 js.length)) => (show Calls Try.prog 66 #[vg, .int .i64 1] W (fun e w' => e = .returned (.int .i64 z3) ∧ ∃ m, w' = W.drewN m) by
    rw [← hz3]; exact heldIntS_b js.length h (by omega)))
  rw [hz3]; clear hz3
  go_wp2_with fail
  refine (HHE.out _ IG15.out).mono ?_
  rintro e w16' ⟨rfl, n16, rfl⟩
  have hb := below_drewN (Below.refl w15.heap.size w15) n16
  have H16 := Lib.hid (H15.out.step hb)
  have IG16 := Lib.hid (IG15.out.step hb)
  have IW16 := Lib.hid (IW15.out.step hb)
  clear hb
  go_wp2_with fail
  refine (HT2.out _ (HQ.out.step H16.out.below)).mono ?_
  rintro e w18 ⟨v18, rfl, hm, hb⟩
  have H18 := Lib.hid (H16.out.step hb)
  have IG18 := Lib.hid (IG16.out.step hb)
  have IW18 := Lib.hid (IW16.out.step hb)
  have Z18 := Lib.hid hm.trs; clear hm hb
  go_wp2_with fail
  refine (HI.out _ _ Z18.out).mono ?_
  rintro e w19 ⟨vh, rfl, hh, hb⟩
  have H19 := Lib.hid (H18.out.step hb)
  have IG19 := Lib.hid (IG18.out.step hb)
  have IW19 := Lib.hid (IW18.out.step hb)
  have IH19 := Lib.hid hh; clear hh hb
  go_wp2_with fail
  refine (eqIntS_yes IH19.out IW19.out).mono ?_
  rintro e w20' ⟨rfl, n20, rfl⟩
  have hb := below_drewN (Below.refl w19.heap.size w19) n20
  have H20 := Lib.hid (H19.out.step hb)
  have IG20 := Lib.hid (IG19.out.step hb); clear hb
  go_wp2_with fail
  refine (HHE.out _ IG20.out).mono ?_
  rintro e w21' ⟨rfl, n21, rfl⟩
  go_wp2_with fail
  go_ret
  exact ⟨rfl, (H19.out.step (below_drewN (Below.refl _ _) (n20 + n21))).below⟩

set_option maxRecDepth 100000 in
theorem lifted (os : Os) (started : os.Started) (H : Type) (enc : TypeId × Value → H) :
    ReturnsInHanded {} Try.checked os 14 .any (Rows.fnExactFireOrderSpec.pre6 enc Try.prog Try.f14 Rows.fnExactFireOrderRow.domain false) (Rows.fnExactFireOrderSpec.post enc Try.prog Try.f14 false true false false) := by
  refine returnsInHanded_of_change (C := Try.checked) own started (by kernel_rfl) Try.func14
    (ChangeSpec.witness6 (enc := enc) (C := Try.checked) false ⟨#[], #[.slice none 0 0], []⟩ 8 (by kernel_rfl) (by kernel_rfl) (by kernel_rfl) (by kernel_rfl)) ?_
  intro W base args ds gs before hval0 hW hcnd _
  have hval : ∀ (j : Nat) t v, Try.f14.params[j]? = some t → args[j]? = some v → Value.okWide Try.prog W .any base t v := hval0
  have hW' := hW
  obtain ⟨p, q, hA0, hV, rfl, hfz, hnd⟩ := hW
  have hA : DataW.TrodAll enc Try.prog W 0 (fun _ => true) true Try.f14.params.toList args.toList ds p := hA0
  rw [Try.params14] at hA hval
  obtain ⟨v0, vs0, d0, ds0, p0, q0, hargs, rfl, rfl, h0, r0⟩ := trodAll_cons hA
  obtain ⟨rfl, rfl, rfl⟩ := trodAll_nil r0
  obtain rfl : args = #[v0] := by cases args; simp_all
  obtain ⟨rfl, rfl⟩ := trodVars_none hV
  have k0 := h0
  have lt0 : ∀ x ∈ p0, x.block < W.heap.size := by obtain ⟨m, hm⟩ := k0; exact DataW.trod_lt m _ _ _ hm
  obtain ⟨A0, len0, cap0, rfl⟩ := Go.WideShapes.okWide_slice Try.underlying91 (hval 0 91 v0 rfl rfl)
  obtain ⟨fuel0, hf0⟩ := h0
  obtain ⟨a0, xs0, e0, w0⟩ := trs_open Try.underlying91 Try.underlying132 (by kernel_rfl) (by kernel_rfl) Try.underlying3 Try.underlying3 Try.underlying3 hf0
  simp [Value.cells] at e0
  subst e0
  clear hA0 hval0
  refine (walk W _ xs0 w0).mono fun e W' ⟨he, bel⟩ => ?_
  subst he
  exact ⟨_, rfl, _, _, _, [], _, [], hW', trodAll_mk1 (shut_bool Try.underlying4 _), trodAll_cons_mk (Below.trod laidOut (by kernel_rfl) (of_decide_eq_true (by kernel_rfl)) k0 bel lt0) (trodAll_mk0), rfl, bel.frame _, fun h => by cases h⟩

theorem over : Rows.fnExactFireOrderRow.holds Try.pinned (OpenSpec.ofChange Rows.fnExactFireOrderSpec) :=
  OpenClaim.holds_of_wide 14 Try.f14 rfl rfl rfl rfl rfl rfl rfl ⟨rfl, rfl, rfl, rfl, rfl⟩ rfl rfl rfl rfl rfl (by kernel_rfl) Try.func14 (by kernel_rfl)
    (of_decide_eq_true (by kernel_rfl)) (by unfold Func.isWrapper; first | (rw [if_pos (by decide +kernel)]; kernel_rfl) | (rw [if_neg (by decide +kernel)]; exact ⟨rfl, rfl⟩))
    (fun os started H enc _ => lifted os started H enc)

/-- THE STATEMENT. -/
theorem proved : Rows.FnExactFireOrderSaid := over
#print axioms proved
end Go.Proofs.Ytfppnaknnijobab.fnExactFireOrder
