/-
  The program's SampleWindow returns the window that the model's SampleWindow returns, in memory of its own, at each call anew: the law FnExactSampleWindow answers true. No condition.
-/
import Derived.Test.YtkkjcdilpbofmaaRows
import Derived.Test.YtkkjcdilpbofmaaSamp
import Derived.Test.YtkkjcdilpbofmaaLawW
import Derived.WalkKit
import Derived.ProofKit
import Derived.OpenShut
import Derived.ShutString
import Derived.ChangeOld
import Derived.Below
import Derived.Carry
import Derived.Lib.SmallJoins
namespace Go.Proofs.Ytkkjcdilpbofmaa.fnExactSampleWindow
open Go.ChangeShapes Go.WideShapes Go.ChangeAt Go.RowKit Go.Joins
open Go.ChangeMaps (open_string shut_string)
set_option linter.unusedVariables false
set_option linter.unusedSimpArgs false

theorem own : ownKnob Try.prog.godebug = none := by kernel_rfl
theorem laidOut : laidOutB Try.prog = true := by kernel_rfl
set_option maxRecDepth 100000
theorem walk (w : World)  :
    Calls Try.prog 13 #[] w fun e w' => e = .returned (.bool true) ∧ Below w.heap.size w w' := by
  have HS := Lib.hid (fun w => specSamp w)
  have HI := Lib.hid (fun w => implSamp w)
  unfold SampIs at HS HI
  have HEQ := Lib.hid (fun v u w hv hu => eqWindow_at sampN sampL v u w hv hu)
  go_enter Try.func13, Try.ntmps13
  go_wp2_with fail
  refine (HS.out _).mono ?_
  rintro e w1 ⟨s1, s2, rfl, hm, hb⟩
  have MS1 := Lib.hid (WinO.mono hm (Nat.zero_le _))
  have HB1 := Lib.hid hb; clear hb
  have OS := Lib.hid hm.own; clear hm
  obtain ⟨aS, cS, rfl, -⟩ := MS1.out.1.form
  obtain ⟨aS', cS', rfl, -⟩ := MS1.out.2.form
  have HHB := HB1.out
  have H1 := Lib.hid ((show Held w w1 [] from ⟨trivial, trivial, HB1.out⟩).new2 w1.heap.size rfl [.slice aS sampN.length cS, .slice aS' sampL.length cS'] 38)
  have MS2 := Lib.hid (MS1.out.step ((Below.refl w1.heap.size w1).alloc (Nat.le_refl _) (.cells #[.slice aS sampN.length cS, .slice aS' sampL.length cS'] 38)))
  clear HHB
  have hn1 : sampN.length ≤ 1048576 := by decide
  have hl1 : sampL.length ≤ 1048576 := by decide
  generalize sampN = NN at *
  generalize sampL = LL at *
  go_wp2_with fail
  refine (HI.out _).mono ?_
  rintro e w2 ⟨g1, g2, rfl, hm, hb⟩
  have H2 := Lib.hid (H1.out.step hb)
  have MS3 := Lib.hid (MS2.out.step hb)
  have OG := Lib.hid hm.own
  have hs2 := hb.size
  clear hb
  rw [show (w1.alloc (.cells #[.slice aS NN.length cS, .slice aS' LL.length cS'] 38)).heap.size = w1.heap.size + 1 by simp] at hm OG hs2
  have MG2 := Lib.hid hm; clear hm
  obtain ⟨aG, cG, rfl, -⟩ := MG2.out.1.form
  obtain ⟨aG', cG', rfl, -⟩ := MG2.out.2.form
  obtain ⟨x0, x1, _⟩ := H2.out.1
  have H3 := Lib.hid (H2.out.new2 w2.heap.size rfl [.slice aG NN.length cG, .slice aG' LL.length cG'] 38)
  have bb : Below w2.heap.size w2 (w2.alloc (.cells #[.slice aG NN.length cG, .slice aG' LL.length cG'] 38)) := (Below.refl _ _).alloc (Nat.le_refl _) _
  have MG3 := Lib.hid (MG2.out.step bb)
  have MS4 := Lib.hid (MS3.out.step bb)
  clear bb x0 x1
  obtain ⟨x0, x1, x2, x3, _⟩ := H3.out.1
  go_wp2_with fail
  refine (HEQ.out _ _ _ MG3.out.at_ MS4.out.at_).mono ?_
  rintro e wH4 ⟨rfl, hb⟩
  have MG3 := Lib.hid (MG3.out.step hb)
  have MS4 := Lib.hid (MS4.out.step hb)
  have H4 := Lib.hid ((H3.out).step hb); clear hb
  try clear x0 x1 x2 x3
  obtain ⟨x0, x1, x2, x3, _⟩ := H4.out.1
  go_wp2_with fail
  refine (markWindow_o1 (L1 := w1.heap.size + 1) (L2 := w2.heap.size) MG3.out OG.out hn1 hl1).mono ?_
  rintro e w5 ⟨rfl, hm, ht⟩
  have H5 := Lib.hid (H4.out.turn ht ⟨.inr (Nat.le_refl _), .inr (Nat.le_refl _), .inl (Nat.lt_succ_self _), .inl (Nat.lt_succ_self _), trivial⟩ (by have := HB1.out.size; omega))
  have MS5 := Lib.hid (MS4.out.turn ht fun k e => .inl (by have := (OS.out k e).2; omega))
  have MM5 := Lib.hid hm
  clear hm ht x0 x1 x2 x3
  obtain ⟨z, hz, hz0⟩ : ∃ z : Int, ((1 + 2 * NN.length + 2 * LL.length : Nat) : Int) = z ∧ 0 ≤ z := ⟨_, rfl, by omega⟩
  have HHE := Lib.hid (fun W (h : WinO W (w1.heap.size + 1) (.slice aG NN.length cG) (.slice aG' LL.length cG') (marksP 1 NN.length) (marksP (1 + 2 * NN.length) LL.length)) => hz ▸ heldWindow_o1 h hn1 hl1)
  rw [hz]; clear hz
  obtain ⟨x0, x1, x2, x3, _⟩ := H5.out.1
  go_wp2_with fail
  refine (HHE.out _ MM5.out).mono ?_
  rintro e wH6 ⟨rfl, hb⟩
  have MM5 := Lib.hid (MM5.out.step hb)
  have MS5 := Lib.hid (MS5.out.step hb)
  have H6 := Lib.hid ((H5.out).step hb); clear hb
  try clear x0 x1 x2 x3
  obtain ⟨x0, x1, x2, x3, _⟩ := H6.out.1
  go_wp2_with fail
  refine (HI.out _).mono ?_
  rintro e w7 ⟨u1, u2, rfl, hm, hb⟩
  have H7 := Lib.hid (H6.out.step hb)
  have MS7 := Lib.hid (MS5.out.step hb)
  have MM7 := Lib.hid (MM5.out.step hb)
  have MU7 := Lib.hid hm
  clear hm hb x0 x1 x2 x3
  obtain ⟨aU, cU, rfl, -⟩ := MU7.out.1.form
  obtain ⟨aU', cU', rfl, -⟩ := MU7.out.2.form
  obtain ⟨x0, x1, x2, x3, _⟩ := H7.out.1
  have bb : Below w7.heap.size w7 (w7.alloc (.cells #[.slice aU NN.length cU, .slice aU' LL.length cU'] 38)) := (Below.refl _ _).alloc (Nat.le_refl _) _
  have H8 := Lib.hid (H7.out.new2 w7.heap.size rfl [.slice aU NN.length cU, .slice aU' LL.length cU'] 38)
  have MS8 := Lib.hid (MS7.out.step bb)
  have MM8 := Lib.hid (MM7.out.step bb)
  have MU8 := Lib.hid (MU7.out.step bb)
  clear bb x0 x1 x2 x3
  obtain ⟨x0, x1, x2, x3, x4, x5, _⟩ := H8.out.1
  go_wp2_with fail
  refine (HEQ.out _ _ _ MU8.out.at_ MS8.out.at_).mono ?_
  rintro e wH9 ⟨rfl, hb⟩
  have MM8 := Lib.hid (MM8.out.step hb)
  have H9 := Lib.hid ((H8.out).step hb); clear hb
  try clear x0 x1 x2 x3 x4 x5
  obtain ⟨x0, x1, x2, x3, x4, x5, _⟩ := H9.out.1
  go_wp2_with fail
  refine (HHE.out _ MM8.out).mono ?_
  rintro e wH10 ⟨rfl, hb⟩
  have H10 := Lib.hid ((H9.out).step hb); clear hb
  try clear x0 x1 x2 x3 x4 x5
  obtain ⟨x0, x1, x2, x3, x4, x5, _⟩ := H10.out.1
  go_wp2_with fail
  go_ret
  exact ⟨rfl, H10.out.below⟩

set_option maxRecDepth 100000 in
theorem lifted (os : Os) (started : os.Started) (H : Type) (enc : TypeId × Value → H) :
    ReturnsInHanded {} Try.checked os 13 .any (Rows.fnExactSampleWindowSpec.pre6 enc Try.prog Try.f13 Rows.fnExactSampleWindowRow.domain false) (Rows.fnExactSampleWindowSpec.post enc Try.prog Try.f13 false true false false) := by
  refine returnsInHanded_of_change (C := Try.checked) own started (by kernel_rfl) Try.func13
    (ChangeSpec.witness6 (enc := enc) (C := Try.checked) false ⟨#[], #[], []⟩ 8 (by kernel_rfl) (by kernel_rfl) (by kernel_rfl) (by kernel_rfl)) ?_
  intro W base args ds gs before hval0 hW hcnd _
  have hval : ∀ (j : Nat) t v, Try.f13.params[j]? = some t → args[j]? = some v → Value.okWide Try.prog W .any base t v := hval0
  have hW' := hW
  obtain ⟨p, q, hA0, hV, rfl, hfz, hnd⟩ := hW
  have hA : DataW.TrodAll enc Try.prog W 0 (fun _ => true) true Try.f13.params.toList args.toList ds p := hA0
  rw [Try.params13] at hA hval
  obtain ⟨hargs, rfl, rfl⟩ := trodAll_nil hA
  obtain rfl : args = #[] := by cases args; simp_all
  obtain ⟨rfl, rfl⟩ := trodVars_none hV
  clear hA0 hval0
  refine (walk W ).mono fun e W' ⟨he, bel⟩ => ?_
  subst he
  exact ⟨_, rfl, _, _, _, [], _, [], hW', trodAll_mk1 (shut_bool Try.underlying4 _), trodAll_mk0, rfl, bel.frame _, fun h => by cases h⟩

theorem over : Rows.fnExactSampleWindowRow.holds Try.pinned (OpenSpec.ofChange Rows.fnExactSampleWindowSpec) :=
  OpenClaim.holds_of_wide 13 Try.f13 rfl rfl rfl rfl rfl rfl rfl ⟨rfl, rfl, rfl, rfl, rfl⟩ rfl rfl rfl rfl rfl (by kernel_rfl) Try.func13 (by kernel_rfl)
    (of_decide_eq_true (by kernel_rfl)) (by unfold Func.isWrapper; first | (rw [if_pos (by decide +kernel)]; kernel_rfl) | (rw [if_neg (by decide +kernel)]; exact ⟨rfl, rfl⟩))
    (fun os started H enc _ => lifted os started H enc)

/-- THE STATEMENT. -/
theorem proved : Rows.FnExactSampleWindowSaid := over
#print axioms proved
end Go.Proofs.Ytkkjcdilpbofmaa.fnExactSampleWindow
