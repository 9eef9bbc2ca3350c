/-
  The program's AverageOf returns, for every list of recipes, the recipe and the bool that the model's AverageOf returns, and leaves the list as it is: the law FnExactAverageOf answers true. No condition.
-/
import Derived.Test.YtfppnaknnijobabRows
import Derived.Test.YtfppnaknnijobabAvg
import Derived.Test.YtfppnaknnijobabOpen
import Derived.WalkKit
import Derived.ProofKit
import Derived.OpenShut
import Derived.ShutString
import Derived.ChangeOld
import Derived.Below
import Derived.Carry
import Derived.Lib.SmallJoins
namespace Go.Proofs.Ytfppnaknnijobab.fnExactAverageOf
open Go.ChangeShapes Go.WideShapes Go.ChangeAt Go.RowKit Go.Joins
open Go.ChangeMaps (open_string shut_string)
set_option linter.unusedVariables false
set_option linter.unusedSimpArgs false

theorem own : ownKnob Try.prog.godebug = none := by kernel_rfl
theorem laidOut : laidOutB Try.prog = true := by kernel_rfl
set_option maxRecDepth 100000
theorem walk (w : World) (a0 : Value) (xs0 : List Qd) (w0 : Qds w a0 xs0) :
    Calls Try.prog 6 #[a0] w fun e w' => e = .returned (.bool true) ∧ Below w.heap.size w w' := by
  have hll := w0.len
  have HQ := Lib.hid w0
  obtain ⟨A2, c2, rfl⟩ := w0.form2
  clear w0
  have H0 := Lib.hid (Held.none_ w)
  go_enter Try.func6, Try.ntmps6
  have HZ := Lib.hid (fun w => szRecipeS_any xs0.length c2 A2 1048576 w (by omega) (by omega) hll)
  go_wp2_with fail
  refine (HZ.out _).mono ?_
  rintro e w1' ⟨rfl, rfl⟩
  by_cases hbig1 : 1048576 < xs0.length
  · rw [if_pos (by omega)]
    go_wp2_with fail
    go_ret
    exact ⟨rfl, H0.out.below⟩
  have hl1 : xs0.length ≤ 1048576 := by omega
  rw [if_neg (by omega)]
  clear HZ
  have HS := Lib.hid (fun u w (hu : Qds w u xs0) => specAvg xs0 u w hu)
  have HI := Lib.hid (fun u w (hu : Qds w u xs0) => implAvg xs0 u w hu)
  generalize avgQ xs0 = m at *
  generalize avgOk xs0 = r at *
  have HEQ := Lib.hid (eqRecipe_yes m)
  obtain ⟨m1, m2, m3, m4⟩ := m
  unfold QdOk Qd.val at HS HI
  unfold Qd.val at HEQ
  simp only at HS HI HEQ
  have HT2 := Lib.hid (fun w h => toRecipeS_any xs0 (.slice A2 xs0.length c2) w h hl1)
  unfold QpsNew at HT2
  have HEQ2 := Lib.hid (fun v u w hv hu => eqRecipeS_yes xs0 v u w hv hu)
  go_wp2_with fail
  refine (HT2.out _ (HQ.out.step H0.out.below)).mono ?_
  rintro e w2 ⟨v2, rfl, hm, hb⟩
  have H2 := Lib.hid (H0.out.step hb)
  have Q2 := Lib.hid hm; clear hm hb
  go_wp2_with fail
  refine (HS.out _ _ Q2.out.qds).mono ?_
  rintro e w3 ⟨rfl, hb⟩
  have H3 := Lib.hid (H2.out.step hb); clear hb
  have H4 := Lib.hid (H3.out.new2 w3.heap.size rfl [.int .i64 m1, .int .i64 m2, .int .i64 m3, .int .i64 m4] 47)
  simp only [newFs, List.cons_append, List.nil_append, List.append_nil] at H4
  go_wp2_with fail
  refine (HT2.out _ (HQ.out.step H4.out.below)).mono ?_
  rintro e w5 ⟨v5, rfl, hm, hb⟩
  have H5 := Lib.hid (H4.out.step hb)
  have Q5 := Lib.hid hm; clear hm hb
  go_wp2_with fail
  refine (HI.out _ _ Q5.out.qds).mono ?_
  rintro e w6 ⟨rfl, hb⟩
  have H6 := Lib.hid (H5.out.step hb)
  have Q6 := Lib.hid (Q5.out.step hb); clear hb
  have H7 := Lib.hid (H6.out.new2 w6.heap.size rfl [.int .i64 m1, .int .i64 m2, .int .i64 m3, .int .i64 m4] 47)
  simp only [newFs, List.cons_append, List.nil_append, List.append_nil] at H7
  have Q7 := Lib.hid (Q6.out.step ((Below.refl _ _).alloc (Nat.le_refl _) (.cells #[.int .i64 m1, .int .i64 m2, .int .i64 m3, .int .i64 m4] 47)))
  obtain ⟨x0, x1, x2, x3, _⟩ := H6.out.1
  obtain ⟨y0, _, _⟩ := H6.out.2.1
  go_wp2_with fail
  refine (HEQ.out _).mono ?_
  rintro e w8 ⟨rfl, hb⟩
  have H8 := Lib.hid (H7.out.drop.step hb)
  have Q8 := Lib.hid (Q7.out.step hb); clear hb x0 x1 x2 x3 y0
  cases r
  · go_wp2_with fail
    refine (HT2.out _ (HQ.out.step H8.out.below)).mono ?_
    rintro e w9 ⟨v9, rfl, hm, hb⟩
    have H9 := Lib.hid (H8.out.step hb)
    have Q9 := Lib.hid (Q8.out.step hb)
    have R9 := Lib.hid hm; clear hm hb
    go_wp2_with fail
    refine (HEQ2.out _ _ _ Q9.out.qds R9.out.qds).mono ?_
    rintro e wH10 ⟨rfl, hb⟩
    have H10 := Lib.hid ((H9.out).step hb); clear hb
    go_wp2_with fail
    go_ret
    exact ⟨rfl, H10.out.below⟩
  · go_wp2_with fail
    refine (HT2.out _ (HQ.out.step H8.out.below)).mono ?_
    rintro e w9 ⟨v9, rfl, hm, hb⟩
    have H9 := Lib.hid (H8.out.step hb)
    have Q9 := Lib.hid (Q8.out.step hb)
    have R9 := Lib.hid hm; clear hm hb
    go_wp2_with fail
    refine (HEQ2.out _ _ _ Q9.out.qds R9.out.qds).mono ?_
    rintro e wH10 ⟨rfl, hb⟩
    have H10 := Lib.hid ((H9.out).step hb); clear hb
    go_wp2_with fail
    go_ret
    exact ⟨rfl, H10.out.below⟩

set_option maxRecDepth 100000 in
theorem lifted (os : Os) (started : os.Started) (H : Type) (enc : TypeId × Value → H) :
    ReturnsInHanded {} Try.checked os 6 .any (Rows.fnExactAverageOfSpec.pre6 enc Try.prog Try.f6 Rows.fnExactAverageOfRow.domain false) (Rows.fnExactAverageOfSpec.post enc Try.prog Try.f6 false true false false) := by
  refine returnsInHanded_of_change (C := Try.checked) own started (by kernel_rfl) Try.func6
    (ChangeSpec.witness6 (enc := enc) (C := Try.checked) false ⟨#[], #[.slice none 0 0], []⟩ 8 (by kernel_rfl) (by kernel_rfl) (by kernel_rfl) (by kernel_rfl)) ?_
  intro W base args ds gs before hval0 hW hcnd _
  have hval : ∀ (j : Nat) t v, Try.f6.params[j]? = some t → args[j]? = some v → Value.okWide Try.prog W .any base t v := hval0
  have hW' := hW
  obtain ⟨p, q, hA0, hV, rfl, hfz, hnd⟩ := hW
  have hA : DataW.TrodAll enc Try.prog W 0 (fun _ => true) true Try.f6.params.toList args.toList ds p := hA0
  rw [Try.params6] at hA hval
  obtain ⟨v0, vs0, d0, ds0, p0, q0, hargs, rfl, rfl, h0, r0⟩ := trodAll_cons hA
  obtain ⟨rfl, rfl, rfl⟩ := trodAll_nil r0
  obtain rfl : args = #[v0] := by cases args; simp_all
  obtain ⟨rfl, rfl⟩ := trodVars_none hV
  have k0 := h0
  have lt0 : ∀ x ∈ p0, x.block < W.heap.size := by obtain ⟨m, hm⟩ := k0; exact DataW.trod_lt m _ _ _ hm
  obtain ⟨A0, len0, cap0, rfl⟩ := Go.WideShapes.okWide_slice Try.underlying44 (hval 0 44 v0 rfl rfl)
  obtain ⟨fuel0, hf0⟩ := h0
  obtain ⟨a0, xs0, e0, w0⟩ := qds_open Try.underlying44 Try.underlying112 (by kernel_rfl) (by kernel_rfl) Try.underlying3 Try.underlying3 Try.underlying3 Try.underlying3 hf0
  simp [Value.cells] at e0
  subst e0
  clear hA0 hval0
  refine (walk W _ xs0 w0).mono fun e W' ⟨he, bel⟩ => ?_
  subst he
  exact ⟨_, rfl, _, _, _, [], _, [], hW', trodAll_mk1 (shut_bool Try.underlying4 _), trodAll_cons_mk (Below.trod laidOut (by kernel_rfl) (of_decide_eq_true (by kernel_rfl)) k0 bel lt0) (trodAll_mk0), rfl, bel.frame _, fun h => by cases h⟩

theorem over : Rows.fnExactAverageOfRow.holds Try.pinned (OpenSpec.ofChange Rows.fnExactAverageOfSpec) :=
  OpenClaim.holds_of_wide 6 Try.f6 rfl rfl rfl rfl rfl rfl rfl ⟨rfl, rfl, rfl, rfl, rfl⟩ rfl rfl rfl rfl rfl (by kernel_rfl) Try.func6 (by kernel_rfl)
    (of_decide_eq_true (by kernel_rfl)) (by unfold Func.isWrapper; first | (rw [if_pos (by decide +kernel)]; kernel_rfl) | (rw [if_neg (by decide +kernel)]; exact ⟨rfl, rfl⟩))
    (fun os started H enc _ => lifted os started H enc)

/-- THE STATEMENT. -/
theorem proved : Rows.FnExactAverageOfSaid := over
#print axioms proved
end Go.Proofs.Ytfppnaknnijobab.fnExactAverageOf
