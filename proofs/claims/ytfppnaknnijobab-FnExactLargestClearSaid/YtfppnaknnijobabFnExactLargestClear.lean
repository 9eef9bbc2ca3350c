/-
  The program's LargestClear returns, for every sheet with flaws, what the model's LargestClear returns, and leaves the sheet as it is: the law FnExactLargestClear answers true. No condition.
-/
import Derived.Test.YtfppnaknnijobabRows
import Derived.Test.YtfppnaknnijobabLgc
import Derived.Test.YtfppnaknnijobabFlO
import Derived.Test.YtfppnaknnijobabFlawO
import Derived.Test.YtfppnaknnijobabOpen
import Derived.Test.YtfppnaknnijobabDetV
import Derived.WalkKit
import Derived.ProofKit
import Derived.OpenShut
import Derived.ShutString
import Derived.ChangeOld
import Derived.Below
import Derived.Carry
import Derived.Lib.SmallJoins
namespace Go.Proofs.Ytfppnaknnijobab.fnExactLargestClear
open Go.ChangeShapes Go.WideShapes Go.ChangeAt Go.RowKit Go.Joins
open Go.ChangeMaps (open_string shut_string)
set_option linter.unusedVariables false
set_option linter.unusedSimpArgs false

theorem own : ownKnob Try.prog.godebug = none := by kernel_rfl
theorem laidOut : laidOutB Try.prog = true := by kernel_rfl
set_option maxRecDepth 100000
theorem walk (w : World) (a0_X : Int) (w0_X : (Lit.int .i64 a0_X).wf = true) (a0_Y : Int) (w0_Y : (Lit.int .i64 a0_Y).wf = true) (a0_Spots : Value) (xs0_Spots : List Nd) (w0_Spots : Prs w a0_Spots xs0_Spots) (b0_Spots : PrsIn xs0_Spots) :
    Calls Try.prog 13 #[.agg #[.int .i64 a0_X, .int .i64 a0_Y, a0_Spots]] w fun e w' => e = .returned (.bool true) ∧ Below w.heap.size w w' := by
  have hll := w0_Spots.len
  obtain ⟨A, c, rfl⟩ := prs_form2 w0_Spots
  have HP := Lib.hid (show FlAt w (.agg #[.int .i64 a0_X, .int .i64 a0_Y, .slice A xs0_Spots.length c]) ⟨a0_X, a0_Y⟩ xs0_Spots from ⟨A, c, rfl, w0_Spots⟩)
  clear w0_Spots w0_X w0_Y
  have H0 := Lib.hid ((Held.none_ w).new2 w.heap.size rfl [.int .i64 a0_X, .int .i64 a0_Y, .slice A xs0_Spots.length c] 70)
  simp only [newFs, List.cons_append, List.nil_append, List.append_nil] at H0
  have HZ := Lib.hid (fun v w h => szFlawed_any ⟨a0_X, a0_Y⟩ xs0_Spots v w h)
  go_enter Try.func13, Try.ntmps13
  obtain ⟨x0, x1, x2, _⟩ := H0.out.1
  go_wp2_with fail
  refine (HZ.out _ _ (HP.out.step H0.out.below)).mono ?_
  rintro e w1 ⟨q, rfl, hq, hb⟩
  have H1 := Lib.hid (H0.out.step hb); clear hb x0 x1 x2
  obtain ⟨x0, x1, x2, _⟩ := H1.out.1
  rcases hq with hq | ⟨hq, hq1⟩
  · go_wp2_with fail
    go_ret
    exact ⟨rfl, H1.out.below⟩
  clear HZ
  have HS := Lib.hid (fun v w (hv : FlAt w v ⟨a0_X, a0_Y⟩ xs0_Spots) => (show Calls Try.prog 57 #[v] w (IntIs (lgI ⟨a0_X, a0_Y⟩ xs0_Spots) w) by
    obtain ⟨A1, c1, rfl, k⟩ := hv; exact specLgc ⟨a0_X, a0_Y⟩ xs0_Spots _  w k))
  have HI := Lib.hid (fun v w (hv : FlAt w v ⟨a0_X, a0_Y⟩ xs0_Spots) => (show Calls Try.prog 58 #[v] w (IntIs (lgI ⟨a0_X, a0_Y⟩ xs0_Spots) w) by
    obtain ⟨A1, c1, rfl, k⟩ := hv; exact implLgc ⟨a0_X, a0_Y⟩ xs0_Spots _  w k b0_Spots))
  generalize lgI ⟨a0_X, a0_Y⟩ xs0_Spots = r at *
  have HT := Lib.hid (fun v w hv => toFlawed_at ⟨a0_X, a0_Y⟩ xs0_Spots v w hv hq1)
  have HEQ := Lib.hid (fun v u w hv hu => eqFlawed_at ⟨a0_X, a0_Y⟩ xs0_Spots v u w hv hu)
  go_wp2_with fail
  refine (HT.out _ _ (HP.out.step H1.out.below)).mono ?_
  rintro e w2 ⟨v2, rfl, hm, hb⟩
  have H2 := Lib.hid (H1.out.step hb)
  have M2 := Lib.hid hm; clear hm hb x0 x1 x2
  go_wp2_with fail
  refine (HS.out _ _ M2.out).mono ?_
  rintro e w4 ⟨rfl, hb⟩
  have H4 := Lib.hid (H2.out.step hb); clear hb
  obtain ⟨x0, x1, x2, _⟩ := H4.out.1
  go_wp2_with fail
  refine (HT.out _ _ (HP.out.step H4.out.below)).mono ?_
  rintro e w6 ⟨v6, rfl, hm, hb⟩
  have H6 := Lib.hid (H4.out.step hb)
  obtain ⟨B1, d1, rfl, k1⟩ := hm
  have M6 := Lib.hid (show FlAt _ (.agg #[.int .i64 a0_X, .int .i64 a0_Y, .slice B1 xs0_Spots.length d1]) ⟨a0_X, a0_Y⟩ xs0_Spots from ⟨B1, d1, rfl, k1⟩); clear k1 hb x0 x1 x2
  obtain ⟨x0, x1, x2, _⟩ := H6.out.1
  obtain ⟨y0, y1, y2, _⟩ := H6.out.2.1
  have H7 := Lib.hid (H6.out.new2 w6.heap.size rfl [.int .i64 a0_X, .int .i64 a0_Y, .slice B1 xs0_Spots.length d1] 75)
  simp only [newFs, List.cons_append, List.nil_append, List.append_nil] at H7
  have R7 := Lib.hid (M6.out.step ((Below.refl _ _).alloc (Nat.le_refl _) (.cells #[.int .i64 a0_X, .int .i64 a0_Y, .slice B1 xs0_Spots.length d1] 75)))
  go_wp2_with fail
  refine (HI.out _ _ R7.out).mono ?_
  rintro e w8 ⟨rfl, hb⟩
  have H8 := Lib.hid (H7.out.step hb)
  have R8 := Lib.hid (R7.out.step hb)
  clear hb x0 x1 x2
  try clear y0 y1 y2
  obtain ⟨x0, x1, x2, x3, x4, x5, _⟩ := H8.out.1
  go_wp2_with fail
  refine regionW (fun W => (Held _ W [(w6.heap.size, 0, .int .i64 (a0_X)), (w6.heap.size, 0 + 1, .int .i64 (a0_Y)), (w6.heap.size, 0 + 1 + 1, .slice B1 xs0_Spots.length d1), (w.heap.size, 0, .int .i64 (a0_X)), (w.heap.size, 0 + 1, .int .i64 (a0_Y)), (w.heap.size, 0 + 1 + 1, .slice A xs0_Spots.length c)]) ∧ FlAt W (.agg #[.int .i64 a0_X, .int .i64 a0_Y, .slice B1 xs0_Spots.length d1]) ⟨a0_X, a0_Y⟩ xs0_Spots) (by kernel_rfl) ⟨H8.out.drew, (R8.out).step ((Below.refl _ _).drew)⟩ ?_
  refine takeW (i := 0) (v := ?_) (Stable.and (Stable.held _ _) (stable_fl (.agg #[.int .i64 a0_X, .int .i64 a0_Y, .slice B1 xs0_Spots.length d1]) ⟨a0_X, a0_Y⟩ xs0_Spots)) rfl (by kernel_rfl) (by kernel_rfl) (by kernel_rfl) (fun _ _ _ h => h) ?_ ?_
  rotate_left
  · first | (refine Or.inl ⟨by rfl, fun W hS => detR_value (w' := W) ?_ (Below.refl _ _)⟩; obtain ⟨hH, q1⟩ := hS; obtain ⟨x0, x1, x2, x3, x4, x5, _⟩ := hH.1; go_simp; first | done | with_reducible rfl) | fail
  simp only [Act.put, List.setIfInBounds_toArray, List.set_cons_zero, List.set_cons_succ]
  refine takeW (i := 1) (v := ?_) (Stable.and (Stable.held _ _) (stable_fl (.agg #[.int .i64 a0_X, .int .i64 a0_Y, .slice B1 xs0_Spots.length d1]) ⟨a0_X, a0_Y⟩ xs0_Spots)) rfl (by kernel_rfl) (by kernel_rfl) (by kernel_rfl) (fun _ _ _ h => h) ?_ ?_
  rotate_left
  · first | (refine Or.inl ⟨by rfl, fun W hS => detR_value (w' := W) ?_ (Below.refl _ _)⟩; obtain ⟨hH, q1⟩ := hS; obtain ⟨x0, x1, x2, x3, x4, x5, _⟩ := hH.1; go_simp; first | done | with_reducible rfl) | fail
  simp only [Act.put, List.setIfInBounds_toArray, List.set_cons_zero, List.set_cons_succ]
  refine freeW (i := 2) (fun v W => FlAt W v ⟨a0_X, a0_Y⟩ xs0_Spots) (Stable.and (Stable.held _ _) (stable_fl (.agg #[.int .i64 a0_X, .int .i64 a0_Y, .slice B1 xs0_Spots.length d1]) ⟨a0_X, a0_Y⟩ xs0_Spots)) (fun v => stable_fl v ⟨a0_X, a0_Y⟩ xs0_Spots) rfl (by kernel_rfl) (by rfl) (fun W hS => ?_) (fun v1 => ?_)
  · obtain ⟨hH, q1⟩ := hS; refine freeR_call (w' := W) (f := ?_) (args := ?_) ?_ ?_; rotate_left 2; (go_simp; (refine ⟨?_, ?_⟩ <;> with_reducible rfl)); refine (HT.out _ _ (HP.out.step hH.below)).mono ?_; rintro e wn ⟨v, rfl, hm, hb⟩; exact ⟨v, rfl, hm, hb⟩
  simp only [Act.put, List.setIfInBounds_toArray, List.set_cons_zero, List.set_cons_succ]
  refine takeW (i := 3) (v := ?_) (Stable.and (Stable.and (Stable.held _ _) (stable_fl (.agg #[.int .i64 a0_X, .int .i64 a0_Y, .slice B1 xs0_Spots.length d1]) ⟨a0_X, a0_Y⟩ xs0_Spots)) (stable_fl v1 ⟨a0_X, a0_Y⟩ xs0_Spots)) rfl (by kernel_rfl) (by kernel_rfl) (by kernel_rfl) (fun _ _ _ h => h) ?_ ?_
  rotate_left
  · first | (refine Or.inl ⟨by rfl, fun W hS => ?_⟩; obtain ⟨⟨hH, q1⟩, r1⟩ := hS; refine detR_call (w' := W) (f := ?_) (args := ?_) ?_ ?_; rotate_left 2; (go_simp; (refine ⟨?_, ?_⟩ <;> with_reducible rfl)); (first | (with_reducible refine (HEQ.out _ _ _ q1 r1).mono ?_) | fail); (first | (rintro e wn ⟨rfl, hb⟩; refine ⟨?_, hb⟩; with_reducible rfl) | (rintro e wn ⟨rfl, rfl⟩; refine ⟨?_, Below.refl _ _⟩; with_reducible rfl) | fail)) | fail
  simp only [Act.put, List.setIfInBounds_toArray, List.set_cons_zero, List.set_cons_succ]
  refine takeW (i := 4) (v := ?_) (Stable.and (Stable.and (Stable.held _ _) (stable_fl (.agg #[.int .i64 a0_X, .int .i64 a0_Y, .slice B1 xs0_Spots.length d1]) ⟨a0_X, a0_Y⟩ xs0_Spots)) (stable_fl v1 ⟨a0_X, a0_Y⟩ xs0_Spots)) rfl (by kernel_rfl) (by kernel_rfl) (by kernel_rfl) (fun _ _ _ h => h) ?_ ?_
  rotate_left
  · first | (refine Or.inl ⟨by rfl, fun W hS => detR_value (w' := W) ?_ (Below.refl _ _)⟩; obtain ⟨⟨hH, q1⟩, r1⟩ := hS; obtain ⟨x0, x1, x2, x3, x4, x5, _⟩ := hH.1; go_simp; first | done | with_reducible rfl) | fail
  simp only [Act.put, List.setIfInBounds_toArray, List.set_cons_zero, List.set_cons_succ]
  refine doneW (by kernel_rfl) fun wH11 HG => ?_
  obtain ⟨⟨hH, q1⟩, r1⟩ := HG
  have H11 := Lib.hid hH; clear hH
  have MH11_q1 := Lib.hid q1; clear q1
  have MH11_1 := Lib.hid r1; clear r1
  try clear x0 x1 x2 x3 x4 x5
  obtain ⟨x0, x1, x2, x3, x4, x5, _⟩ := H11.out.1
  go_wp2_with fail
  go_ret
  exact ⟨rfl, H11.out.below⟩

set_option maxRecDepth 100000 in
theorem lifted (os : Os) (started : os.Started) (H : Type) (enc : TypeId × Value → H) :
    ReturnsInHanded {} Try.checked os 13 .any (Rows.fnExactLargestClearSpec.pre6 enc Try.prog Try.f13 Rows.fnExactLargestClearRow.domain false) (Rows.fnExactLargestClearSpec.post enc Try.prog Try.f13 false true false false) := by
  refine returnsInHanded_of_change (C := Try.checked) own started (by kernel_rfl) Try.func13
    (ChangeSpec.witness6 (enc := enc) (C := Try.checked) false ⟨#[], #[.agg #[.int .i64 0, .int .i64 0, .slice none 0 0]], []⟩ 8 (by kernel_rfl) (by kernel_rfl) (by kernel_rfl) (by kernel_rfl)) ?_
  intro W base args ds gs before hval0 hW hcnd _
  have hval : ∀ (j : Nat) t v, Try.f13.params[j]? = some t → args[j]? = some v → Value.okWide Try.prog W .any base t v := hval0
  have hW' := hW
  obtain ⟨p, q, hA0, hV, rfl, hfz, hnd⟩ := hW
  have hA : DataW.TrodAll enc Try.prog W 0 (fun _ => true) true Try.f13.params.toList args.toList ds p := hA0
  rw [Try.params13] at hA hval
  obtain ⟨v0, vs0, d0, ds0, p0, q0, hargs, rfl, rfl, h0, r0⟩ := trodAll_cons hA
  obtain ⟨rfl, rfl, rfl⟩ := trodAll_nil r0
  obtain rfl : args = #[v0] := by cases args; simp_all
  obtain ⟨rfl, rfl⟩ := trodVars_none hV
  have k0 := h0
  have lt0 : ∀ x ∈ p0, x.block < W.heap.size := by obtain ⟨m, hm⟩ := k0; exact DataW.trod_lt m _ _ _ hm
  obtain ⟨a0_X, a0_Y, c0, y00, y01, m0, rfl, rfl, rfl, w0_X, w0_Y, g0⟩ := flaw_open Try.underlying70 rfl (by kernel_rfl) rfl (by kernel_rfl) (by kernel_rfl) Try.underlying56 (by kernel_rfl) Try.underlying3 Try.underlying3 (hval 0 70 v0 rfl rfl) h0
  obtain ⟨a0_Spots, xs0_Spots, e0_Spots, w0_Spots, b0_Spots⟩ := prs_openB Try.underlying68 Try.underlying80 (by kernel_rfl) (by kernel_rfl) Try.underlying3 Try.underlying3 g0
  obtain rfl : c0 = a0_Spots := by simpa using e0_Spots
  clear hA0 hval0
  refine (walk W a0_X w0_X a0_Y w0_Y _ xs0_Spots w0_Spots b0_Spots).mono fun e W' ⟨he, bel⟩ => ?_
  subst he
  exact ⟨_, rfl, _, _, _, [], _, [], hW', trodAll_mk1 (shut_bool Try.underlying4 _), trodAll_cons_mk (Below.trod laidOut (by kernel_rfl) (of_decide_eq_true (by kernel_rfl)) k0 bel lt0) (trodAll_mk0), rfl, bel.frame _, fun h => by cases h⟩

theorem over : Rows.fnExactLargestClearRow.holds Try.pinned (OpenSpec.ofChange Rows.fnExactLargestClearSpec) :=
  OpenClaim.holds_of_wide 13 Try.f13 rfl rfl rfl rfl rfl rfl rfl ⟨rfl, rfl, rfl, rfl, rfl⟩ rfl rfl rfl rfl rfl (by kernel_rfl) Try.func13 (by kernel_rfl)
    (of_decide_eq_true (by kernel_rfl)) (by unfold Func.isWrapper; first | (rw [if_pos (by decide +kernel)]; kernel_rfl) | (rw [if_neg (by decide +kernel)]; exact ⟨rfl, rfl⟩))
    (fun os started H enc _ => lifted os started H enc)

/-- THE STATEMENT. -/
theorem proved : Rows.FnExactLargestClearSaid := over
#print axioms proved
end Go.Proofs.Ytfppnaknnijobab.fnExactLargestClear
