/-
  The program's ShareOfLight returns, for every window and every list of stains, the int that the model's ShareOfLight returns, and leaves both as they are: the law FnExactShareOfLight answers true. No condition.
-/
import Derived.Test.YtepacoacalhdcaaGreatRows
import Derived.Test.YtepacoacalhdcaaGreatJoin
import Derived.Test.YtepacoacalhdcaaGreatG1
import Derived.Test.YtepacoacalhdcaaGreatSzl
import Derived.Test.YtepacoacalhdcaaGreatLgv
import Derived.Test.YtepacoacalhdcaaGreatTrL
import Derived.Test.YtepacoacalhdcaaGreatG2
import Derived.WalkKit
import Derived.ProofKit
import Derived.OpenShut
import Derived.ShutString
import Derived.ChangeOld
import Derived.Below
import Derived.Carry
import Derived.Lib.SmallJoins
namespace Go.Proofs.YtepacoacalhdcaaGreat.fnExactShareOfLight
open Go.ChangeShapes Go.WideShapes Go.ChangeAt Go.RowKit Go.Joins
open Go.ChangeMaps (open_string shut_string)
set_option linter.unusedVariables false
set_option linter.unusedSimpArgs false

theorem own : ownKnob Tryz.prog.godebug = none := by kernel_rfl
theorem laidOut : laidOutB Tryz.prog = true := by kernel_rfl
set_option maxRecDepth 100000
theorem walk (w : World) (a0_Nodes : Value) (xs0_Nodes : List Nd) (w0_Nodes : Prs w a0_Nodes xs0_Nodes) (a0_Leads : Value) (xs0_Leads : List Nd) (w0_Leads : Prs w a0_Leads xs0_Leads) (a1 : Value) (xs1 : List Tr) (w1 : Trs w a1 xs1) :
    Calls Tryz.prog 15 #[.agg #[a0_Nodes, a0_Leads], a1] w fun e w' => e = .returned (.bool true) ∧ Below w.heap.size w w' := by
  have hln := w0_Nodes.len
  have hll := w0_Leads.len
  have hlx := w1.len
  have HP := Lib.hid (WinAt.mk w0_Nodes w0_Leads)
  have HQ := Lib.hid w1
  obtain ⟨A, c, rfl⟩ := prs_form2 w0_Nodes
  obtain ⟨A2, c2, rfl⟩ := prs_form2 w0_Leads
  obtain ⟨A3, c3, rfl⟩ := w1.form2
  clear w0_Nodes w0_Leads w1
  have HZ := Lib.hid (fun w => szWindow_lt xs0_Nodes.length c xs0_Leads.length c2 A A2 1048576 w (by omega) (by omega) hln hll)
  have HS := Lib.hid (fun v u w (hv : WinAt w v xs0_Nodes xs0_Leads) (hu : Trs w u xs1) => (show Calls Tryz.prog 52 #[v, u] w (IntIs (shaW xs0_Nodes xs0_Leads xs1) w) by
    obtain ⟨A1, A2, c1, c2, rfl, k1, k2⟩ := hv; exact specShrL _ _ _ _ _ _ w k1 k2 hu))
  have HI := Lib.hid (fun v u w (hv : WinAt w v xs0_Nodes xs0_Leads) (hu : Trs w u xs1) => (show Calls Tryz.prog 53 #[v, u] w (IntIs (shaW xs0_Nodes xs0_Leads xs1) w) by
    obtain ⟨A1, A2, c1, c2, rfl, k1, k2⟩ := hv; exact implShrL _ _ _ _ _ _ w k1 k2 hu))
  generalize shaW xs0_Nodes xs0_Leads xs1 = Lx at *
  unfold IntIs at HS HI
  have HT := Lib.hid (fun v w hv h1 h2 => toWindow_at xs0_Nodes xs0_Leads v w hv h1 h2)
  have HEQ := Lib.hid (fun v u w hv hu => eqWindow_at xs0_Nodes xs0_Leads v u w hv hu)
  have HEQ2 := Lib.hid (fun v u w hv hu => eqStainS_yes xs1 v u w hv hu)
  unfold BoolIs at HEQ2
  have H0 := Lib.hid ((Held.none_ w).new2 w.heap.size rfl [.slice A xs0_Nodes.length c, .slice A2 xs0_Leads.length c2] 25)
  go_enter Tryz.func15, Tryz.ntmps15
  go_wp2_with fail
  refine (HZ.out _).mono ?_
  rintro e w1 ⟨q, rfl, hq, hb⟩
  have H1 := Lib.hid (H0.out.step hb); clear hb
  obtain ⟨x0, x1, _⟩ := H1.out.1
  rcases hq with hq | ⟨hq, hq9, hq1, hq2⟩
  · go_wp2_with fail
    go_ret
    exact ⟨rfl, H1.out.below⟩
  have HT := Lib.hid (fun v w hv => HT.out v w hv hq1 hq2)
  have HZ2 := Lib.hid (fun w => szStainS_any xs1.length c3 A3 q w hq (by omega) hlx)
  go_wp2_with fail
  refine (HZ2.out _).mono ?_
  rintro e w1' ⟨rfl, rfl⟩
  by_cases hbig1 : q < (xs1.length : Int)
  · rw [if_pos hbig1]
    go_wp2_with fail
    go_ret
    exact ⟨rfl, H1.out.below⟩
  have hl1 : xs1.length ≤ 1048576 := by omega
  rw [if_neg hbig1]
  obtain ⟨q', hq', hq0⟩ : ∃ q' : Int, q - (xs1.length : Int) = q' ∧ 0 ≤ q' := ⟨_, rfl, by omega⟩
  rw [hq']
  clear HZ HZ2 hq' hbig1
  have HT2 := Lib.hid (fun w h => toStainS_any xs1 (.slice A3 xs1.length c3) w h hl1)
  unfold TpsNew at HT2
  go_wp2_with fail
  refine (HT.out _ _ (HP.out.step H1.out.below)).mono ?_
  rintro e w2 ⟨v2, rfl, hm, hb⟩
  have H2 := Lib.hid (H1.out.step hb)
  have M2 := Lib.hid hm; clear hm hb x0 x1
  go_wp2_with fail
  refine (HT2.out _ (HQ.out.step H2.out.below)).mono ?_
  rintro e w3 ⟨v3, rfl, hm, hb⟩
  have H3 := Lib.hid (H2.out.step hb)
  have M3 := Lib.hid (M2.out.step hb)
  have Q3 := Lib.hid hm.trs; clear hm hb
  go_wp2_with fail
  refine (HS.out _ _ _ M3.out Q3.out).mono ?_
  rintro e w4 ⟨rfl, hb⟩
  have H4 := Lib.hid (H3.out.step hb); clear hb
  obtain ⟨x0, x1, _⟩ := H4.out.1
  go_wp2_with fail
  refine (HT.out _ _ (HP.out.step H4.out.below)).mono ?_
  rintro e w5 ⟨v5, rfl, hm, hb⟩
  have H5 := Lib.hid (H4.out.step hb); clear hb
  obtain ⟨B1, B2, d1, d2, rfl, k1, k2⟩ := hm
  have M5 := Lib.hid (WinAt.mk k1 k2); clear k1 k2 x0 x1
  obtain ⟨x0, x1, _⟩ := H5.out.1
  obtain ⟨y0, _, _⟩ := H5.out.2.1
  go_wp2_with fail
  have b6 : Below w5.heap.size w5 (w5.alloc (.cells #[.slice B1 xs0_Nodes.length d1, .slice B2 xs0_Leads.length d2] 32)) := (Below.refl _ _).alloc (Nat.le_refl _) _
  have H6 := Lib.hid (H5.out.new2 w5.heap.size rfl [.slice B1 xs0_Nodes.length d1, .slice B2 xs0_Leads.length d2] 32)
  have M6 := Lib.hid (M5.out.step b6)
  clear b6
  refine (HT2.out _ (HQ.out.step H6.out.below)).mono ?_
  rintro e w7 ⟨v7, rfl, hm, hb⟩
  have H7 := Lib.hid (H6.out.step hb)
  have M7 := Lib.hid (M6.out.step hb)
  have Q7 := Lib.hid hm.trs
  clear hm hb x0 x1 y0
  obtain ⟨x0, x1, x2, x3, _⟩ := H7.out.1
  go_wp2_with fail
  refine (HI.out _ _ _ M7.out Q7.out).mono ?_
  rintro e w8 ⟨rfl, hb⟩
  have H8 := Lib.hid (H7.out.step hb)
  have M8 := Lib.hid (M7.out.step hb)
  have Q8 := Lib.hid (Q7.out.step hb)
  clear hb x0 x1 x2 x3
  obtain ⟨x0, x1, x2, x3, _⟩ := H8.out.1
  go_wp2_with fail
  refine regionW (fun W => ((Held _ W [(w5.heap.size, 0, .slice B1 xs0_Nodes.length d1), (w5.heap.size, 1, .slice B2 xs0_Leads.length d2), (w.heap.size, 0, .slice A xs0_Nodes.length c), (w.heap.size, 1, .slice A2 xs0_Leads.length c2)]) ∧ WinAt W (.agg #[.slice B1 xs0_Nodes.length d1, .slice B2 xs0_Leads.length d2]) xs0_Nodes xs0_Leads) ∧ Trs W v7 xs1) (by kernel_rfl) ⟨⟨H8.out.drew, (M8.out).step ((Below.refl _ _).drew)⟩, (Q8.out).step ((Below.refl _ _).drew)⟩ ?_
  refine takeW (i := 0) (v := ?_) (Stable.and (Stable.and (Stable.held _ _) (stable_win (.agg #[.slice B1 xs0_Nodes.length d1, .slice B2 xs0_Leads.length d2]) xs0_Nodes xs0_Leads)) (stable_trs v7 xs1)) rfl (by kernel_rfl) (by kernel_rfl) (by kernel_rfl) (fun _ _ _ h => h) ?_ ?_
  rotate_left
  · first | (refine Or.inl ⟨by rfl, fun W hS => detR_value (w' := W) ?_ (Below.refl _ _)⟩; obtain ⟨⟨hH, q1⟩, q2⟩ := hS; obtain ⟨x0, x1, x2, x3, _⟩ := hH.1; go_simp; first | done | with_reducible rfl) | fail
  simp only [Act.put, List.setIfInBounds_toArray, List.set_cons_zero, List.set_cons_succ]
  refine takeW (i := 1) (v := ?_) (Stable.and (Stable.and (Stable.held _ _) (stable_win (.agg #[.slice B1 xs0_Nodes.length d1, .slice B2 xs0_Leads.length d2]) xs0_Nodes xs0_Leads)) (stable_trs v7 xs1)) rfl (by kernel_rfl) (by kernel_rfl) (by kernel_rfl) (fun _ _ _ h => h) ?_ ?_
  rotate_left
  · first | (refine Or.inl ⟨by rfl, fun W hS => detR_value (w' := W) ?_ (Below.refl _ _)⟩; obtain ⟨⟨hH, q1⟩, q2⟩ := hS; obtain ⟨x0, x1, x2, x3, _⟩ := hH.1; go_simp; first | done | with_reducible rfl) | fail
  simp only [Act.put, List.setIfInBounds_toArray, List.set_cons_zero, List.set_cons_succ]
  refine freeW (i := 2) (fun v W => WinAt W v xs0_Nodes xs0_Leads) (Stable.and (Stable.and (Stable.held _ _) (stable_win (.agg #[.slice B1 xs0_Nodes.length d1, .slice B2 xs0_Leads.length d2]) xs0_Nodes xs0_Leads)) (stable_trs v7 xs1)) (fun v => stable_win v xs0_Nodes xs0_Leads) rfl (by kernel_rfl) (by rfl) (fun W hS => ?_) (fun v1 => ?_)
  · obtain ⟨⟨hH, q1⟩, q2⟩ := hS; refine freeR_call (w' := W) (f := ?_) (args := ?_) ?_ ?_; rotate_left 2; (go_simp; (refine ⟨?_, ?_⟩ <;> with_reducible rfl)); refine (HT.out _ _ (HP.out.step hH.below)).mono ?_; rintro e wn ⟨v, rfl, hm, hb⟩; exact ⟨v, rfl, hm, hb⟩
  simp only [Act.put, List.setIfInBounds_toArray, List.set_cons_zero, List.set_cons_succ]
  refine takeW (i := 3) (v := ?_) (Stable.and (Stable.and (Stable.and (Stable.held _ _) (stable_win (.agg #[.slice B1 xs0_Nodes.length d1, .slice B2 xs0_Leads.length d2]) xs0_Nodes xs0_Leads)) (stable_trs v7 xs1)) (stable_win v1 xs0_Nodes xs0_Leads)) rfl (by kernel_rfl) (by kernel_rfl) (by kernel_rfl) (fun _ _ _ h => h) ?_ ?_
  rotate_left
  · first | (refine Or.inl ⟨by rfl, fun W hS => ?_⟩; obtain ⟨⟨⟨hH, q1⟩, q2⟩, r1⟩ := hS; refine detR_call (w' := W) (f := ?_) (args := ?_) ?_ ?_; rotate_left 2; (go_simp; (refine ⟨?_, ?_⟩ <;> with_reducible rfl)); (first | (with_reducible refine (HEQ.out _ _ _ q1 r1).mono ?_) | fail); (first | (rintro e wn ⟨rfl, hb⟩; refine ⟨?_, hb⟩; with_reducible rfl) | (rintro e wn ⟨rfl, rfl⟩; refine ⟨?_, Below.refl _ _⟩; with_reducible rfl) | fail)) | fail
  simp only [Act.put, List.setIfInBounds_toArray, List.set_cons_zero, List.set_cons_succ]
  refine takeW (i := 4) (v := ?_) (Stable.and (Stable.and (Stable.and (Stable.held _ _) (stable_win (.agg #[.slice B1 xs0_Nodes.length d1, .slice B2 xs0_Leads.length d2]) xs0_Nodes xs0_Leads)) (stable_trs v7 xs1)) (stable_win v1 xs0_Nodes xs0_Leads)) rfl (by kernel_rfl) (by kernel_rfl) (by kernel_rfl) (fun _ _ _ h => h) ?_ ?_
  rotate_left
  · first | (refine Or.inl ⟨by rfl, fun W hS => detR_value (w' := W) ?_ (Below.refl _ _)⟩; obtain ⟨⟨⟨hH, q1⟩, q2⟩, r1⟩ := hS; obtain ⟨x0, x1, x2, x3, _⟩ := hH.1; go_simp; first | done | with_reducible rfl) | fail
  simp only [Act.put, List.setIfInBounds_toArray, List.set_cons_zero, List.set_cons_succ]
  refine doneW (by kernel_rfl) fun wH9 HG => ?_
  obtain ⟨⟨⟨hH, q1⟩, q2⟩, r1⟩ := HG
  have H9 := Lib.hid hH; clear hH
  have MH9_q1 := Lib.hid q1; clear q1
  have MH9_q2 := Lib.hid q2; clear q2
  have MH9_1 := Lib.hid r1; clear r1
  try clear x0 x1 x2 x3
  obtain ⟨x0, x1, x2, x3, _⟩ := H9.out.1
  go_wp2_with fail
  go_wp2_with fail
  refine (HT2.out _ (HQ.out.step H9.out.below)).mono ?_
  rintro e w10 ⟨v10, rfl, hm, hb⟩
  have H10 := Lib.hid (H9.out.step hb)
  have Q10 := Lib.hid (MH9_q2.out.step hb)
  have Z10 := Lib.hid hm.trs
  clear hm hb
  go_wp2_with fail
  refine (HEQ2.out _ _ _ Q10.out Z10.out).mono ?_
  rintro e w11 ⟨rfl, hb⟩
  go_wp2_with fail
  go_ret
  exact ⟨rfl, (H10.out.step hb).below⟩

set_option maxRecDepth 100000 in
theorem lifted (os : Os) (started : os.Started) (H : Type) (enc : TypeId × Value → H) :
    ReturnsInHanded {} Tryz.checked os 15 .any (Rows.fnExactShareOfLightSpec.pre6 enc Tryz.prog Tryz.f15 Rows.fnExactShareOfLightRow.domain false) (Rows.fnExactShareOfLightSpec.post enc Tryz.prog Tryz.f15 false true false false) := by
  refine returnsInHanded_of_change (C := Tryz.checked) own started (by kernel_rfl) Tryz.func15
    (ChangeSpec.witness6 (enc := enc) (C := Tryz.checked) false ⟨#[], #[.agg #[.slice none 0 0, .slice none 0 0], .slice none 0 0], []⟩ 8 (by kernel_rfl) (by kernel_rfl) (by kernel_rfl) (by kernel_rfl)) ?_
  intro W base args ds gs before hval0 hW hcnd _
  have hval : ∀ (j : Nat) t v, Tryz.f15.params[j]? = some t → args[j]? = some v → Value.okWide Tryz.prog W .any base t v := hval0
  have hW' := hW
  obtain ⟨p, q, hA0, hV, rfl, hfz, hnd⟩ := hW
  have hA : DataW.TrodAll enc Tryz.prog W 0 (fun _ => true) true Tryz.f15.params.toList args.toList ds p := hA0
  rw [Tryz.params15] at hA hval
  obtain ⟨v0, vs0, d0, ds0, p0, q0, hargs, rfl, rfl, h0, r0⟩ := trodAll_cons hA
  obtain ⟨v1, vs1, d1, ds1, p1, q1, rfl, rfl, rfl, h1, r1⟩ := trodAll_cons r0
  obtain ⟨rfl, rfl, rfl⟩ := trodAll_nil r1
  obtain rfl : args = #[v0, v1] := by cases args; simp_all
  obtain ⟨rfl, rfl⟩ := trodVars_none hV
  have k0 := h0
  have lt0 : ∀ x ∈ p0, x.block < W.heap.size := by obtain ⟨m, hm⟩ := k0; exact DataW.trod_lt m _ _ _ hm
  have k1 := h1
  have lt1 : ∀ x ∈ p1, x.block < W.heap.size := by obtain ⟨m, hm⟩ := k1; exact DataW.trod_lt m _ _ _ hm
  obtain ⟨c00, c01, y00, y01, m0, rfl, rfl, rfl, g00, g01⟩ := open_agg2 Tryz.underlying25 (by kernel_rfl) (by kernel_rfl) (hval 0 25 v0 rfl rfl) h0
  obtain ⟨a0_Nodes, xs0_Nodes, e0_Nodes, w0_Nodes⟩ := prs_open Tryz.underlying22 Tryz.underlying149 (by kernel_rfl) (by kernel_rfl) Tryz.underlying3 Tryz.underlying3 g00
  obtain rfl : c00 = a0_Nodes := by simpa using e0_Nodes
  obtain ⟨a0_Leads, xs0_Leads, e0_Leads, w0_Leads⟩ := prs_open Tryz.underlying23 Tryz.underlying153 (by kernel_rfl) (by kernel_rfl) Tryz.underlying3 Tryz.underlying3 g01
  obtain rfl : c01 = a0_Leads := by simpa using e0_Leads
  obtain ⟨A1, len1, cap1, rfl⟩ := Go.WideShapes.okWide_slice Tryz.underlying61 (hval 1 61 v1 rfl rfl)
  obtain ⟨fuel1, hf1⟩ := h1
  obtain ⟨a1, xs1, e1, w1⟩ := trs_open Tryz.underlying61 Tryz.underlying141 (by kernel_rfl) (by kernel_rfl) Tryz.underlying3 Tryz.underlying3 Tryz.underlying3 hf1
  simp [Value.cells] at e1
  subst e1
  clear hA0 hval0
  refine (walk W _ xs0_Nodes w0_Nodes _ xs0_Leads w0_Leads _ xs1 w1).mono fun e W' ⟨he, bel⟩ => ?_
  subst he
  exact ⟨_, rfl, _, _, _, [], _, [], hW', trodAll_mk1 (shut_bool Tryz.underlying4 _), trodAll_cons_mk (Below.trod laidOut (by kernel_rfl) (of_decide_eq_true (by kernel_rfl)) k0 bel lt0) (trodAll_cons_mk (Below.trod laidOut (by kernel_rfl) (of_decide_eq_true (by kernel_rfl)) k1 bel lt1) (trodAll_mk0)), rfl, bel.frame _, fun h => by cases h⟩

theorem jA : (Rows.fnExactShareOfLightRow.inPlace == Tryz.pinned.checked.prog.inPlace 15) = true := by kernel_rfl
theorem jB : (Rows.fnExactShareOfLightRow.unfollowed == Tryz.pinned.checked.prog.unfollowed 15) = true := by kernel_rfl
theorem jC : (Rows.fnExactShareOfLightRow.recurses == Tryz.pinned.checked.prog.recurses 15) = true := by kernel_rfl
theorem jD : (Rows.fnExactShareOfLightRow.named == Tryz.pinned.checked.prog.varsNamed 15) = true := by kernel_rfl
theorem closed : joinedFacts Tryz.pinned.checked.prog 15 Tryz.f15 Rows.fnExactShareOfLightSpec Rows.fnExactShareOfLightRow = true := by
  unfold joinedFacts
  repeat' (with_reducible refine and_yes ?_ ?_)
  all_goals first | with_reducible exact jEnter | with_reducible exact jHeard | with_reducible exact jLaid | with_reducible exact jMaps | with_reducible exact jA | with_reducible exact jB | with_reducible exact jC | with_reducible exact jD | kernel_rfl

theorem over : Rows.fnExactShareOfLightRow.holds Tryz.pinned (OpenSpec.ofChange Rows.fnExactShareOfLightSpec) :=
  OpenClaim.holds_of_wide 15 Tryz.f15 rfl rfl rfl rfl rfl rfl rfl ⟨rfl, rfl, rfl, rfl, rfl⟩ rfl rfl rfl rfl rfl (by kernel_rfl) Tryz.func15 closed
    (of_decide_eq_true (by kernel_rfl)) (by unfold Func.isWrapper; first | (rw [if_pos (by decide +kernel)]; kernel_rfl) | (rw [if_neg (by decide +kernel)]; exact ⟨rfl, rfl⟩))
    (fun os started H enc _ => lifted os started H enc)

/-- THE STATEMENT. -/
theorem proved : Rows.FnExactShareOfLightSaid := over
#print axioms proved
end Go.Proofs.YtepacoacalhdcaaGreat.fnExactShareOfLight
