/-
  The program's MayReplace returns, for every window and every list of ints and every two ints, what the model's MayReplace returns, and leaves the window and the list as they are: the law FnExactMayReplace answers true. No condition.
-/
import Derived.Test.YtepacoacalhdcaaGreatRows
import Derived.Test.YtepacoacalhdcaaGreatJoin
import Derived.Test.YtepacoacalhdcaaGreatG1
import Derived.Test.YtepacoacalhdcaaGreatMay
import Derived.Test.YtepacoacalhdcaaGreatG2
import Derived.WalkKit
import Derived.ProofKit
import Derived.OpenShut
import Derived.ShutString
import Derived.ChangeOld
import Derived.Below
import Derived.Carry
import Derived.Lib.SmallJoins
namespace Go.Proofs.YtepacoacalhdcaaGreat.fnExactMayReplace
open Go.ChangeShapes Go.WideShapes Go.ChangeAt Go.RowKit Go.Joins
open Go.ChangeMaps (open_string shut_string)
set_option linter.unusedVariables false
set_option linter.unusedSimpArgs false

theorem own : ownKnob Tryz.prog.godebug = none := by kernel_rfl
theorem laidOut : laidOutB Tryz.prog = true := by kernel_rfl
set_option maxRecDepth 100000
def WinQ (u1 u2 vx : Value) (B : Nat) (ns ls : List Nd) (xs : List Int) (w : World) : Prop := WinAt w (.agg #[u1, u2]) ns ls ∧ Ints w B vx xs
theorem WinQ.step {u1 u2 vx : Value} {B : Nat} {ns ls : List Nd} {xs : List Int} {w w' : World} (h : WinQ u1 u2 vx B ns ls xs w) (hb : Below w.heap.size w w') : WinQ u1 u2 vx B ns ls xs w' := ⟨h.1.step hb, h.2.step hb⟩
theorem stable_winq (u1 u2 vx : Value) (B : Nat) (ns ls : List Nd) (xs : List Int) : Stable fun W => WinQ u1 u2 vx B ns ls xs W := fun _ _ h hb => ⟨h.1.step hb, h.2.step hb⟩
theorem WinQ.win {u1 u2 vx : Value} {B : Nat} {ns ls : List Nd} {xs : List Int} {w : World} (h : WinQ u1 u2 vx B ns ls xs w) : WinAt w (.agg #[u1, u2]) ns ls := h.1
theorem walk (w : World) (a0_Nodes : Value) (xs0_Nodes : List Nd) (w0_Nodes : Prs w a0_Nodes xs0_Nodes) (a0_Leads : Value) (xs0_Leads : List Nd) (w0_Leads : Prs w a0_Leads xs0_Leads) (a1 : Value) (xs1 : List Int) (w1 : Seq w a1 xs1) (a2 : Int) (w2 : (Lit.int .i64 a2).wf = true) (a3 : Int) (w3 : (Lit.int .i64 a3).wf = true) :
    Calls Tryz.prog 7 #[.agg #[a0_Nodes, a0_Leads], a1, .int .i64 a2, .int .i64 a3] w fun e w' => e = .returned (.bool true) ∧ Below w.heap.size w w' := by
  have hln := w0_Nodes.len
  have hll := w0_Leads.len
  have HP := Lib.hid (WinAt.mk w0_Nodes w0_Leads)
  have HQ := Lib.hid w1
  obtain ⟨A, c, rfl⟩ := prs_form2 w0_Nodes
  obtain ⟨A2, c2, rfl⟩ := prs_form2 w0_Leads
  obtain ⟨A3, c3, rfl⟩ := seq_form2 w1
  clear w0_Nodes w0_Leads w1 w2 w3
  have HZ := Lib.hid (szWindow_any xs0_Nodes.length c xs0_Leads.length c2 A A2 · hln hll)
  have H0 := Lib.hid ((Held.none_ w).new2 w.heap.size rfl [.slice A xs0_Nodes.length c, .slice A2 xs0_Leads.length c2] 25)
  go_enter Tryz.func7, Tryz.ntmps7
  by_cases hbig : 1048576 < xs1.length
  · go_wp2_with fail
    go_ret
    exact ⟨rfl, H0.out.below⟩
  have hlen1 : xs1.length ≤ 1048576 := by omega
  have HS := Lib.hid (fun v u w (hv : WinAt w v xs0_Nodes xs0_Leads) (hu : Seq w u xs1) => (show Calls Tryz.prog 32 #[v, u, .int .i64 a2, .int .i64 a3] w (BoolIs (mayB xs0_Nodes xs0_Leads xs1 a2 a3) w) by
    obtain ⟨A1, A2, c1, c2, rfl, k1, k2⟩ := hv; exact specMay _ _ _ _ _ _ _ _ w k1 k2 hu))
  have HI := Lib.hid (fun v u w (hv : WinAt w v xs0_Nodes xs0_Leads) (hu : Seq w u xs1) => (show Calls Tryz.prog 33 #[v, u, .int .i64 a2, .int .i64 a3] w (BoolIs (mayB xs0_Nodes xs0_Leads xs1 a2 a3) w) by
    obtain ⟨A1, A2, c1, c2, rfl, k1, k2⟩ := hv; exact implMay _ _ _ _ _ _ _ _ w k1 k2 hu))
  generalize mayB xs0_Nodes xs0_Leads xs1 a2 a3 = r at *
  have HT := Lib.hid (fun v w hv h1 h2 => toWindow_at xs0_Nodes xs0_Leads v w hv h1 h2)
  have HT2 := Lib.hid (fun w h => toIntS_any xs1 (.slice A3 xs1.length c3) w h hlen1)
  unfold IntsNew at HT2
  have HEQ := Lib.hid (fun v u w hv hu => eqWindow_at xs0_Nodes xs0_Leads v u w hv hu)
  have HEQ2 := Lib.hid (fun v u w hv hu => eqIntS_seq (w := w) (v1 := v) (v2 := u) (fs := xs1) hv hu)
  go_wp2_with fail
  refine (HZ.out _).mono ?_
  rintro e w1 ⟨q, rfl, hq, hb⟩
  have H1 := Lib.hid (H0.out.step hb); clear hb
  obtain ⟨x0, x1, _⟩ := H1.out.1
  rcases hq with hq | ⟨hq, hq1, hq2⟩
  · go_wp2_with fail
    go_ret
    exact ⟨rfl, H1.out.below⟩
  have HT := Lib.hid (fun v w hv => HT.out v w hv hq1 hq2)
  go_wp2_with fail
  refine (HT.out _ _ (HP.out.step H1.out.below)).mono ?_
  rintro e w2 ⟨v2, rfl, hm, hb⟩
  have H2 := Lib.hid (H1.out.step hb)
  have M2 := Lib.hid hm; clear hm hb x0 x1
  go_wp2_with fail
  refine (HT2.out _ (HQ.out.step H2.out.below)).mono ?_
  rintro e w3 ⟨v3, rfl, hm, hb⟩
  have H3 := Lib.hid (H2.out.step hb)
  have M3 := Lib.hid (M2.out.step hb)
  have Q3 := Lib.hid hm; clear hm hb
  go_wp2_with fail
  refine (HS.out _ _ _ M3.out Q3.out.seq).mono ?_
  rintro e w4 ⟨rfl, hb⟩
  have H4 := Lib.hid (H3.out.step hb); clear hb
  obtain ⟨x0, x1, _⟩ := H4.out.1
  go_wp2_with fail
  refine (HT.out _ _ (HP.out.step H4.out.below)).mono ?_
  rintro e w5 ⟨v5, rfl, hm, hb⟩
  have H5 := Lib.hid (H4.out.step hb); clear hb
  obtain ⟨B1, B2, d1, d2, rfl, k1, k2⟩ := hm
  have M5 := Lib.hid (WinAt.mk k1 k2); clear k1 k2
  clear x0 x1
  obtain ⟨x0, x1, _⟩ := H5.out.1
  obtain ⟨y0, _, _⟩ := H5.out.2.1
  go_wp2_with fail
  have H6 := Lib.hid (H5.out.new2 w5.heap.size rfl [.slice B1 xs0_Nodes.length d1, .slice B2 xs0_Leads.length d2] 32)
  have M6 := Lib.hid (M5.out.step (Below.refl _ _ |>.alloc (Nat.le_refl _) (.cells #[.slice B1 xs0_Nodes.length d1, .slice B2 xs0_Leads.length d2] 32)))
  refine (HT2.out _ (HQ.out.step H6.out.below)).mono ?_
  rintro e w7 ⟨vx, rfl, hm, hb⟩
  have H7 := Lib.hid (H6.out.step hb)
  have M7 := Lib.hid (M6.out.step hb)
  have Q7 := Lib.hid (hm.mono (b' := w5.heap.size + 1) (by simp)); clear hm hb x0 x1 y0
  obtain ⟨x0, x1, x2, x3, _⟩ := H7.out.1
  go_wp2_with fail
  refine (HI.out _ _ _ M7.out Q7.out.seq).mono ?_
  rintro e w8 ⟨rfl, hb⟩
  have H8 := Lib.hid (H7.out.step hb)
  have R8 := Lib.hid (show WinQ (.slice B1 xs0_Nodes.length d1) (.slice B2 xs0_Leads.length d2) vx (w5.heap.size + 1) xs0_Nodes xs0_Leads xs1 _ from ⟨M7.out.step hb, Q7.out.step hb⟩)
  clear hb x0 x1 x2 x3
  obtain ⟨x0, x1, x2, x3, _⟩ := H8.out.1
  go_wp2_with fail
  refine regionW (fun W => (Held _ W [(w5.heap.size, 0, .slice B1 xs0_Nodes.length d1), (w5.heap.size, 1, .slice B2 xs0_Leads.length d2), (w.heap.size, 0, .slice A xs0_Nodes.length c), (w.heap.size, 1, .slice A2 xs0_Leads.length c2)]) ∧ WinQ (.slice B1 xs0_Nodes.length d1) (.slice B2 xs0_Leads.length d2) vx (w5.heap.size + 1) xs0_Nodes xs0_Leads xs1 W) (by kernel_rfl) ⟨H8.out.drew, (R8.out).step ((Below.refl _ _).drew)⟩ ?_
  refine takeW (i := 0) (v := ?_) (Stable.and (Stable.held _ _) (stable_winq (.slice B1 xs0_Nodes.length d1) (.slice B2 xs0_Leads.length d2) vx (w5.heap.size + 1) xs0_Nodes xs0_Leads xs1)) rfl (by kernel_rfl) (by kernel_rfl) (by kernel_rfl) (fun _ _ _ h => h) ?_ ?_
  rotate_left
  · first | (refine Or.inl ⟨by rfl, fun W hS => detR_value (w' := W) ?_ (Below.refl _ _)⟩; obtain ⟨hH, q1⟩ := hS; obtain ⟨x0, x1, x2, x3, _⟩ := hH.1; go_simp; first | done | with_reducible rfl) | fail
  simp only [Act.put, List.setIfInBounds_toArray, List.set_cons_zero, List.set_cons_succ]
  refine takeW (i := 1) (v := ?_) (Stable.and (Stable.held _ _) (stable_winq (.slice B1 xs0_Nodes.length d1) (.slice B2 xs0_Leads.length d2) vx (w5.heap.size + 1) xs0_Nodes xs0_Leads xs1)) rfl (by kernel_rfl) (by kernel_rfl) (by kernel_rfl) (fun _ _ _ h => h) ?_ ?_
  rotate_left
  · first | (refine Or.inl ⟨by rfl, fun W hS => detR_value (w' := W) ?_ (Below.refl _ _)⟩; obtain ⟨hH, q1⟩ := hS; obtain ⟨x0, x1, x2, x3, _⟩ := hH.1; go_simp; first | done | with_reducible rfl) | fail
  simp only [Act.put, List.setIfInBounds_toArray, List.set_cons_zero, List.set_cons_succ]
  refine freeW (i := 2) (fun v W => WinAt W v xs0_Nodes xs0_Leads) (Stable.and (Stable.held _ _) (stable_winq (.slice B1 xs0_Nodes.length d1) (.slice B2 xs0_Leads.length d2) vx (w5.heap.size + 1) xs0_Nodes xs0_Leads xs1)) (fun v => stable_win v xs0_Nodes xs0_Leads) rfl (by kernel_rfl) (by rfl) (fun W hS => ?_) (fun v1 => ?_)
  · obtain ⟨hH, q1⟩ := hS; refine freeR_call (w' := W) (f := ?_) (args := ?_) ?_ ?_; rotate_left 2; (go_simp; (refine ⟨?_, ?_⟩ <;> with_reducible rfl)); refine (HT.out _ _ (HP.out.step hH.below)).mono ?_; rintro e wn ⟨v, rfl, hm, hb⟩; exact ⟨v, rfl, hm, hb⟩
  simp only [Act.put, List.setIfInBounds_toArray, List.set_cons_zero, List.set_cons_succ]
  refine takeW (i := 3) (v := ?_) (Stable.and (Stable.and (Stable.held _ _) (stable_winq (.slice B1 xs0_Nodes.length d1) (.slice B2 xs0_Leads.length d2) vx (w5.heap.size + 1) xs0_Nodes xs0_Leads xs1)) (stable_win v1 xs0_Nodes xs0_Leads)) rfl (by kernel_rfl) (by kernel_rfl) (by kernel_rfl) (fun _ _ _ h => h) ?_ ?_
  rotate_left
  · first | (refine Or.inl ⟨by rfl, fun W hS => ?_⟩; obtain ⟨⟨hH, q1⟩, r1⟩ := hS; refine detR_call (w' := W) (f := ?_) (args := ?_) ?_ ?_; rotate_left 2; (go_simp; (refine ⟨?_, ?_⟩ <;> with_reducible rfl)); (first | (with_reducible refine (HEQ.out _ _ _ (WinQ.win q1) r1).mono ?_) | fail); (first | (rintro e wn ⟨rfl, hb⟩; refine ⟨?_, hb⟩; with_reducible rfl) | (rintro e wn ⟨rfl, rfl⟩; refine ⟨?_, Below.refl _ _⟩; with_reducible rfl) | fail)) | fail
  simp only [Act.put, List.setIfInBounds_toArray, List.set_cons_zero, List.set_cons_succ]
  refine takeW (i := 4) (v := ?_) (Stable.and (Stable.and (Stable.held _ _) (stable_winq (.slice B1 xs0_Nodes.length d1) (.slice B2 xs0_Leads.length d2) vx (w5.heap.size + 1) xs0_Nodes xs0_Leads xs1)) (stable_win v1 xs0_Nodes xs0_Leads)) rfl (by kernel_rfl) (by kernel_rfl) (by kernel_rfl) (fun _ _ _ h => h) ?_ ?_
  rotate_left
  · first | (refine Or.inl ⟨by rfl, fun W hS => detR_value (w' := W) ?_ (Below.refl _ _)⟩; obtain ⟨⟨hH, q1⟩, r1⟩ := hS; obtain ⟨x0, x1, x2, x3, _⟩ := hH.1; go_simp; first | done | with_reducible rfl) | fail
  simp only [Act.put, List.setIfInBounds_toArray, List.set_cons_zero, List.set_cons_succ]
  refine doneW (by kernel_rfl) fun wH9 HG => ?_
  obtain ⟨⟨hH, q1⟩, r1⟩ := HG
  have H9 := Lib.hid hH; clear hH
  have MH9_q1 := Lib.hid q1; clear q1
  have MH9_1 := Lib.hid r1; clear r1
  try clear x0 x1 x2 x3
  obtain ⟨x0, x1, x2, x3, _⟩ := H9.out.1
  go_wp2_with fail
  have Q9 := Lib.hid MH9_q1.out.2
  clear MH9_q1 MH9_1
  go_wp2_with fail
  refine (HT2.out _ (HQ.out.step H9.out.below)).mono ?_
  rintro e w10 ⟨vy, rfl, hm, hb⟩
  have H10 := Lib.hid (H9.out.step hb)
  have Q10 := Lib.hid (Q9.out.step hb)
  have Y10 := Lib.hid hm; clear hm hb
  go_wp2_with fail
  refine (HEQ2.out _ _ _ Q10.out.seq Y10.out.seq).mono ?_
  rintro e w11' ⟨rfl, n11, rfl⟩
  go_wp2_with fail
  go_ret
  exact ⟨rfl, (H10.out.step (below_drewN (Below.refl _ _) n11)).below⟩

set_option maxRecDepth 100000 in
theorem lifted (os : Os) (started : os.Started) (H : Type) (enc : TypeId × Value → H) :
    ReturnsInHanded {} Tryz.checked os 7 .any (Rows.fnExactMayReplaceSpec.pre6 enc Tryz.prog Tryz.f7 Rows.fnExactMayReplaceRow.domain false) (Rows.fnExactMayReplaceSpec.post enc Tryz.prog Tryz.f7 false true false false) := by
  refine returnsInHanded_of_change (C := Tryz.checked) own started (by kernel_rfl) Tryz.func7
    (ChangeSpec.witness6 (enc := enc) (C := Tryz.checked) false ⟨#[], #[.agg #[.slice none 0 0, .slice none 0 0], .slice none 0 0, .int .i64 0, .int .i64 0], []⟩ 8 (by kernel_rfl) (by kernel_rfl) (by kernel_rfl) (by kernel_rfl)) ?_
  intro W base args ds gs before hval0 hW hcnd _
  have hval : ∀ (j : Nat) t v, Tryz.f7.params[j]? = some t → args[j]? = some v → Value.okWide Tryz.prog W .any base t v := hval0
  have hW' := hW
  obtain ⟨p, q, hA0, hV, rfl, hfz, hnd⟩ := hW
  have hA : DataW.TrodAll enc Tryz.prog W 0 (fun _ => true) true Tryz.f7.params.toList args.toList ds p := hA0
  rw [Tryz.params7] at hA hval
  obtain ⟨v0, vs0, d0, ds0, p0, q0, hargs, rfl, rfl, h0, r0⟩ := trodAll_cons hA
  obtain ⟨v1, vs1, d1, ds1, p1, q1, rfl, rfl, rfl, h1, r1⟩ := trodAll_cons r0
  obtain ⟨v2, vs2, d2, ds2, p2, q2, rfl, rfl, rfl, h2, r2⟩ := trodAll_cons r1
  obtain ⟨v3, vs3, d3, ds3, p3, q3, rfl, rfl, rfl, h3, r3⟩ := trodAll_cons r2
  obtain ⟨rfl, rfl, rfl⟩ := trodAll_nil r3
  obtain rfl : args = #[v0, v1, v2, v3] := by cases args; simp_all
  obtain ⟨rfl, rfl⟩ := trodVars_none hV
  have k0 := h0
  have lt0 : ∀ x ∈ p0, x.block < W.heap.size := by obtain ⟨m, hm⟩ := k0; exact DataW.trod_lt m _ _ _ hm
  have k1 := h1
  have lt1 : ∀ x ∈ p1, x.block < W.heap.size := by obtain ⟨m, hm⟩ := k1; exact DataW.trod_lt m _ _ _ hm
  have k2 := h2
  have lt2 : ∀ x ∈ p2, x.block < W.heap.size := by obtain ⟨m, hm⟩ := k2; exact DataW.trod_lt m _ _ _ hm
  have k3 := h3
  have lt3 : ∀ x ∈ p3, x.block < W.heap.size := by obtain ⟨m, hm⟩ := k3; exact DataW.trod_lt m _ _ _ hm
  obtain ⟨c00, c01, y00, y01, m0, rfl, rfl, rfl, g00, g01⟩ := open_agg2 Tryz.underlying25 (by kernel_rfl) (by kernel_rfl) (hval 0 25 v0 rfl rfl) h0
  obtain ⟨a0_Nodes, xs0_Nodes, e0_Nodes, w0_Nodes⟩ := prs_open Tryz.underlying22 Tryz.underlying149 (by kernel_rfl) (by kernel_rfl) Tryz.underlying3 Tryz.underlying3 g00
  obtain rfl : c00 = a0_Nodes := by simpa using e0_Nodes
  obtain ⟨a0_Leads, xs0_Leads, e0_Leads, w0_Leads⟩ := prs_open Tryz.underlying23 Tryz.underlying153 (by kernel_rfl) (by kernel_rfl) Tryz.underlying3 Tryz.underlying3 g01
  obtain rfl : c01 = a0_Leads := by simpa using e0_Leads
  obtain ⟨A1, len1, cap1, rfl⟩ := Go.WideShapes.okWide_slice Tryz.underlying27 (hval 1 27 v1 rfl rfl)
  obtain ⟨fuel1, hf1⟩ := h1
  obtain ⟨a1, xs1, e1, w1⟩ := seq_open Tryz.underlying27 Tryz.underlying3 (by kernel_rfl) hf1
  simp [Value.cells] at e1
  subst e1
  obtain ⟨a2, rfl, rfl, rfl, w2⟩ := open_int Tryz.underlying3 (hval 2 3 v2 rfl rfl) h2
  obtain ⟨a3, rfl, rfl, rfl, w3⟩ := open_int Tryz.underlying3 (hval 3 3 v3 rfl rfl) h3
  clear hA0 hval0
  refine (walk W _ xs0_Nodes w0_Nodes _ xs0_Leads w0_Leads _ xs1 w1 a2 w2 a3 w3).mono fun e W' ⟨he, bel⟩ => ?_
  subst he
  exact ⟨_, rfl, _, _, _, [], _, [], hW', trodAll_mk1 (shut_bool Tryz.underlying4 _), trodAll_cons_mk (Below.trod laidOut (by kernel_rfl) (of_decide_eq_true (by kernel_rfl)) k0 bel lt0) (trodAll_cons_mk (Below.trod laidOut (by kernel_rfl) (of_decide_eq_true (by kernel_rfl)) k1 bel lt1) (trodAll_cons_mk (Below.trod laidOut (by kernel_rfl) (of_decide_eq_true (by kernel_rfl)) k2 bel lt2) (trodAll_cons_mk (Below.trod laidOut (by kernel_rfl) (of_decide_eq_true (by kernel_rfl)) k3 bel lt3) (trodAll_mk0)))), rfl, bel.frame _, fun h => by cases h⟩

theorem jA : (Rows.fnExactMayReplaceRow.inPlace == Tryz.pinned.checked.prog.inPlace 7) = true := by kernel_rfl
theorem jB : (Rows.fnExactMayReplaceRow.unfollowed == Tryz.pinned.checked.prog.unfollowed 7) = true := by kernel_rfl
theorem jC : (Rows.fnExactMayReplaceRow.recurses == Tryz.pinned.checked.prog.recurses 7) = true := by kernel_rfl
theorem jD : (Rows.fnExactMayReplaceRow.named == Tryz.pinned.checked.prog.varsNamed 7) = true := by kernel_rfl
theorem closed : joinedFacts Tryz.pinned.checked.prog 7 Tryz.f7 Rows.fnExactMayReplaceSpec Rows.fnExactMayReplaceRow = true := by
  unfold joinedFacts
  repeat' (with_reducible refine and_yes ?_ ?_)
  all_goals first | with_reducible exact jEnter | with_reducible exact jHeard | with_reducible exact jLaid | with_reducible exact jMaps | with_reducible exact jA | with_reducible exact jB | with_reducible exact jC | with_reducible exact jD | kernel_rfl

theorem over : Rows.fnExactMayReplaceRow.holds Tryz.pinned (OpenSpec.ofChange Rows.fnExactMayReplaceSpec) :=
  OpenClaim.holds_of_wide 7 Tryz.f7 rfl rfl rfl rfl rfl rfl rfl ⟨rfl, rfl, rfl, rfl, rfl⟩ rfl rfl rfl rfl rfl (by kernel_rfl) Tryz.func7 closed
    (of_decide_eq_true (by kernel_rfl)) (by unfold Func.isWrapper; first | (rw [if_pos (by decide +kernel)]; kernel_rfl) | (rw [if_neg (by decide +kernel)]; exact ⟨rfl, rfl⟩))
    (fun os started H enc _ => lifted os started H enc)

/-- THE STATEMENT. -/
theorem proved : Rows.FnExactMayReplaceSaid := over
#print axioms proved
end Go.Proofs.YtepacoacalhdcaaGreat.fnExactMayReplace
