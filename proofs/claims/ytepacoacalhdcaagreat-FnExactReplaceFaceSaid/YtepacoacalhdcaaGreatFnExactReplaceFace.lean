/-
  The program's ReplaceFace returns, for every window, every list of ints and every three ints, the ints and the bool that the model's ReplaceFace returns, in memory of its own, and leaves the window and the list as they are: the law FnExactReplaceFace answers true. No condition.
-/
import Derived.Test.YtepacoacalhdcaaGreatRows
import Derived.Test.YtepacoacalhdcaaGreatJoin
import Derived.Test.YtepacoacalhdcaaGreatG1
import Derived.Test.YtepacoacalhdcaaGreatRpl
import Derived.Test.YtepacoacalhdcaaGreatMarkB
import Derived.Test.YtepacoacalhdcaaGreatG2
import Derived.WalkKit
import Derived.ProofKit
import Derived.OpenShut
import Derived.ShutString
import Derived.ChangeOld
import Derived.Below
import Derived.Carry
import Derived.Lib.SmallJoins
namespace Go.Proofs.YtepacoacalhdcaaGreat.fnExactReplaceFace
open Go.ChangeShapes Go.WideShapes Go.ChangeAt Go.RowKit Go.Joins
open Go.ChangeMaps (open_string shut_string)
set_option linter.unusedVariables false
set_option linter.unusedSimpArgs false

theorem own : ownKnob Tryz.prog.godebug = none := by kernel_rfl
theorem laidOut : laidOutB Tryz.prog = true := by kernel_rfl
set_option maxRecDepth 100000
def Five (u1 u2 vg vw vx : Value) (Lo Hi Bg Bw Bx : Nat) (ns ls : List Nd) (js xs : List Int) (w : World) : Prop :=
  WinAt w (.agg #[u1, u2]) ns ls ∧ WinOwn w Lo Hi u1 u2 ns ls ∧ Ints w Bg vg js ∧ Ints w Bw vw js ∧ Ints w Bx vx xs
theorem Five.step {u1 u2 vg vw vx : Value} {Lo Hi Bg Bw Bx : Nat} {ns ls : List Nd} {js xs : List Int} {w w' : World} (h : Five u1 u2 vg vw vx Lo Hi Bg Bw Bx ns ls js xs w) (hb : Below w.heap.size w w') : Five u1 u2 vg vw vx Lo Hi Bg Bw Bx ns ls js xs w' := ⟨h.1.step hb, h.2.1.step hb, h.2.2.1.step hb, h.2.2.2.1.step hb, h.2.2.2.2.step hb⟩
theorem stable_five (u1 u2 vg vw vx : Value) (Lo Hi Bg Bw Bx : Nat) (ns ls : List Nd) (js xs : List Int) : Stable fun W => Five u1 u2 vg vw vx Lo Hi Bg Bw Bx ns ls js xs W := fun _ _ h hb => ⟨h.1.step hb, h.2.1.step hb, h.2.2.1.step hb, h.2.2.2.1.step hb, h.2.2.2.2.step hb⟩
theorem Five.win {u1 u2 vg vw vx : Value} {Lo Hi Bg Bw Bx : Nat} {ns ls : List Nd} {js xs : List Int} {w : World} (h : Five u1 u2 vg vw vx Lo Hi Bg Bw Bx ns ls js xs w) : WinAt w (.agg #[u1, u2]) ns ls := h.1
theorem markWindow_o {w : World} {Lo Hi : Nat} {v1 v2 : Value} {ns ls : List Nd} (h : WinOwn w Lo Hi v1 v2 ns ls) (hHi : Hi ≤ w.heap.size) (h1 : ns.length ≤ 1048576) (h2 : ls.length ≤ 1048576) :
    Calls Tryz.prog 22 #[.agg #[v1, v2], .int .i64 1] w fun e w' => (∃ z : Nat, (0 < z ∧ z ≤ 8000000) ∧ e = .returned (.int .i64 (z : Int))) ∧ Turn Lo Hi w w' := by
  have := markWindow_any 1 h hHi h1 h2 (by omega)
  rw [show ((1 : Nat) : Int) = 1 from rfl] at this
  exact this.mono fun e w' ⟨he, ht⟩ => ⟨⟨_, by omega, he⟩, ht⟩
theorem markIntS_z {base : Nat} {w : World} {v : Value} {fs : List Int} (k0 : Nat) (h : Ints w base v fs) (h0 : 0 < k0) (h1 : k0 ≤ 8000000) (hl : fs.length ≤ 1048576) :
    Calls Tryz.prog 23 #[v, .int .i64 (k0 : Int)] w fun e w' => (∃ z : Int, 0 ≤ z ∧ e = .returned (.int .i64 z)) ∧ w.grownBy w' v.ownBlock := by
  have := markIntS_any k0 h h0 (by omega)
  exact this.mono fun e w' ⟨he, _, hg⟩ => ⟨⟨_, by omega, he⟩, hg⟩
theorem walk (w : World) (a0_Nodes : Value) (xs0_Nodes : List Nd) (w0_Nodes : Prs w a0_Nodes xs0_Nodes) (a0_Leads : Value) (xs0_Leads : List Nd) (w0_Leads : Prs w a0_Leads xs0_Leads) (a1 : Value) (xs1 : List Int) (w1 : Seq w a1 xs1) (a2 : Int) (w2 : (Lit.int .i64 a2).wf = true) (a3 : Int) (w3 : (Lit.int .i64 a3).wf = true) (a4 : Int) (w4 : (Lit.int .i64 a4).wf = true) :
    Calls Tryz.prog 8 #[.agg #[a0_Nodes, a0_Leads], a1, .int .i64 a2, .int .i64 a3, .int .i64 a4] w fun e w' => e = .returned (.bool true) ∧ Below w.heap.size w w' := by
  have hln := w0_Nodes.len
  have hll := w0_Leads.len
  have HP := Lib.hid (WinAt.mk w0_Nodes w0_Leads)
  have HQ := Lib.hid w1
  obtain ⟨A, c, rfl⟩ := prs_form2 w0_Nodes
  obtain ⟨A2, c2, rfl⟩ := prs_form2 w0_Leads
  obtain ⟨A3, c3, rfl⟩ := seq_form2 w1
  clear w0_Nodes w0_Leads w1 w2 w3 w4
  have HZ := Lib.hid (szWindow_any xs0_Nodes.length c xs0_Leads.length c2 A A2 · hln hll)
  have H0 := Lib.hid ((Held.none_ w).new2 w.heap.size rfl [.slice A xs0_Nodes.length c, .slice A2 xs0_Leads.length c2] 25)
  go_enter Tryz.func8, Tryz.ntmps8
  by_cases hbig : 1048576 < xs1.length
  · go_wp2_with fail
    go_ret
    exact ⟨rfl, H0.out.below⟩
  have hlen1 : xs1.length ≤ 1048576 := by omega
  have HS := Lib.hid (fun v u w (hv : WinAt w v xs0_Nodes xs0_Leads) (hu : Seq w u xs1) => (show Calls Tryz.prog 34 #[v, u, .int .i64 a2, .int .i64 a3, .int .i64 a4] w (CwRet (rplB xs0_Nodes xs0_Leads xs1 a2 a3 a4) (rplL xs0_Nodes xs0_Leads xs1 a2 a3 a4) w) by
    obtain ⟨A1, A2, c1, c2, rfl, k1, k2⟩ := hv; exact specRpl _ _ _ _ _ _ _ _ _ w k1 k2 hu hlen1))
  have HI := Lib.hid (fun v u w (hv : WinAt w v xs0_Nodes xs0_Leads) (hu : Seq w u xs1) => (show Calls Tryz.prog 35 #[v, u, .int .i64 a2, .int .i64 a3, .int .i64 a4] w (CwRet (rplB xs0_Nodes xs0_Leads xs1 a2 a3 a4) (rplL xs0_Nodes xs0_Leads xs1 a2 a3 a4) w) by
    obtain ⟨A1, A2, c1, c2, rfl, k1, k2⟩ := hv; exact implRpl _ _ _ _ _ _ _ _ _ w k1 k2 hu hlen1))
  have HJ : (rplL xs0_Nodes xs0_Leads xs1 a2 a3 a4).length ≤ 1048576 := by rw [rplL_len]; exact hlen1
  generalize rplL xs0_Nodes xs0_Leads xs1 a2 a3 a4 = js at *
  have HJ2 : js.length ≤ 1048576 := by omega
  generalize rplB xs0_Nodes xs0_Leads xs1 a2 a3 a4 = bb at *
  unfold CwRet at HS HI
  have hb1 : (bb != bb) = false := by simp
  have hb2 : (bb == bb) = true := by simp
  have hb3 : decide (bb = bb) = true := by simp
  have HT := Lib.hid (fun v w hv h1 h2 => toWindow_at xs0_Nodes xs0_Leads v w hv h1 h2)
  have HTM := Lib.hid (fun v w (hv : WinAt w v xs0_Nodes xs0_Leads) h1 h2 => (show Calls Tryz.prog 18 #[v] w (WinIs 115 151 xs0_Nodes xs0_Leads w) by
    obtain ⟨A1, A2, c1, c2, rfl, k1, k2⟩ := hv; exact toWindow_any _ _ _ _ w k1 k2 h1 h2))
  unfold WinIs at HTM
  have HT2 := Lib.hid (fun w h => toIntS_any xs1 (.slice A3 xs1.length c3) w h hlen1)
  unfold IntsNew at HT2
  have HEQ := Lib.hid (fun v u w hv hu => eqWindow_at xs0_Nodes xs0_Leads v u w hv hu)
  have HEQ2 := Lib.hid (fun v u w hv hu => eqIntS_seq (w := w) (v1 := v) (v2 := u) (fs := xs1) hv hu)
  go_wp2_with fail
  refine (HZ.out _).mono ?_
  rintro e w1 ⟨q, rfl, hq, hb⟩
  have H1 := Lib.hid (H0.out.step hb); clear hb
  obtain ⟨x0, x1, _⟩ := H1.out.1
  rcases hq with hq | ⟨hq, hq1, hq2⟩
  · go_wp2_with fail
    go_ret
    exact ⟨rfl, H1.out.below⟩
  have HT := Lib.hid (fun v w hv => HT.out v w hv hq1 hq2)
  have HTM := Lib.hid (fun v w hv => HTM.out v w hv hq1 hq2)
  go_wp2_with fail
  refine (HT.out _ _ (HP.out.step H1.out.below)).mono ?_
  rintro e w2 ⟨v2, rfl, hm, hb⟩
  have H2 := Lib.hid (H1.out.step hb)
  have M2 := Lib.hid hm; clear hm hb x0 x1
  go_wp2_with fail
  refine (HT2.out _ (HQ.out.step H2.out.below)).mono ?_
  rintro e w3 ⟨v3, rfl, hm, hb⟩
  have H3 := Lib.hid (H2.out.step hb)
  have M3 := Lib.hid (M2.out.step hb)
  have Q3 := Lib.hid hm; clear hm hb
  go_wp2_with fail
  refine (HS.out _ _ _ M3.out Q3.out.seq).mono ?_
  rintro e w4 ⟨⟨vw, rfl, hi⟩, hb⟩
  have H4 := Lib.hid (H3.out.step hb); clear hb
  have KW := Lib.hid (fun k e => (hi.own k e).2)
  have IW4 := Lib.hid hi; clear hi
  obtain ⟨x0, x1, _⟩ := H4.out.1
  have hlo := H4.out.2.1.1
  go_wp2_with fail
  refine (HTM.out _ _ (HP.out.step H4.out.below)).mono ?_
  rintro e w5 ⟨u1, u2, Bx, rfl, hm1, hLB, hs, hm2, hb⟩
  have hsz5 := hb.size
  have H5 := Lib.hid (H4.out.step hb)
  have IW5 := Lib.hid (IW4.out.step hb); clear hb
  obtain ⟨B1, d1, rfl⟩ := hm1.form
  obtain ⟨B2, d2, rfl⟩ := hm2.form
  have OW5 := Lib.hid (show WinOwn w5 w4.heap.size w5.heap.size _ _ xs0_Nodes xs0_Leads from ⟨Bx, hm1, hLB, hs, hm2, hm1.top, hm2.top⟩)
  have M5 := Lib.hid (WinAt.mk hm1.prs hm2.prs)
  clear hm1 hm2 hLB hs x0 x1
  obtain ⟨x0, x1, _⟩ := H5.out.1
  obtain ⟨y0, _, _⟩ := H5.out.2.1
  go_wp2_with fail
  have b6 : Below w5.heap.size w5 (w5.alloc (.cells #[.slice B1 xs0_Nodes.length d1, .slice B2 xs0_Leads.length d2] 32)) := (Below.refl _ _).alloc (Nat.le_refl _) _
  have H6 := Lib.hid (H5.out.new2 w5.heap.size rfl [.slice B1 xs0_Nodes.length d1, .slice B2 xs0_Leads.length d2] 32)
  have M6 := Lib.hid (M5.out.step b6)
  have OW6 := Lib.hid (OW5.out.step b6)
  have IW6 := Lib.hid (IW5.out.step b6)
  clear b6
  refine (HT2.out _ (HQ.out.step H6.out.below)).mono ?_
  rintro e w7 ⟨vx, rfl, hm, hb⟩
  have H7 := Lib.hid (H6.out.step hb)
  have M7 := Lib.hid (M6.out.step hb)
  have OW7 := Lib.hid (OW6.out.step hb)
  have IW7 := Lib.hid (IW6.out.step hb)
  have Q7 := Lib.hid (hm.mono (b' := w5.heap.size + 1) (by simp))
  have KQ := Lib.hid (fun k e => (Q7.out.own k e).2)
  have hs7 : w5.heap.size + 1 ≤ w7.heap.size := by have := hb.size; simpa using this
  clear hm hb x0 x1 y0
  obtain ⟨x0, x1, x2, x3, _⟩ := H7.out.1
  go_wp2_with fail
  refine (HI.out _ _ _ M7.out Q7.out.seq).mono ?_
  rintro e w8 ⟨⟨vg, rfl, hg⟩, hb⟩
  have H8 := Lib.hid (H7.out.step hb)
  have M8 := Lib.hid (M7.out.step hb)
  have OW8 := Lib.hid (OW7.out.step hb)
  have IW8 := Lib.hid (IW7.out.step hb)
  have Q8 := Lib.hid (Q7.out.step hb)
  have IG8 := Lib.hid hg
  clear hg hb x0 x1 x2 x3
  obtain ⟨x0, x1, x2, x3, _⟩ := H8.out.1
  go_wp2_with fail
  refine (eqIntS_yes IG8.out IW8.out).mono ?_
  rintro e w9' ⟨rfl, n9, rfl⟩
  have b9 := below_drewN (Below.refl w8.heap.size w8) n9
  have H9 := Lib.hid (H8.out.step b9)
  have R9 := Lib.hid (show Five (.slice B1 xs0_Nodes.length d1) (.slice B2 xs0_Leads.length d2) vg vw vx w4.heap.size w5.heap.size w7.heap.size w3.heap.size (w5.heap.size + 1) xs0_Nodes xs0_Leads js xs1 _ from ⟨M8.out.step b9, OW8.out.step b9, IG8.out.step b9, IW8.out.step b9, Q8.out.step b9⟩)
  clear b9 x0 x1 x2 x3
  obtain ⟨x0, x1, x2, x3, _⟩ := H9.out.1
  go_wp2_with fail
  refine regionW (fun W => (Held _ W [(w5.heap.size, 0, .slice B1 xs0_Nodes.length d1), (w5.heap.size, 1, .slice B2 xs0_Leads.length d2), (w.heap.size, 0, .slice A xs0_Nodes.length c), (w.heap.size, 1, .slice A2 xs0_Leads.length c2)]) ∧ Five (.slice B1 xs0_Nodes.length d1) (.slice B2 xs0_Leads.length d2) vg vw vx w4.heap.size w5.heap.size w7.heap.size w3.heap.size (w5.heap.size + 1) xs0_Nodes xs0_Leads js xs1 W) (by kernel_rfl) ⟨H9.out.drew, (R9.out).step ((Below.refl _ _).drew)⟩ ?_
  refine takeW (i := 0) (v := ?_) (Stable.and (Stable.held _ _) (stable_five (.slice B1 xs0_Nodes.length d1) (.slice B2 xs0_Leads.length d2) vg vw vx w4.heap.size w5.heap.size w7.heap.size w3.heap.size (w5.heap.size + 1) xs0_Nodes xs0_Leads js xs1)) rfl (by kernel_rfl) (by kernel_rfl) (by kernel_rfl) (fun _ _ _ h => h) ?_ ?_
  rotate_left
  · first | (refine Or.inl ⟨by rfl, fun W hS => detR_value (w' := W) ?_ (Below.refl _ _)⟩; obtain ⟨hH, q1⟩ := hS; obtain ⟨x0, x1, x2, x3, _⟩ := hH.1; go_simp; first | done | with_reducible rfl) | fail
  simp only [Act.put, List.setIfInBounds_toArray, List.set_cons_zero, List.set_cons_succ]
  refine takeW (i := 1) (v := ?_) (Stable.and (Stable.held _ _) (stable_five (.slice B1 xs0_Nodes.length d1) (.slice B2 xs0_Leads.length d2) vg vw vx w4.heap.size w5.heap.size w7.heap.size w3.heap.size (w5.heap.size + 1) xs0_Nodes xs0_Leads js xs1)) rfl (by kernel_rfl) (by kernel_rfl) (by kernel_rfl) (fun _ _ _ h => h) ?_ ?_
  rotate_left
  · first | (refine Or.inl ⟨by rfl, fun W hS => detR_value (w' := W) ?_ (Below.refl _ _)⟩; obtain ⟨hH, q1⟩ := hS; obtain ⟨x0, x1, x2, x3, _⟩ := hH.1; go_simp; first | done | with_reducible rfl) | fail
  simp only [Act.put, List.setIfInBounds_toArray, List.set_cons_zero, List.set_cons_succ]
  refine freeW (i := 2) (fun v W => WinAt W v xs0_Nodes xs0_Leads) (Stable.and (Stable.held _ _) (stable_five (.slice B1 xs0_Nodes.length d1) (.slice B2 xs0_Leads.length d2) vg vw vx w4.heap.size w5.heap.size w7.heap.size w3.heap.size (w5.heap.size + 1) xs0_Nodes xs0_Leads js xs1)) (fun v => stable_win v xs0_Nodes xs0_Leads) rfl (by kernel_rfl) (by rfl) (fun W hS => ?_) (fun v1 => ?_)
  · obtain ⟨hH, q1⟩ := hS; refine freeR_call (w' := W) (f := ?_) (args := ?_) ?_ ?_; rotate_left 2; (go_simp; (refine ⟨?_, ?_⟩ <;> with_reducible rfl)); refine (HT.out _ _ (HP.out.step hH.below)).mono ?_; rintro e wn ⟨v, rfl, hm, hb⟩; exact ⟨v, rfl, hm, hb⟩
  simp only [Act.put, List.setIfInBounds_toArray, List.set_cons_zero, List.set_cons_succ]
  refine takeW (i := 3) (v := ?_) (Stable.and (Stable.and (Stable.held _ _) (stable_five (.slice B1 xs0_Nodes.length d1) (.slice B2 xs0_Leads.length d2) vg vw vx w4.heap.size w5.heap.size w7.heap.size w3.heap.size (w5.heap.size + 1) xs0_Nodes xs0_Leads js xs1)) (stable_win v1 xs0_Nodes xs0_Leads)) rfl (by kernel_rfl) (by kernel_rfl) (by kernel_rfl) (fun _ _ _ h => h) ?_ ?_
  rotate_left
  · first | (refine Or.inl ⟨by rfl, fun W hS => ?_⟩; obtain ⟨⟨hH, q1⟩, r1⟩ := hS; refine detR_call (w' := W) (f := ?_) (args := ?_) ?_ ?_; rotate_left 2; (go_simp; (refine ⟨?_, ?_⟩ <;> with_reducible rfl)); (first | (with_reducible refine (HEQ.out _ _ _ (Five.win q1) r1).mono ?_) | fail); (first | (rintro e wn ⟨rfl, hb⟩; refine ⟨?_, hb⟩; with_reducible rfl) | (rintro e wn ⟨rfl, rfl⟩; refine ⟨?_, Below.refl _ _⟩; with_reducible rfl) | fail)) | fail
  simp only [Act.put, List.setIfInBounds_toArray, List.set_cons_zero, List.set_cons_succ]
  refine takeW (i := 4) (v := ?_) (Stable.and (Stable.and (Stable.held _ _) (stable_five (.slice B1 xs0_Nodes.length d1) (.slice B2 xs0_Leads.length d2) vg vw vx w4.heap.size w5.heap.size w7.heap.size w3.heap.size (w5.heap.size + 1) xs0_Nodes xs0_Leads js xs1)) (stable_win v1 xs0_Nodes xs0_Leads)) rfl (by kernel_rfl) (by kernel_rfl) (by kernel_rfl) (fun _ _ _ h => h) ?_ ?_
  rotate_left
  · first | (refine Or.inl ⟨by rfl, fun W hS => detR_value (w' := W) ?_ (Below.refl _ _)⟩; obtain ⟨⟨hH, q1⟩, r1⟩ := hS; obtain ⟨x0, x1, x2, x3, _⟩ := hH.1; go_simp; first | done | with_reducible rfl) | fail
  simp only [Act.put, List.setIfInBounds_toArray, List.set_cons_zero, List.set_cons_succ]
  refine doneW (by kernel_rfl) fun wH10 HG => ?_
  obtain ⟨⟨hH, q1⟩, r1⟩ := HG
  have H10 := Lib.hid hH; clear hH
  have MH10_q1 := Lib.hid q1; clear q1
  have MH10_1 := Lib.hid r1; clear r1
  try clear x0 x1 x2 x3
  obtain ⟨x0, x1, x2, x3, _⟩ := H10.out.1
  go_wp2_with fail
  have OW10 := Lib.hid MH10_q1.out.2.1
  have IG10 := Lib.hid MH10_q1.out.2.2.1
  have IW10 := Lib.hid MH10_q1.out.2.2.2.1
  have Q10 := Lib.hid MH10_q1.out.2.2.2.2
  clear MH10_q1 MH10_1
  go_wp2_with fail
  refine (HT2.out _ (HQ.out.step H10.out.below)).mono ?_
  rintro e w11 ⟨vy, rfl, hm, hb⟩
  have H11 := Lib.hid (H10.out.step hb)
  have OW11 := Lib.hid (OW10.out.step hb)
  have IG11 := Lib.hid (IG10.out.step hb)
  have IW11 := Lib.hid (IW10.out.step hb)
  have Q11 := Lib.hid (Q10.out.step hb)
  have Y11 := Lib.hid hm; clear hm hb
  try clear x0 x1 x2 x3
  obtain ⟨x0, x1, x2, x3, _⟩ := H11.out.1
  go_wp2_with fail
  refine (HEQ2.out _ _ _ Q11.out.seq Y11.out.seq).mono ?_
  rintro e w12' ⟨rfl, n12, rfl⟩
  have b12 := below_drewN (Below.refl w11.heap.size w11) n12
  have H12 := Lib.hid (H11.out.step b12)
  have OW12 := Lib.hid (OW11.out.step b12)
  have IG12 := Lib.hid (IG11.out.step b12)
  have IW12 := Lib.hid (IW11.out.step b12)
  have Q12 := Lib.hid (Q11.out.step b12)
  clear b12 x0 x1 x2 x3
  obtain ⟨x0, x1, x2, x3, _⟩ := H12.out.1
  have hs12 := H12.out.2.1.1
  go_wp2_with fail
  refine (markWindow_o OW12.out (by omega) hq1 hq2).mono ?_
  rintro e w13 ⟨⟨z, ⟨hz0, hz1⟩, rfl⟩, ht⟩
  have H13 := Lib.hid (H12.out.turn ht ⟨.inr (Nat.le_refl _), .inr (Nat.le_refl _), .inl hlo, .inl hlo, trivial⟩ (by omega))
  have IG13 := Lib.hid (IG12.out.turn ht fun k e => .inr (by have := (IG12.out.own k e).1; omega))
  have IW13 := Lib.hid (IW12.out.turn ht fun k e => .inl (KW.out k e))
  have Q13 := Lib.hid (Q12.out.turn ht fun k e => .inr (by have := (Q12.out.own k e).1; omega))
  clear ht x0 x1 x2 x3
  go_wp2_with fail
  refine (markIntS_z z Q13.out hz0 hz1 hlen1).mono ?_
  rintro e w14 ⟨⟨zz, hzz, rfl⟩, hgr⟩
  have ht := Turn.of_grown (Lo := w5.heap.size + 1) (Hi := w7.heap.size) hgr (fun g e => ⟨(Q13.out.own g e).1, KQ.out g e⟩)
  have H14 := Lib.hid (H13.out.turn ht ⟨.inl (Nat.lt_succ_self _), .inl (Nat.lt_succ_self _), .inl (by omega), .inl (by omega), trivial⟩ (by omega))
  have IG14 := Lib.hid (IG13.out.turn ht fun k e => .inr (IG13.out.own k e).1)
  have IW14 := Lib.hid (IW13.out.turn ht fun k e => .inl (by have := KW.out k e; omega))
  clear hgr ht
  go_wp2_with fail
  refine (eqIntS_yes IG14.out IW14.out).mono ?_
  rintro e w15' ⟨rfl, n15, rfl⟩
  have b15 := below_drewN (Below.refl w14.heap.size w14) n15
  have H15 := Lib.hid (H14.out.step b15)
  have IG15 := Lib.hid (IG14.out.step b15)
  have IW15 := Lib.hid (IW14.out.step b15)
  clear b15
  go_wp2_with fail
  refine (markIntS_b IG15.out HJ2).mono ?_
  rintro e w16 ⟨rfl, hmk, hgr⟩
  have ht := Turn.of_grown (Lo := w7.heap.size) (Hi := (w14.drewN n15).heap.size) hgr (fun g e => IG15.out.own g e)
  have H16 := Lib.hid (H15.out.turn ht ⟨.inl (by omega), .inl (by omega), .inl (by omega), .inl (by omega), trivial⟩ (by omega))
  have IG16 := Lib.hid hmk
  have IW16 := Lib.hid (IW15.out.turn ht fun k e => .inl (by have := KW.out k e; omega))
  clear hmk hgr ht
  obtain ⟨z2, hz2, hz20⟩ : ∃ z : Int, ((1 + js.length : Nat) : Int) = z ∧ 0 ≤ z := ⟨_, rfl, by omega⟩
  have HHE := Lib.hid (fun W (h : Ints W w7.heap.size vg (marksI 1 js.length)) => (show Calls Tryz.prog 24 #[vg, .int .i64 1] W (fun e w' => e = .returned (.int .i64 z2) ∧ ∃ m, w' = W.drewN m) by
    rw [← hz2]; exact heldIntS_b js.length h HJ2))
  rw [hz2]; clear hz2
  go_wp2_with fail
  refine (HHE.out _ IG16.out).mono ?_
  rintro e w17' ⟨rfl, n17, rfl⟩
  have b17 := below_drewN (Below.refl w16.heap.size w16) n17
  have H17 := Lib.hid (H16.out.step b17)
  have IG17 := Lib.hid (IG16.out.step b17)
  have IW17 := Lib.hid (IW16.out.step b17)
  clear b17
  obtain ⟨x0, x1, x2, x3, _⟩ := H17.out.1
  go_wp2_with fail
  refine (HT.out _ _ (HP.out.step H17.out.below)).mono ?_
  rintro e w18 ⟨v18, rfl, hm, hb⟩
  have H18 := Lib.hid (H17.out.step hb)
  have IG18 := Lib.hid (IG17.out.step hb)
  have IW18 := Lib.hid (IW17.out.step hb)
  have M18 := Lib.hid hm
  clear hm hb x0 x1 x2 x3
  go_wp2_with fail
  refine (HT2.out _ (HQ.out.step H18.out.below)).mono ?_
  rintro e w19 ⟨vz, rfl, hm, hb⟩
  have H19 := Lib.hid (H18.out.step hb)
  have M19 := Lib.hid (M18.out.step hb)
  have IG19 := Lib.hid (IG18.out.step hb)
  have IW19 := Lib.hid (IW18.out.step hb)
  have Z19 := Lib.hid hm; clear hm hb
  go_wp2_with fail
  refine (HI.out _ _ _ M19.out Z19.out.seq).mono ?_
  rintro e w20 ⟨⟨vh, rfl, hh⟩, hb⟩
  have H20 := Lib.hid (H19.out.step hb)
  have IG20 := Lib.hid (IG19.out.step hb)
  have IW20 := Lib.hid (IW19.out.step hb)
  have IH20 := Lib.hid hh
  clear hh hb
  go_wp2_with fail
  refine (eqIntS_yes IH20.out IW20.out).mono ?_
  rintro e w21' ⟨rfl, n21, rfl⟩
  have b21 := below_drewN (Below.refl w20.heap.size w20) n21
  have H21 := Lib.hid (H20.out.step b21)
  have IG21 := Lib.hid (IG20.out.step b21)
  clear b21
  go_wp2_with fail
  refine (HHE.out _ IG21.out).mono ?_
  rintro e w22' ⟨rfl, n22, rfl⟩
  go_wp2_with fail
  go_ret
  exact ⟨rfl, (H20.out.step (below_drewN (Below.refl _ _) (n21 + n22))).below⟩

set_option maxRecDepth 100000 in
theorem lifted (os : Os) (started : os.Started) (H : Type) (enc : TypeId × Value → H) :
    ReturnsInHanded {} Tryz.checked os 8 .any (Rows.fnExactReplaceFaceSpec.pre6 enc Tryz.prog Tryz.f8 Rows.fnExactReplaceFaceRow.domain false) (Rows.fnExactReplaceFaceSpec.post enc Tryz.prog Tryz.f8 false true false false) := by
  refine returnsInHanded_of_change (C := Tryz.checked) own started (by kernel_rfl) Tryz.func8
    (ChangeSpec.witness6 (enc := enc) (C := Tryz.checked) false ⟨#[], #[.agg #[.slice none 0 0, .slice none 0 0], .slice none 0 0, .int .i64 0, .int .i64 0, .int .i64 0], []⟩ 8 (by kernel_rfl) (by kernel_rfl) (by kernel_rfl) (by kernel_rfl)) ?_
  intro W base args ds gs before hval0 hW hcnd _
  have hval : ∀ (j : Nat) t v, Tryz.f8.params[j]? = some t → args[j]? = some v → Value.okWide Tryz.prog W .any base t v := hval0
  have hW' := hW
  obtain ⟨p, q, hA0, hV, rfl, hfz, hnd⟩ := hW
  have hA : DataW.TrodAll enc Tryz.prog W 0 (fun _ => true) true Tryz.f8.params.toList args.toList ds p := hA0
  rw [Tryz.params8] at hA hval
  obtain ⟨v0, vs0, d0, ds0, p0, q0, hargs, rfl, rfl, h0, r0⟩ := trodAll_cons hA
  obtain ⟨v1, vs1, d1, ds1, p1, q1, rfl, rfl, rfl, h1, r1⟩ := trodAll_cons r0
  obtain ⟨v2, vs2, d2, ds2, p2, q2, rfl, rfl, rfl, h2, r2⟩ := trodAll_cons r1
  obtain ⟨v3, vs3, d3, ds3, p3, q3, rfl, rfl, rfl, h3, r3⟩ := trodAll_cons r2
  obtain ⟨v4, vs4, d4, ds4, p4, q4, rfl, rfl, rfl, h4, r4⟩ := trodAll_cons r3
  obtain ⟨rfl, rfl, rfl⟩ := trodAll_nil r4
  obtain rfl : args = #[v0, v1, v2, v3, v4] := by cases args; simp_all
  obtain ⟨rfl, rfl⟩ := trodVars_none hV
  have k0 := h0
  have lt0 : ∀ x ∈ p0, x.block < W.heap.size := by obtain ⟨m, hm⟩ := k0; exact DataW.trod_lt m _ _ _ hm
  have k1 := h1
  have lt1 : ∀ x ∈ p1, x.block < W.heap.size := by obtain ⟨m, hm⟩ := k1; exact DataW.trod_lt m _ _ _ hm
  have k2 := h2
  have lt2 : ∀ x ∈ p2, x.block < W.heap.size := by obtain ⟨m, hm⟩ := k2; exact DataW.trod_lt m _ _ _ hm
  have k3 := h3
  have lt3 : ∀ x ∈ p3, x.block < W.heap.size := by obtain ⟨m, hm⟩ := k3; exact DataW.trod_lt m _ _ _ hm
  have k4 := h4
  have lt4 : ∀ x ∈ p4, x.block < W.heap.size := by obtain ⟨m, hm⟩ := k4; exact DataW.trod_lt m _ _ _ hm
  obtain ⟨c00, c01, y00, y01, m0, rfl, rfl, rfl, g00, g01⟩ := open_agg2 Tryz.underlying25 (by kernel_rfl) (by kernel_rfl) (hval 0 25 v0 rfl rfl) h0
  obtain ⟨a0_Nodes, xs0_Nodes, e0_Nodes, w0_Nodes⟩ := prs_open Tryz.underlying22 Tryz.underlying149 (by kernel_rfl) (by kernel_rfl) Tryz.underlying3 Tryz.underlying3 g00
  obtain rfl : c00 = a0_Nodes := by simpa using e0_Nodes
  obtain ⟨a0_Leads, xs0_Leads, e0_Leads, w0_Leads⟩ := prs_open Tryz.underlying23 Tryz.underlying153 (by kernel_rfl) (by kernel_rfl) Tryz.underlying3 Tryz.underlying3 g01
  obtain rfl : c01 = a0_Leads := by simpa using e0_Leads
  obtain ⟨A1, len1, cap1, rfl⟩ := Go.WideShapes.okWide_slice Tryz.underlying27 (hval 1 27 v1 rfl rfl)
  obtain ⟨fuel1, hf1⟩ := h1
  obtain ⟨a1, xs1, e1, w1⟩ := seq_open Tryz.underlying27 Tryz.underlying3 (by kernel_rfl) hf1
  simp [Value.cells] at e1
  subst e1
  obtain ⟨a2, rfl, rfl, rfl, w2⟩ := open_int Tryz.underlying3 (hval 2 3 v2 rfl rfl) h2
  obtain ⟨a3, rfl, rfl, rfl, w3⟩ := open_int Tryz.underlying3 (hval 3 3 v3 rfl rfl) h3
  obtain ⟨a4, rfl, rfl, rfl, w4⟩ := open_int Tryz.underlying3 (hval 4 3 v4 rfl rfl) h4
  clear hA0 hval0
  refine (walk W _ xs0_Nodes w0_Nodes _ xs0_Leads w0_Leads _ xs1 w1 a2 w2 a3 w3 a4 w4).mono fun e W' ⟨he, bel⟩ => ?_
  subst he
  exact ⟨_, rfl, _, _, _, [], _, [], hW', trodAll_mk1 (shut_bool Tryz.underlying4 _), trodAll_cons_mk (Below.trod laidOut (by kernel_rfl) (of_decide_eq_true (by kernel_rfl)) k0 bel lt0) (trodAll_cons_mk (Below.trod laidOut (by kernel_rfl) (of_decide_eq_true (by kernel_rfl)) k1 bel lt1) (trodAll_cons_mk (Below.trod laidOut (by kernel_rfl) (of_decide_eq_true (by kernel_rfl)) k2 bel lt2) (trodAll_cons_mk (Below.trod laidOut (by kernel_rfl) (of_decide_eq_true (by kernel_rfl)) k3 bel lt3) (trodAll_cons_mk (Below.trod laidOut (by kernel_rfl) (of_decide_eq_true (by kernel_rfl)) k4 bel lt4) (trodAll_mk0))))), rfl, bel.frame _, fun h => by cases h⟩

theorem jA : (Rows.fnExactReplaceFaceRow.inPlace == Tryz.pinned.checked.prog.inPlace 8) = true := by kernel_rfl
theorem jB : (Rows.fnExactReplaceFaceRow.unfollowed == Tryz.pinned.checked.prog.unfollowed 8) = true := by kernel_rfl
theorem jC : (Rows.fnExactReplaceFaceRow.recurses == Tryz.pinned.checked.prog.recurses 8) = true := by kernel_rfl
theorem jD : (Rows.fnExactReplaceFaceRow.named == Tryz.pinned.checked.prog.varsNamed 8) = true := by kernel_rfl
theorem closed : joinedFacts Tryz.pinned.checked.prog 8 Tryz.f8 Rows.fnExactReplaceFaceSpec Rows.fnExactReplaceFaceRow = true := by
  unfold joinedFacts
  repeat' (with_reducible refine and_yes ?_ ?_)
  all_goals first | with_reducible exact jEnter | with_reducible exact jHeard | with_reducible exact jLaid | with_reducible exact jMaps | with_reducible exact jA | with_reducible exact jB | with_reducible exact jC | with_reducible exact jD | kernel_rfl

theorem over : Rows.fnExactReplaceFaceRow.holds Tryz.pinned (OpenSpec.ofChange Rows.fnExactReplaceFaceSpec) :=
  OpenClaim.holds_of_wide 8 Tryz.f8 rfl rfl rfl rfl rfl rfl rfl ⟨rfl, rfl, rfl, rfl, rfl⟩ rfl rfl rfl rfl rfl (by kernel_rfl) Tryz.func8 closed
    (of_decide_eq_true (by kernel_rfl)) (by unfold Func.isWrapper; first | (rw [if_pos (by decide +kernel)]; kernel_rfl) | (rw [if_neg (by decide +kernel)]; exact ⟨rfl, rfl⟩))
    (fun os started H enc _ => lifted os started H enc)

/-- THE STATEMENT. -/
theorem proved : Rows.FnExactReplaceFaceSaid := over
#print axioms proved
end Go.Proofs.YtepacoacalhdcaaGreat.fnExactReplaceFace
