/-
  The program's LooseAfter returns, for every window and every int, the ints that the model's LooseAfter returns, in memory of its own, and leaves the window as it is: the law FnExactLooseAfter answers true. No condition.
-/
import Derived.Test.YtepacoacalhdcaaGreatRows
import Derived.Test.YtepacoacalhdcaaGreatJoin
import Derived.Test.YtepacoacalhdcaaGreatG1
import Derived.Test.YtepacoacalhdcaaGreatLas
import Derived.Test.YtepacoacalhdcaaGreatG2
import Derived.WalkKit
import Derived.ProofKit
import Derived.OpenShut
import Derived.ShutString
import Derived.ChangeOld
import Derived.Below
import Derived.Carry
import Derived.Lib.SmallJoins
namespace Go.Proofs.YtepacoacalhdcaaGreat.fnExactLooseAfter
open Go.ChangeShapes Go.WideShapes Go.ChangeAt Go.RowKit Go.Joins
open Go.ChangeMaps (open_string shut_string)
set_option linter.unusedVariables false
set_option linter.unusedSimpArgs false

theorem own : ownKnob Tryz.prog.godebug = none := by kernel_rfl
theorem laidOut : laidOutB Tryz.prog = true := by kernel_rfl
set_option maxRecDepth 100000
def Four (u1 u2 vg vw : Value) (Lo Hi Bg Bw : Nat) (ns ls : List Nd) (js : List Int) (w : World) : Prop :=
  WinAt w (.agg #[u1, u2]) ns ls ∧ WinOwn w Lo Hi u1 u2 ns ls ∧ Ints w Bg vg js ∧ Ints w Bw vw js
theorem Four.step {u1 u2 vg vw : Value} {Lo Hi Bg Bw : Nat} {ns ls : List Nd} {js : List Int} {w w' : World} (h : Four u1 u2 vg vw Lo Hi Bg Bw ns ls js w) (hb : Below w.heap.size w w') : Four u1 u2 vg vw Lo Hi Bg Bw ns ls js w' :=
  ⟨h.1.step hb, h.2.1.step hb, h.2.2.1.step hb, h.2.2.2.step hb⟩
theorem stable_four (u1 u2 vg vw : Value) (Lo Hi Bg Bw : Nat) (ns ls : List Nd) (js : List Int) : Stable fun W => Four u1 u2 vg vw Lo Hi Bg Bw ns ls js W := fun _ _ h hb => h.step hb
theorem Four.win {u1 u2 vg vw : Value} {Lo Hi Bg Bw : Nat} {ns ls : List Nd} {js : List Int} {w : World} (h : Four u1 u2 vg vw Lo Hi Bg Bw ns ls js w) : WinAt w (.agg #[u1, u2]) ns ls := h.1
theorem markWindow_one {w : World} {Lo Hi : Nat} {v1 v2 : Value} {ns ls : List Nd} (h : WinOwn w Lo Hi v1 v2 ns ls) (hHi : Hi ≤ w.heap.size) (h1 : ns.length ≤ 1048576) (h2 : ls.length ≤ 1048576) :
    Calls Tryz.prog 22 #[.agg #[v1, v2], .int .i64 1] w fun e w' => (∃ z : Int, 0 ≤ z ∧ e = .returned (.int .i64 z)) ∧ Turn Lo Hi w w' := by
  have := markWindow_any 1 h hHi h1 h2 (by omega)
  rw [show ((1 : Nat) : Int) = 1 from rfl] at this
  exact this.mono fun e w' ⟨he, ht⟩ => ⟨⟨_, by omega, he⟩, ht⟩
theorem markIntS_one {base : Nat} {w : World} {v : Value} {fs : List Int} (h : Ints w base v fs) (hl : fs.length ≤ 20) :
    Calls Tryz.prog 23 #[v, .int .i64 1] w fun e w' => e = .returned (.int .i64 ((1 + fs.length : Nat) : Int)) ∧ Ints w' base v (marksI 1 fs.length) ∧ w.grownBy w' v.ownBlock := by
  have := markIntS_any 1 h (by omega) (by omega)
  rw [show ((1 : Nat) : Int) = 1 from rfl] at this
  exact this
theorem heldIntS_one {base : Nat} {w : World} {v : Value} (n : Nat) (h : Ints w base v (marksI 1 n)) (hl : n ≤ 20) :
    Calls Tryz.prog 24 #[v, .int .i64 1] w fun e w' => e = .returned (.int .i64 ((1 + n : Nat) : Int)) ∧ ∃ m, w' = w.drewN m := by
  have := heldIntS_any 1 n h (by omega) (by omega)
  rw [show ((1 : Nat) : Int) = 1 from rfl] at this
  exact this
theorem walk (w : World) (a0_Nodes : Value) (xs0_Nodes : List Nd) (w0_Nodes : Prs w a0_Nodes xs0_Nodes) (a0_Leads : Value) (xs0_Leads : List Nd) (w0_Leads : Prs w a0_Leads xs0_Leads) (a1 : Int) (w1 : (Lit.int .i64 a1).wf = true) :
    Calls Tryz.prog 3 #[.agg #[a0_Nodes, a0_Leads], .int .i64 a1] w fun e w' => e = .returned (.bool true) ∧ Below w.heap.size w w' := by
  have hln := w0_Nodes.len
  have hll := w0_Leads.len
  have HP := Lib.hid (WinAt.mk w0_Nodes w0_Leads)
  have HN := Lib.hid w0_Nodes
  have HL := Lib.hid w0_Leads
  obtain ⟨A, c, rfl⟩ := prs_form2 w0_Nodes
  obtain ⟨A2, c2, rfl⟩ := prs_form2 w0_Leads
  have hx : -9223372036854775808 ≤ a1 ∧ a1 ≤ 9223372036854775807 := by
    simp [Lit.wf, IntKind.min, IntKind.max, IntKind.signed, IntKind.bits] at w1
    omega
  clear w0_Nodes w0_Leads w1
  have HZ := Lib.hid (szWindow_any xs0_Nodes.length c xs0_Leads.length c2 A A2 · hln hll)
  have HS := Lib.hid (fun v w (hv : WinAt w v xs0_Nodes xs0_Leads) => (show Calls Tryz.prog 17 #[v, .int .i64 a1] w (IntsNew (laL xs0_Nodes xs0_Leads a1) w) by
    obtain ⟨A1, A2, c1, c2, rfl, k1, k2⟩ := hv; exact specLa _ _ _ _ _ w k1 k2 hx))
  have HI := Lib.hid (fun v w (hv : WinAt w v xs0_Nodes xs0_Leads) => (show Calls Tryz.prog 19 #[v, .int .i64 a1] w (IntsNew (laL xs0_Nodes xs0_Leads a1) w) by
    obtain ⟨A1, A2, c1, c2, rfl, k1, k2⟩ := hv; exact implLa _ _ _ _ _ w k1 k2 hx))
  have HJ : (laL xs0_Nodes xs0_Leads a1).length ≤ 20 := laL_len _ _ _
  generalize laL xs0_Nodes xs0_Leads a1 = js at *
  unfold IntsNew at HS HI
  have HT := Lib.hid (fun v w hv h1 h2 => toWindow_at xs0_Nodes xs0_Leads v w hv h1 h2)
  have HTM := Lib.hid (fun v w (hv : WinAt w v xs0_Nodes xs0_Leads) h1 h2 => (show Calls Tryz.prog 18 #[v] w (WinIs 115 151 xs0_Nodes xs0_Leads w) by
    obtain ⟨A1, A2, c1, c2, rfl, k1, k2⟩ := hv; exact toWindow_any _ _ _ _ w k1 k2 h1 h2))
  unfold WinIs at HTM
  have HEQ := Lib.hid (fun v u w hv hu => eqWindow_at xs0_Nodes xs0_Leads v u w hv hu)
  have H0 := Lib.hid ((Held.none_ w).new2 w.heap.size rfl [.slice A xs0_Nodes.length c, .slice A2 xs0_Leads.length c2] 25)
  go_enter Tryz.func3, Tryz.ntmps3
  go_wp2_with fail
  refine (HZ.out _).mono ?_
  rintro e w1 ⟨q, rfl, hq, hb⟩
  have H1 := Lib.hid (H0.out.step hb); clear hb
  obtain ⟨x0, x1, _⟩ := H1.out.1
  rcases hq with hq | ⟨hq, hq1, hq2⟩
  · go_wp2_with fail
    go_ret
    exact ⟨rfl, H1.out.below⟩
  have HT := Lib.hid (fun v w hv => HT.out v w hv hq1 hq2)
  have HTM := Lib.hid (fun v w hv => HTM.out v w hv hq1 hq2)
  go_wp2_with fail
  refine (HT.out _ _ (HP.out.step H1.out.below)).mono ?_
  rintro e w2 ⟨v2, rfl, hm, hb⟩
  have H2 := Lib.hid (H1.out.step hb); clear hb
  clear x0 x1
  obtain ⟨x0, x1, _⟩ := H2.out.1
  have M2 := Lib.hid hm; clear hm
  go_wp2_with fail
  refine (HS.out _ _ M2.out).mono ?_
  rintro e w3 ⟨vw, rfl, hi, hb⟩
  have H3 := Lib.hid (H2.out.step hb); clear hb
  have KW := Lib.hid (fun k e => (hi.own k e).2)
  have IW3 := Lib.hid hi; clear hi
  clear x0 x1
  obtain ⟨x0, x1, _⟩ := H3.out.1
  have hlo := H3.out.2.1.1
  go_wp2_with fail
  refine (HTM.out _ _ (HP.out.step H3.out.below)).mono ?_
  rintro e w4 ⟨u1, u2, Bx, rfl, hm1, hLB, hs, hm2, hb⟩
  have hsz4 := hb.size
  have H4 := Lib.hid (H3.out.step hb)
  have IW4 := Lib.hid (IW3.out.step hb); clear hb
  obtain ⟨B1, d1, rfl⟩ := hm1.form
  obtain ⟨B2, d2, rfl⟩ := hm2.form
  have OW4 := Lib.hid (show WinOwn w4 w3.heap.size w4.heap.size _ _ xs0_Nodes xs0_Leads from ⟨Bx, hm1, hLB, hs, hm2, hm1.top, hm2.top⟩)
  have M4 := Lib.hid (WinAt.mk hm1.prs hm2.prs)
  clear hm1 hm2 hLB hs
  clear x0 x1
  obtain ⟨x0, x1, _⟩ := H4.out.1
  obtain ⟨y0, _, _⟩ := H4.out.2.1
  go_wp2_with fail
  have b5 : Below w4.heap.size w4 (w4.alloc (.cells #[.slice B1 xs0_Nodes.length d1, .slice B2 xs0_Leads.length d2] 32)) := (Below.refl _ _).alloc (Nat.le_refl _) _
  have H5 := Lib.hid (H4.out.new2 w4.heap.size rfl [.slice B1 xs0_Nodes.length d1, .slice B2 xs0_Leads.length d2] 32)
  have M5 := Lib.hid (M4.out.step b5)
  have OW5 := Lib.hid (OW4.out.step b5)
  have IW5 := Lib.hid (IW4.out.step b5)
  clear b5
  refine (HI.out _ _ M5.out).mono ?_
  rintro e w6 ⟨vg, rfl, hg, hb⟩
  have H6 := Lib.hid (H5.out.step hb)
  have M6 := Lib.hid (M5.out.step hb)
  have OW6 := Lib.hid (OW5.out.step hb)
  have IW6 := Lib.hid (IW5.out.step hb)
  have IG6 := Lib.hid (hg.mono (b' := w4.heap.size + 1) (by simp))
  clear hg hb x0 x1
  obtain ⟨x0, x1, x2, x3, _⟩ := H6.out.1
  go_wp2_with fail
  refine (eqIntS_yes IG6.out IW6.out).mono ?_
  rintro e w7' ⟨rfl, n7, rfl⟩
  have b7 := below_drewN (Below.refl w6.heap.size w6) n7
  have H7 := Lib.hid (H6.out.step b7)
  have R7 := Lib.hid (show Four (.slice B1 xs0_Nodes.length d1) (.slice B2 xs0_Leads.length d2) vg vw w3.heap.size w4.heap.size (w4.heap.size + 1) w2.heap.size xs0_Nodes xs0_Leads js _ from ⟨M6.out.step b7, OW6.out.step b7, IG6.out.step b7, IW6.out.step b7⟩)
  clear b7 x0 x1 x2 x3
  obtain ⟨x0, x1, x2, x3, _⟩ := H7.out.1
  go_wp2_with fail
  refine regionW (fun W => (Held _ W [(w4.heap.size, 0, .slice B1 xs0_Nodes.length d1), (w4.heap.size, 1, .slice B2 xs0_Leads.length d2), (w.heap.size, 0, .slice A xs0_Nodes.length c), (w.heap.size, 1, .slice A2 xs0_Leads.length c2)]) ∧ Four (.slice B1 xs0_Nodes.length d1) (.slice B2 xs0_Leads.length d2) vg vw w3.heap.size w4.heap.size (w4.heap.size + 1) w2.heap.size xs0_Nodes xs0_Leads js W) (by kernel_rfl) ⟨H7.out.drew, (R7.out).step ((Below.refl _ _).drew)⟩ ?_
  refine takeW (i := 0) (v := ?_) (Stable.and (Stable.held _ _) (stable_four (.slice B1 xs0_Nodes.length d1) (.slice B2 xs0_Leads.length d2) vg vw w3.heap.size w4.heap.size (w4.heap.size + 1) w2.heap.size xs0_Nodes xs0_Leads js)) rfl (by kernel_rfl) (by kernel_rfl) (by kernel_rfl) (fun _ _ _ h => h) ?_ ?_
  rotate_left
  · first | (refine Or.inl ⟨by rfl, fun W hS => detR_value (w' := W) ?_ (Below.refl _ _)⟩; obtain ⟨hH, q1⟩ := hS; obtain ⟨x0, x1, x2, x3, _⟩ := hH.1; go_simp; first | done | with_reducible rfl) | fail
  simp only [Act.put, List.setIfInBounds_toArray, List.set_cons_zero, List.set_cons_succ]
  refine takeW (i := 1) (v := ?_) (Stable.and (Stable.held _ _) (stable_four (.slice B1 xs0_Nodes.length d1) (.slice B2 xs0_Leads.length d2) vg vw w3.heap.size w4.heap.size (w4.heap.size + 1) w2.heap.size xs0_Nodes xs0_Leads js)) rfl (by kernel_rfl) (by kernel_rfl) (by kernel_rfl) (fun _ _ _ h => h) ?_ ?_
  rotate_left
  · first | (refine Or.inl ⟨by rfl, fun W hS => detR_value (w' := W) ?_ (Below.refl _ _)⟩; obtain ⟨hH, q1⟩ := hS; obtain ⟨x0, x1, x2, x3, _⟩ := hH.1; go_simp; first | done | with_reducible rfl) | fail
  simp only [Act.put, List.setIfInBounds_toArray, List.set_cons_zero, List.set_cons_succ]
  refine freeW (i := 2) (fun v W => WinAt W v xs0_Nodes xs0_Leads) (Stable.and (Stable.held _ _) (stable_four (.slice B1 xs0_Nodes.length d1) (.slice B2 xs0_Leads.length d2) vg vw w3.heap.size w4.heap.size (w4.heap.size + 1) w2.heap.size xs0_Nodes xs0_Leads js)) (fun v => stable_win v xs0_Nodes xs0_Leads) rfl (by kernel_rfl) (by rfl) (fun W hS => ?_) (fun v1 => ?_)
  · obtain ⟨hH, q1⟩ := hS; refine freeR_call (w' := W) (f := ?_) (args := ?_) ?_ ?_; rotate_left 2; (go_simp; (refine ⟨?_, ?_⟩ <;> with_reducible rfl)); refine (HT.out _ _ (HP.out.step hH.below)).mono ?_; rintro e wn ⟨v, rfl, hm, hb⟩; exact ⟨v, rfl, hm, hb⟩
  simp only [Act.put, List.setIfInBounds_toArray, List.set_cons_zero, List.set_cons_succ]
  refine takeW (i := 3) (v := ?_) (Stable.and (Stable.and (Stable.held _ _) (stable_four (.slice B1 xs0_Nodes.length d1) (.slice B2 xs0_Leads.length d2) vg vw w3.heap.size w4.heap.size (w4.heap.size + 1) w2.heap.size xs0_Nodes xs0_Leads js)) (stable_win v1 xs0_Nodes xs0_Leads)) rfl (by kernel_rfl) (by kernel_rfl) (by kernel_rfl) (fun _ _ _ h => h) ?_ ?_
  rotate_left
  · first | (refine Or.inl ⟨by rfl, fun W hS => ?_⟩; obtain ⟨⟨hH, q1⟩, r1⟩ := hS; refine detR_call (w' := W) (f := ?_) (args := ?_) ?_ ?_; rotate_left 2; (go_simp; (refine ⟨?_, ?_⟩ <;> with_reducible rfl)); (first | (with_reducible refine (HEQ.out _ _ _ (Four.win q1) r1).mono ?_) | fail); (first | (rintro e wn ⟨rfl, hb⟩; refine ⟨?_, hb⟩; with_reducible rfl) | (rintro e wn ⟨rfl, rfl⟩; refine ⟨?_, Below.refl _ _⟩; with_reducible rfl) | fail)) | fail
  simp only [Act.put, List.setIfInBounds_toArray, List.set_cons_zero, List.set_cons_succ]
  refine takeW (i := 4) (v := ?_) (Stable.and (Stable.and (Stable.held _ _) (stable_four (.slice B1 xs0_Nodes.length d1) (.slice B2 xs0_Leads.length d2) vg vw w3.heap.size w4.heap.size (w4.heap.size + 1) w2.heap.size xs0_Nodes xs0_Leads js)) (stable_win v1 xs0_Nodes xs0_Leads)) rfl (by kernel_rfl) (by kernel_rfl) (by kernel_rfl) (fun _ _ _ h => h) ?_ ?_
  rotate_left
  · first | (refine Or.inl ⟨by rfl, fun W hS => detR_value (w' := W) ?_ (Below.refl _ _)⟩; obtain ⟨⟨hH, q1⟩, r1⟩ := hS; obtain ⟨x0, x1, x2, x3, _⟩ := hH.1; go_simp; first | done | with_reducible rfl) | fail
  simp only [Act.put, List.setIfInBounds_toArray, List.set_cons_zero, List.set_cons_succ]
  refine doneW (by kernel_rfl) fun wH8 HG => ?_
  obtain ⟨⟨hH, q1⟩, r1⟩ := HG
  have H8 := Lib.hid hH; clear hH
  have MH8_q1 := Lib.hid q1; clear q1
  have MH8_1 := Lib.hid r1; clear r1
  try clear x0 x1 x2 x3
  obtain ⟨x0, x1, x2, x3, _⟩ := H8.out.1
  go_wp2_with fail
  have OW8 := Lib.hid MH8_q1.out.2.1
  have IG8 := Lib.hid MH8_q1.out.2.2.1
  have IW8 := Lib.hid MH8_q1.out.2.2.2
  clear MH8_q1 MH8_1
  have hs8 := H8.out.2.1.1
  go_wp2_with fail
  refine (markWindow_one OW8.out (by omega) hq1 hq2).mono ?_
  rintro e w9 ⟨⟨z, hz0, rfl⟩, ht⟩
  have H9 := Lib.hid (H8.out.turn ht ⟨.inr (Nat.le_refl _), .inr (Nat.le_refl _), .inl hlo, .inl hlo, trivial⟩ (by omega))
  have IG9 := Lib.hid (IG8.out.turn ht fun k e => .inr (by have := (IG8.out.own k e).1; omega))
  have IW9 := Lib.hid (IW8.out.turn ht fun k e => .inl (KW.out k e))
  clear ht x0 x1 x2 x3
  obtain ⟨x0, x1, x2, x3, _⟩ := H9.out.1
  go_wp2_with fail
  refine (eqIntS_yes IG9.out IW9.out).mono ?_
  rintro e w10' ⟨rfl, n10, rfl⟩
  have b10 := below_drewN (Below.refl w9.heap.size w9) n10
  have H10 := Lib.hid (H9.out.step b10)
  have IG10 := Lib.hid (IG9.out.step b10)
  have IW10 := Lib.hid (IW9.out.step b10)
  clear b10 x0 x1 x2 x3
  obtain ⟨x0, x1, x2, x3, _⟩ := H10.out.1
  go_wp2_with fail
  refine (markIntS_one IG10.out HJ).mono ?_
  rintro e w11 ⟨rfl, hmk, hgr⟩
  have ht := Turn.of_grown (Lo := w4.heap.size + 1) (Hi := (w9.drewN n10).heap.size) hgr (fun g e => IG10.out.own g e)
  have H11 := Lib.hid (H10.out.turn ht ⟨.inl (Nat.lt_succ_self _), .inl (Nat.lt_succ_self _), .inl (by omega), .inl (by omega), trivial⟩ (by omega))
  have IG11 := Lib.hid hmk
  have IW11 := Lib.hid (IW10.out.turn ht fun k e => .inl (by have := KW.out k e; omega))
  clear hmk hgr ht x0 x1 x2 x3
  obtain ⟨z2, hz2, hz20⟩ : ∃ z : Int, ((1 + js.length : Nat) : Int) = z ∧ 0 ≤ z := ⟨_, rfl, by omega⟩
  have HHE := Lib.hid (fun W (h : Ints W (w4.heap.size + 1) vg (marksI 1 js.length)) => (show Calls Tryz.prog 24 #[vg, .int .i64 1] W (fun e w' => e = .returned (.int .i64 z2) ∧ ∃ m, w' = W.drewN m) by
    rw [← hz2]; exact heldIntS_one js.length h HJ))
  rw [hz2]; clear hz2
  obtain ⟨x0, x1, x2, x3, _⟩ := H11.out.1
  go_wp2_with fail
  refine (HHE.out _ IG11.out).mono ?_
  rintro e w12' ⟨rfl, n12, rfl⟩
  have b12 := below_drewN (Below.refl w11.heap.size w11) n12
  have H12 := Lib.hid (H11.out.step b12)
  have IG12 := Lib.hid (IG11.out.step b12)
  have IW12 := Lib.hid (IW11.out.step b12)
  clear b12 x0 x1 x2 x3
  obtain ⟨x0, x1, x2, x3, _⟩ := H12.out.1
  go_wp2_with fail
  refine (HT.out _ _ (HP.out.step H12.out.below)).mono ?_
  rintro e w13 ⟨v13, rfl, hm, hb⟩
  have H13 := Lib.hid (H12.out.step hb)
  have IG13 := Lib.hid (IG12.out.step hb)
  have IW13 := Lib.hid (IW12.out.step hb)
  have M13 := Lib.hid hm
  clear hm hb x0 x1 x2 x3
  obtain ⟨x0, x1, x2, x3, _⟩ := H13.out.1
  go_wp2_with fail
  refine (HI.out _ _ M13.out).mono ?_
  rintro e w14 ⟨vh, rfl, hh, hb⟩
  have H14 := Lib.hid (H13.out.step hb)
  have IG14 := Lib.hid (IG13.out.step hb)
  have IW14 := Lib.hid (IW13.out.step hb)
  have IH14 := Lib.hid hh
  clear hh hb x0 x1 x2 x3
  obtain ⟨x0, x1, x2, x3, _⟩ := H14.out.1
  go_wp2_with fail
  refine (eqIntS_yes IH14.out IW14.out).mono ?_
  rintro e w15' ⟨rfl, n15, rfl⟩
  have b15 := below_drewN (Below.refl w14.heap.size w14) n15
  have H15 := Lib.hid (H14.out.step b15)
  have IG15 := Lib.hid (IG14.out.step b15)
  clear b15 x0 x1 x2 x3
  go_wp2_with fail
  refine (HHE.out _ IG15.out).mono ?_
  rintro e w16' ⟨rfl, n16, rfl⟩
  go_wp2_with fail
  go_ret
  exact ⟨rfl, (H14.out.step (below_drewN (Below.refl _ _) (n15 + n16))).below⟩

set_option maxRecDepth 100000 in
theorem lifted (os : Os) (started : os.Started) (H : Type) (enc : TypeId × Value → H) :
    ReturnsInHanded {} Tryz.checked os 3 .any (Rows.fnExactLooseAfterSpec.pre6 enc Tryz.prog Tryz.f3 Rows.fnExactLooseAfterRow.domain false) (Rows.fnExactLooseAfterSpec.post enc Tryz.prog Tryz.f3 false true false false) := by
  refine returnsInHanded_of_change (C := Tryz.checked) own started (by kernel_rfl) Tryz.func3
    (ChangeSpec.witness6 (enc := enc) (C := Tryz.checked) false ⟨#[], #[.agg #[.slice none 0 0, .slice none 0 0], .int .i64 0], []⟩ 8 (by kernel_rfl) (by kernel_rfl) (by kernel_rfl) (by kernel_rfl)) ?_
  intro W base args ds gs before hval0 hW hcnd _
  have hval : ∀ (j : Nat) t v, Tryz.f3.params[j]? = some t → args[j]? = some v → Value.okWide Tryz.prog W .any base t v := hval0
  have hW' := hW
  obtain ⟨p, q, hA0, hV, rfl, hfz, hnd⟩ := hW
  have hA : DataW.TrodAll enc Tryz.prog W 0 (fun _ => true) true Tryz.f3.params.toList args.toList ds p := hA0
  rw [Tryz.params3] at hA hval
  obtain ⟨v0, vs0, d0, ds0, p0, q0, hargs, rfl, rfl, h0, r0⟩ := trodAll_cons hA
  obtain ⟨v1, vs1, d1, ds1, p1, q1, rfl, rfl, rfl, h1, r1⟩ := trodAll_cons r0
  obtain ⟨rfl, rfl, rfl⟩ := trodAll_nil r1
  obtain rfl : args = #[v0, v1] := by cases args; simp_all
  obtain ⟨rfl, rfl⟩ := trodVars_none hV
  have k0 := h0
  have lt0 : ∀ x ∈ p0, x.block < W.heap.size := by obtain ⟨m, hm⟩ := k0; exact DataW.trod_lt m _ _ _ hm
  have k1 := h1
  have lt1 : ∀ x ∈ p1, x.block < W.heap.size := by obtain ⟨m, hm⟩ := k1; exact DataW.trod_lt m _ _ _ hm
  obtain ⟨c00, c01, y00, y01, m0, rfl, rfl, rfl, g00, g01⟩ := open_agg2 Tryz.underlying25 (by kernel_rfl) (by kernel_rfl) (hval 0 25 v0 rfl rfl) h0
  obtain ⟨a0_Nodes, xs0_Nodes, e0_Nodes, w0_Nodes⟩ := prs_open Tryz.underlying22 Tryz.underlying149 (by kernel_rfl) (by kernel_rfl) Tryz.underlying3 Tryz.underlying3 g00
  obtain rfl : c00 = a0_Nodes := by simpa using e0_Nodes
  obtain ⟨a0_Leads, xs0_Leads, e0_Leads, w0_Leads⟩ := prs_open Tryz.underlying23 Tryz.underlying153 (by kernel_rfl) (by kernel_rfl) Tryz.underlying3 Tryz.underlying3 g01
  obtain rfl : c01 = a0_Leads := by simpa using e0_Leads
  obtain ⟨a1, rfl, rfl, rfl, w1⟩ := open_int Tryz.underlying3 (hval 1 3 v1 rfl rfl) h1
  clear hA0 hval0
  refine (walk W _ xs0_Nodes w0_Nodes _ xs0_Leads w0_Leads a1 w1).mono fun e W' ⟨he, bel⟩ => ?_
  subst he
  exact ⟨_, rfl, _, _, _, [], _, [], hW', trodAll_mk1 (shut_bool Tryz.underlying4 _), trodAll_cons_mk (Below.trod laidOut (by kernel_rfl) (of_decide_eq_true (by kernel_rfl)) k0 bel lt0) (trodAll_cons_mk (Below.trod laidOut (by kernel_rfl) (of_decide_eq_true (by kernel_rfl)) k1 bel lt1) (trodAll_mk0)), rfl, bel.frame _, fun h => by cases h⟩

theorem jA : (Rows.fnExactLooseAfterRow.inPlace == Tryz.pinned.checked.prog.inPlace 3) = true := by kernel_rfl
theorem jB : (Rows.fnExactLooseAfterRow.unfollowed == Tryz.pinned.checked.prog.unfollowed 3) = true := by kernel_rfl
theorem jC : (Rows.fnExactLooseAfterRow.recurses == Tryz.pinned.checked.prog.recurses 3) = true := by kernel_rfl
theorem jD : (Rows.fnExactLooseAfterRow.named == Tryz.pinned.checked.prog.varsNamed 3) = true := by kernel_rfl
theorem closed : joinedFacts Tryz.pinned.checked.prog 3 Tryz.f3 Rows.fnExactLooseAfterSpec Rows.fnExactLooseAfterRow = true := by
  unfold joinedFacts
  repeat' (with_reducible refine and_yes ?_ ?_)
  all_goals first | with_reducible exact jEnter | with_reducible exact jHeard | with_reducible exact jLaid | with_reducible exact jMaps | with_reducible exact jA | with_reducible exact jB | with_reducible exact jC | with_reducible exact jD | kernel_rfl

theorem over : Rows.fnExactLooseAfterRow.holds Tryz.pinned (OpenSpec.ofChange Rows.fnExactLooseAfterSpec) :=
  OpenClaim.holds_of_wide 3 Tryz.f3 rfl rfl rfl rfl rfl rfl rfl ⟨rfl, rfl, rfl, rfl, rfl⟩ rfl rfl rfl rfl rfl (by kernel_rfl) Tryz.func3 closed
    (of_decide_eq_true (by kernel_rfl)) (by unfold Func.isWrapper; first | (rw [if_pos (by decide +kernel)]; kernel_rfl) | (rw [if_neg (by decide +kernel)]; exact ⟨rfl, rfl⟩))
    (fun os started H enc _ => lifted os started H enc)

/-- THE STATEMENT. -/
theorem proved : Rows.FnExactLooseAfterSaid := over
#print axioms proved
end Go.Proofs.YtepacoacalhdcaaGreat.fnExactLooseAfter
