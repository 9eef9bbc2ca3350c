/-
  The program's DropLead returns, for every window and every int, the window and the bool that the model's DropLead returns, in memory of its own, at each call anew, and leaves the window as it is: the law FnExactDropLead answers true. No condition.
-/
import Derived.Test.YtkkjcdilpbofmaaRows
import Derived.Test.YtkkjcdilpbofmaaDropS
import Derived.Test.YtkkjcdilpbofmaaLawW
import Derived.Test.YtkkjcdilpbofmaaOpen
import Derived.Test.YtkkjcdilpbofmaaTurn
import Derived.WalkKit
import Derived.ProofKit
import Derived.OpenShut
import Derived.ShutString
import Derived.ChangeOld
import Derived.Below
import Derived.Carry
import Derived.Lib.SmallJoins
namespace Go.Proofs.Ytkkjcdilpbofmaa.fnExactDropLead
open Go.ChangeShapes Go.WideShapes Go.ChangeAt Go.RowKit Go.Joins
open Go.ChangeMaps (open_string shut_string)
set_option linter.unusedVariables false
set_option linter.unusedSimpArgs false

theorem own : ownKnob Try.prog.godebug = none := by kernel_rfl
theorem laidOut : laidOutB Try.prog = true := by kernel_rfl
set_option maxRecDepth 100000
def FourW (u1 u2 g1 g2 s1 s2 : Value) (Lo Hi Bg Bw : Nat) (ns ls rl : List Nd) (w : World) : Prop :=
  WinAt w (.agg #[u1, u2]) ns ls ∧ WinOwn w Lo Hi u1 u2 ns ls ∧ WinO w Bg g1 g2 ns rl ∧ WinO w Bw s1 s2 ns rl
theorem FourW.step {u1 u2 g1 g2 s1 s2 : Value} {Lo Hi Bg Bw : Nat} {ns ls rl : List Nd} {w w' : World} (h : FourW u1 u2 g1 g2 s1 s2 Lo Hi Bg Bw ns ls rl w) (hb : Below w.heap.size w w') : FourW u1 u2 g1 g2 s1 s2 Lo Hi Bg Bw ns ls rl w' :=
  ⟨h.1.step hb, h.2.1.step hb, h.2.2.1.step hb, h.2.2.2.step hb⟩
theorem stable_fourW (u1 u2 g1 g2 s1 s2 : Value) (Lo Hi Bg Bw : Nat) (ns ls rl : List Nd) : Stable fun W => FourW u1 u2 g1 g2 s1 s2 Lo Hi Bg Bw ns ls rl W := fun _ _ h hb => h.step hb
theorem FourW.win {u1 u2 g1 g2 s1 s2 : Value} {Lo Hi Bg Bw : Nat} {ns ls rl : List Nd} {w : World} (h : FourW u1 u2 g1 g2 s1 s2 Lo Hi Bg Bw ns ls rl w) : WinAt w (.agg #[u1, u2]) ns ls := h.1
theorem markWindow_one {w : World} {Lo Hi : Nat} {v1 v2 : Value} {ns ls : List Nd} (h : WinOwn w Lo Hi v1 v2 ns ls) (hHi : Hi ≤ w.heap.size) (h1 : ns.length ≤ 1048576) (h2 : ls.length ≤ 1048576) :
    Calls Try.prog 32 #[.agg #[v1, v2], .int .i64 1] w fun e w' => (∃ z : Int, 0 ≤ z ∧ e = .returned (.int .i64 z)) ∧ Turn Lo Hi w w' := by
  have := markWindow_any 1 h hHi h1 h2 (by omega)
  rw [show ((1 : Nat) : Int) = 1 from rfl] at this
  exact this.mono fun e w' ⟨he, ht⟩ => ⟨⟨_, by omega, he⟩, ht⟩
theorem dropV_len (ns ls : List Nd) (k : Int) (h : ls.length ≤ 1048576) : (dropV ns ls k).length ≤ 1048576 := by
  unfold dropV
  split
  · unfold dropL; simp; omega
  · exact h
theorem walk (w : World) (a0_Nodes : Value) (xs0_Nodes : List Nd) (w0_Nodes : Prs w a0_Nodes xs0_Nodes) (a0_Leads : Value) (xs0_Leads : List Nd) (w0_Leads : Prs w a0_Leads xs0_Leads) (a1 : Int) (w1 : (Lit.int .i64 a1).wf = true) :
    Calls Try.prog 12 #[.agg #[a0_Nodes, a0_Leads], .int .i64 a1] w fun e w' => e = .returned (.bool true) ∧ Below w.heap.size w w' := by
  have hln := w0_Nodes.len
  have hll := w0_Leads.len
  have HP := Lib.hid (WinAt.mk w0_Nodes w0_Leads)
  obtain ⟨A, c, rfl⟩ := prs_form2 w0_Nodes
  obtain ⟨A2, c2, rfl⟩ := prs_form2 w0_Leads
  clear w0_Nodes w0_Leads w1
  have HZ := Lib.hid (szWindow_any xs0_Nodes.length c xs0_Leads.length c2 A A2 · hln hll)
  have HS := Lib.hid (fun (h1 : xs0_Nodes.length ≤ 1048576) (h2 : xs0_Leads.length ≤ 1048576) v w (hv : WinAt w v xs0_Nodes xs0_Leads) => (show Calls Try.prog 42 #[v, .int .i64 a1] w (WinBIs xs0_Nodes (dropV xs0_Nodes xs0_Leads a1) (hasLB xs0_Nodes xs0_Leads a1) w) by
    obtain ⟨A1, A2, c1, c2, rfl, k1, k2⟩ := hv; exact specDrop _ _ _ _ _ w k1 k2 h1 h2))
  have HI := Lib.hid (fun (h1 : xs0_Nodes.length ≤ 1048576) (h2 : xs0_Leads.length ≤ 1048576) v w (hv : WinAt w v xs0_Nodes xs0_Leads) => (show Calls Try.prog 43 #[v, .int .i64 a1] w (WinBIs xs0_Nodes (dropV xs0_Nodes xs0_Leads a1) (hasLB xs0_Nodes xs0_Leads a1) w) by
    obtain ⟨A1, A2, c1, c2, rfl, k1, k2⟩ := hv; exact implDrop _ _ _ _ _ w k1 k2 h1 h2))
  have HJ := Lib.hid (dropV_len xs0_Nodes xs0_Leads a1)
  generalize dropV xs0_Nodes xs0_Leads a1 = RL at *
  generalize hasLB xs0_Nodes xs0_Leads a1 = RB at *
  unfold WinBIs at HS HI
  have HT := Lib.hid (fun v w hv h1 h2 => toWindow_at xs0_Nodes xs0_Leads v w hv h1 h2)
  have HTM := Lib.hid (fun v w (hv : WinAt w v xs0_Nodes xs0_Leads) h1 h2 => (show Calls Try.prog 23 #[v] w (WinIs 65 57 xs0_Nodes xs0_Leads w) by
    obtain ⟨A1, A2, c1, c2, rfl, k1, k2⟩ := hv; exact toWindow_any _ _ _ _ w k1 k2 h1 h2))
  unfold WinIs at HTM
  have HEQ := Lib.hid (fun v u w hv hu => eqWindow_at xs0_Nodes xs0_Leads v u w hv hu)
  have HEQR := Lib.hid (fun v u w hv hu => eqWindow_at xs0_Nodes RL v u w hv hu)
  have H0 := Lib.hid ((Held.none_ w).new2 w.heap.size rfl [.slice A xs0_Nodes.length c, .slice A2 xs0_Leads.length c2] 32)
  go_enter Try.func12, Try.ntmps12
  go_wp2_with fail
  refine (HZ.out _).mono ?_
  rintro e w1 ⟨q, rfl, hq, hb⟩
  have H1 := Lib.hid (H0.out.step hb); clear hb
  obtain ⟨x0, x1, _⟩ := H1.out.1
  rcases hq with hq | ⟨hq, hq1, hq2⟩
  · go_wp2_with fail
    go_ret
    exact ⟨rfl, H1.out.below⟩
  have HT := Lib.hid (fun v w hv => HT.out v w hv hq1 hq2)
  have HTM := Lib.hid (fun v w hv => HTM.out v w hv hq1 hq2)
  have HS := Lib.hid (HS.out hq1 hq2)
  have HI := Lib.hid (HI.out hq1 hq2)
  have hRL := HJ.out hq2
  go_wp2_with fail
  refine (HT.out _ _ (HP.out.step H1.out.below)).mono ?_
  rintro e w2 ⟨v2, rfl, hm, hb⟩
  have H2 := Lib.hid (H1.out.step hb); clear hb
  clear x0 x1
  obtain ⟨x0, x1, _⟩ := H2.out.1
  have M2 := Lib.hid hm; clear hm
  go_wp2_with fail
  refine (HS.out _ _ M2.out).mono ?_
  rintro e w3 ⟨s1, s2, rfl, hi, hb⟩
  have H3 := Lib.hid (H2.out.step hb); clear hb
  have OS := Lib.hid hi.own
  have MS3 := Lib.hid (hi.mono (Nat.zero_le _)); clear hi
  obtain ⟨aS, cS, rfl, -⟩ := MS3.out.1.form
  obtain ⟨aS', cS', rfl, -⟩ := MS3.out.2.form
  clear x0 x1
  have hlo := H3.out.2.1.1
  have bb : Below w3.heap.size w3 (w3.alloc (.cells #[.slice aS xs0_Nodes.length cS, .slice aS' RL.length cS'] 38)) := (Below.refl _ _).alloc (Nat.le_refl _) _
  have H4 := Lib.hid (H3.out.new2 w3.heap.size rfl [.slice aS xs0_Nodes.length cS, .slice aS' RL.length cS'] 38)
  have MS4 := Lib.hid (MS3.out.step bb)
  clear bb MS3 H3
  obtain ⟨x0, x1, x2, x3, _⟩ := H4.out.1
  go_wp2_with fail
  refine (HTM.out _ _ (HP.out.step H4.out.below)).mono ?_
  rintro e w5 ⟨u1, u2, Bx, rfl, hm1, hLB, hs, hm2, hb⟩
  have H5 := Lib.hid (H4.out.step hb)
  have MS5 := Lib.hid (MS4.out.step hb)
  have hsz5 := hb.size
  clear hb
  rw [show (w3.alloc (.cells #[.slice aS xs0_Nodes.length cS, .slice aS' RL.length cS'] 38)).heap.size = w3.heap.size + 1 by simp] at hm1 hLB hsz5
  obtain ⟨B1, d1, rfl⟩ := hm1.form
  obtain ⟨B2, d2, rfl⟩ := hm2.form
  have OW5 := Lib.hid (show WinOwn w5 (w3.heap.size + 1) w5.heap.size _ _ xs0_Nodes xs0_Leads from ⟨Bx, hm1, hLB, hs, hm2, hm1.top, hm2.top⟩)
  have M5 := Lib.hid (WinAt.mk hm1.prs hm2.prs)
  clear hm1 hm2 hLB hs
  clear x0 x1 x2 x3
  have bb : Below w5.heap.size w5 (w5.alloc (.cells #[.slice B1 xs0_Nodes.length d1, .slice B2 xs0_Leads.length d2] 38)) := (Below.refl _ _).alloc (Nat.le_refl _) _
  have H6 := Lib.hid (H5.out.new2 w5.heap.size rfl [.slice B1 xs0_Nodes.length d1, .slice B2 xs0_Leads.length d2] 38)
  have M6 := Lib.hid (M5.out.step bb)
  have OW6 := Lib.hid (OW5.out.step bb)
  have MS6 := Lib.hid (MS5.out.step bb)
  clear bb M5 OW5 MS5 MS4 H4 H5
  obtain ⟨x0, x1, x2, x3, x4, x5, _⟩ := H6.out.1
  go_wp2_with fail
  refine (HI.out _ _ M6.out).mono ?_
  rintro e w7 ⟨g1, g2, rfl, hg, hb⟩
  have H7 := Lib.hid (H6.out.step hb)
  have M7 := Lib.hid (M6.out.step hb)
  have OW7 := Lib.hid (OW6.out.step hb)
  have MS7 := Lib.hid (MS6.out.step hb)
  rw [show (w5.alloc (.cells #[.slice B1 xs0_Nodes.length d1, .slice B2 xs0_Leads.length d2] 38)).heap.size = w5.heap.size + 1 by simp] at hg
  have OG := Lib.hid hg.own
  have MG7 := Lib.hid hg
  clear hg hb x0 x1 x2 x3 x4 x5
  obtain ⟨aG, cG, rfl, -⟩ := MG7.out.1.form
  obtain ⟨aG', cG', rfl, -⟩ := MG7.out.2.form
  have h75 := H7.out.2.1.1
  have bb : Below w7.heap.size w7 (w7.alloc (.cells #[.slice aG xs0_Nodes.length cG, .slice aG' RL.length cG'] 38)) := (Below.refl _ _).alloc (Nat.le_refl _) _
  have H8 := Lib.hid (H7.out.new2 w7.heap.size rfl [.slice aG xs0_Nodes.length cG, .slice aG' RL.length cG'] 38)
  have R8 := Lib.hid (show FourW (.slice B1 xs0_Nodes.length d1) (.slice B2 xs0_Leads.length d2) (.slice aG xs0_Nodes.length cG) (.slice aG' RL.length cG') (.slice aS xs0_Nodes.length cS) (.slice aS' RL.length cS') (w3.heap.size + 1) w5.heap.size (w5.heap.size + 1) 0 xs0_Nodes xs0_Leads RL _ from ⟨M7.out.step bb, OW7.out.step bb, MG7.out.step bb, MS7.out.step bb⟩)
  clear bb M6 OW6 MS6 M7 OW7 MS7 MG7 H6 H7
  obtain ⟨x0, x1, x2, x3, x4, x5, x6, x7, _⟩ := H8.out.1
  go_wp2_with fail
  refine (HEQR.out _ _ _ R8.out.2.2.1.at_ R8.out.2.2.2.at_).mono ?_
  rintro e w9 ⟨rfl, hb⟩
  have H9 := Lib.hid (H8.out.step hb)
  have R9 := Lib.hid (R8.out.step hb)
  clear hb x0 x1 x2 x3 x4 x5 x6 x7
  obtain ⟨x0, x1, x2, x3, x4, x5, x6, x7, _⟩ := H9.out.1
  go_wp2_with fail
  refine regionW (fun W => (Held _ W [(w7.heap.size, 0, .slice aG xs0_Nodes.length cG), (w7.heap.size, 1, .slice aG' RL.length cG'), (w5.heap.size, 0, .slice B1 xs0_Nodes.length d1), (w5.heap.size, 1, .slice B2 xs0_Leads.length d2), (w3.heap.size, 0, .slice aS xs0_Nodes.length cS), (w3.heap.size, 1, .slice aS' RL.length cS'), (w.heap.size, 0, .slice A xs0_Nodes.length c), (w.heap.size, 1, .slice A2 xs0_Leads.length c2)]) ∧ FourW (.slice B1 xs0_Nodes.length d1) (.slice B2 xs0_Leads.length d2) (.slice aG xs0_Nodes.length cG) (.slice aG' RL.length cG') (.slice aS xs0_Nodes.length cS) (.slice aS' RL.length cS') (w3.heap.size + 1) w5.heap.size (w5.heap.size + 1) 0 xs0_Nodes xs0_Leads RL W) (by kernel_rfl) ⟨H9.out.drew, (R9.out).step ((Below.refl _ _).drew)⟩ ?_
  refine takeW (i := 0) (v := ?_) (Stable.and (Stable.held _ _) (stable_fourW (.slice B1 xs0_Nodes.length d1) (.slice B2 xs0_Leads.length d2) (.slice aG xs0_Nodes.length cG) (.slice aG' RL.length cG') (.slice aS xs0_Nodes.length cS) (.slice aS' RL.length cS') (w3.heap.size + 1) w5.heap.size (w5.heap.size + 1) 0 xs0_Nodes xs0_Leads RL)) rfl (by kernel_rfl) (by kernel_rfl) (by kernel_rfl) (fun _ _ _ h => h) ?_ ?_
  rotate_left
  · first | (refine Or.inl ⟨by rfl, fun W hS => detR_value (w' := W) ?_ (Below.refl _ _)⟩; obtain ⟨hH, q1⟩ := hS; obtain ⟨x0, x1, x2, x3, x4, x5, x6, x7, _⟩ := hH.1; go_simp; first | done | with_reducible rfl) | fail
  simp only [Act.put, List.setIfInBounds_toArray, List.set_cons_zero, List.set_cons_succ]
  refine takeW (i := 1) (v := ?_) (Stable.and (Stable.held _ _) (stable_fourW (.slice B1 xs0_Nodes.length d1) (.slice B2 xs0_Leads.length d2) (.slice aG xs0_Nodes.length cG) (.slice aG' RL.length cG') (.slice aS xs0_Nodes.length cS) (.slice aS' RL.length cS') (w3.heap.size + 1) w5.heap.size (w5.heap.size + 1) 0 xs0_Nodes xs0_Leads RL)) rfl (by kernel_rfl) (by kernel_rfl) (by kernel_rfl) (fun _ _ _ h => h) ?_ ?_
  rotate_left
  · first | (refine Or.inl ⟨by rfl, fun W hS => detR_value (w' := W) ?_ (Below.refl _ _)⟩; obtain ⟨hH, q1⟩ := hS; obtain ⟨x0, x1, x2, x3, x4, x5, x6, x7, _⟩ := hH.1; go_simp; first | done | with_reducible rfl) | fail
  simp only [Act.put, List.setIfInBounds_toArray, List.set_cons_zero, List.set_cons_succ]
  refine freeW (i := 2) (fun v W => WinAt W v xs0_Nodes xs0_Leads) (Stable.and (Stable.held _ _) (stable_fourW (.slice B1 xs0_Nodes.length d1) (.slice B2 xs0_Leads.length d2) (.slice aG xs0_Nodes.length cG) (.slice aG' RL.length cG') (.slice aS xs0_Nodes.length cS) (.slice aS' RL.length cS') (w3.heap.size + 1) w5.heap.size (w5.heap.size + 1) 0 xs0_Nodes xs0_Leads RL)) (fun v => stable_win v xs0_Nodes xs0_Leads) rfl (by kernel_rfl) (by rfl) (fun W hS => ?_) (fun v1 => ?_)
  · obtain ⟨hH, q1⟩ := hS; refine freeR_call (w' := W) (f := ?_) (args := ?_) ?_ ?_; rotate_left 2; (go_simp; (refine ⟨?_, ?_⟩ <;> with_reducible rfl)); refine (HT.out _ _ (HP.out.step hH.below)).mono ?_; rintro e wn ⟨v, rfl, hm, hb⟩; exact ⟨v, rfl, hm, hb⟩
  simp only [Act.put, List.setIfInBounds_toArray, List.set_cons_zero, List.set_cons_succ]
  refine takeW (i := 3) (v := ?_) (Stable.and (Stable.and (Stable.held _ _) (stable_fourW (.slice B1 xs0_Nodes.length d1) (.slice B2 xs0_Leads.length d2) (.slice aG xs0_Nodes.length cG) (.slice aG' RL.length cG') (.slice aS xs0_Nodes.length cS) (.slice aS' RL.length cS') (w3.heap.size + 1) w5.heap.size (w5.heap.size + 1) 0 xs0_Nodes xs0_Leads RL)) (stable_win v1 xs0_Nodes xs0_Leads)) rfl (by kernel_rfl) (by kernel_rfl) (by kernel_rfl) (fun _ _ _ h => h) ?_ ?_
  rotate_left
  · first | (refine Or.inl ⟨by rfl, fun W hS => ?_⟩; obtain ⟨⟨hH, q1⟩, r1⟩ := hS; refine detR_call (w' := W) (f := ?_) (args := ?_) ?_ ?_; rotate_left 2; (go_simp; (refine ⟨?_, ?_⟩ <;> with_reducible rfl)); (first | (with_reducible refine (HEQ.out _ _ _ (FourW.win q1) r1).mono ?_) | fail); (first | (rintro e wn ⟨rfl, hb⟩; refine ⟨?_, hb⟩; with_reducible rfl) | (rintro e wn ⟨rfl, rfl⟩; refine ⟨?_, Below.refl _ _⟩; with_reducible rfl) | fail)) | fail
  simp only [Act.put, List.setIfInBounds_toArray, List.set_cons_zero, List.set_cons_succ]
  refine takeW (i := 4) (v := ?_) (Stable.and (Stable.and (Stable.held _ _) (stable_fourW (.slice B1 xs0_Nodes.length d1) (.slice B2 xs0_Leads.length d2) (.slice aG xs0_Nodes.length cG) (.slice aG' RL.length cG') (.slice aS xs0_Nodes.length cS) (.slice aS' RL.length cS') (w3.heap.size + 1) w5.heap.size (w5.heap.size + 1) 0 xs0_Nodes xs0_Leads RL)) (stable_win v1 xs0_Nodes xs0_Leads)) rfl (by kernel_rfl) (by kernel_rfl) (by kernel_rfl) (fun _ _ _ h => h) ?_ ?_
  rotate_left
  · first | (refine Or.inl ⟨by rfl, fun W hS => detR_value (w' := W) ?_ (Below.refl _ _)⟩; obtain ⟨⟨hH, q1⟩, r1⟩ := hS; obtain ⟨x0, x1, x2, x3, x4, x5, x6, x7, _⟩ := hH.1; go_simp; first | done | with_reducible rfl) | fail
  simp only [Act.put, List.setIfInBounds_toArray, List.set_cons_zero, List.set_cons_succ]
  refine doneW (by kernel_rfl) fun wHA HG => ?_
  obtain ⟨⟨hH, q1⟩, r1⟩ := HG
  have HA := Lib.hid hH; clear hH
  have MHA_q1 := Lib.hid q1; clear q1
  have MHA_1 := Lib.hid r1; clear r1
  try clear x0 x1 x2 x3 x4 x5 x6 x7
  obtain ⟨x0, x1, x2, x3, x4, x5, x6, x7, _⟩ := HA.out.1
  go_wp2_with fail
  have OWA := Lib.hid MHA_q1.out.2.1
  have MGA := Lib.hid MHA_q1.out.2.2.1
  have MSA := Lib.hid MHA_q1.out.2.2.2
  have MSL := Lib.hid OS.out
  clear MHA_q1 MHA_1 R8 R9
  have hs7 := HA.out.2.1.1
  go_wp2_with fail
  refine (markWindow_one OWA.out (by omega) hq1 hq2).mono ?_
  rintro e wB ⟨⟨z, hz0, rfl⟩, ht⟩
  have HB := Lib.hid (HA.out.turn ht ⟨.inr (by omega), .inr (by omega), .inr (Nat.le_refl _), .inr (Nat.le_refl _), .inl (Nat.lt_succ_self _), .inl (Nat.lt_succ_self _), .inl (by omega), .inl (by omega), trivial⟩ (by omega))
  have MGB := Lib.hid (MGA.out.turn ht fun k e => .inr (by have := (OG.out k e).1; omega))
  have MSB := Lib.hid (MSA.out.turn ht fun k e => .inl (by have := (OS.out k e).2; omega))
  clear ht x0 x1 x2 x3 x4 x5 x6 x7 MGA MSA OWA
  obtain ⟨x0, x1, x2, x3, x4, x5, x6, x7, _⟩ := HB.out.1
  go_wp2_with fail
  refine (HEQR.out _ _ _ MGB.out.at_ MSB.out.at_).mono ?_
  rintro e wHC ⟨rfl, hb⟩
  have MGB := Lib.hid (MGB.out.step hb)
  have MSB := Lib.hid (MSB.out.step hb)
  have HC := Lib.hid ((HB.out).step hb); clear hb
  try clear x0 x1 x2 x3 x4 x5 x6 x7
  obtain ⟨x0, x1, x2, x3, x4, x5, x6, x7, _⟩ := HC.out.1
  go_wp2_with fail
  refine (markWindow_o1 (L1 := w5.heap.size + 1) (L2 := w7.heap.size) MGB.out OG.out hq1 hRL).mono ?_
  rintro e wD ⟨rfl, hm, ht⟩
  have HD := Lib.hid (HC.out.turn ht ⟨.inr (Nat.le_refl _), .inr (Nat.le_refl _), .inl (Nat.lt_succ_self _), .inl (Nat.lt_succ_self _), .inl (by omega), .inl (by omega), .inl (by omega), .inl (by omega), trivial⟩ (by omega))
  have MSD := Lib.hid (MSB.out.turn ht fun k e => .inl (by have := (OS.out k e).2; omega))
  have MMD := Lib.hid hm
  clear hm ht x0 x1 x2 x3 x4 x5 x6 x7
  obtain ⟨z2, hz2, hz20⟩ : ∃ z : Int, ((1 + 2 * xs0_Nodes.length + 2 * RL.length : Nat) : Int) = z ∧ 0 ≤ z := ⟨_, rfl, by omega⟩
  have HHE := Lib.hid (fun W (h : WinO W (w5.heap.size + 1) (.slice aG xs0_Nodes.length cG) (.slice aG' RL.length cG') (marksP 1 xs0_Nodes.length) (marksP (1 + 2 * xs0_Nodes.length) RL.length)) => hz2 ▸ heldWindow_o1 h hq1 hRL)
  rw [hz2]; clear hz2
  obtain ⟨x0, x1, x2, x3, x4, x5, x6, x7, _⟩ := HD.out.1
  go_wp2_with fail
  refine (HHE.out _ MMD.out).mono ?_
  rintro e wHE ⟨rfl, hb⟩
  have MMD := Lib.hid (MMD.out.step hb)
  have MSD := Lib.hid (MSD.out.step hb)
  have HE := Lib.hid ((HD.out).step hb); clear hb
  try clear x0 x1 x2 x3 x4 x5 x6 x7
  obtain ⟨x0, x1, x2, x3, x4, x5, x6, x7, _⟩ := HE.out.1
  go_wp2_with fail
  refine (HT.out _ _ (HP.out.step HE.out.below)).mono ?_
  rintro e wF ⟨vF, rfl, hm, hb⟩
  have HF := Lib.hid (HE.out.step hb)
  have MSF := Lib.hid (MSD.out.step hb)
  have MMF := Lib.hid (MMD.out.step hb)
  have MF := Lib.hid hm
  clear hm hb x0 x1 x2 x3 x4 x5 x6 x7
  obtain ⟨x0, x1, x2, x3, x4, x5, x6, x7, _⟩ := HF.out.1
  go_wp2_with fail
  refine (HI.out _ _ MF.out).mono ?_
  rintro e wG ⟨k1, k2, rfl, hm, hb⟩
  have HG := Lib.hid (HF.out.step hb)
  have MSG := Lib.hid (MSF.out.step hb)
  have MMG := Lib.hid (MMF.out.step hb)
  have MKG := Lib.hid hm
  clear hm hb x0 x1 x2 x3 x4 x5 x6 x7
  obtain ⟨aK, cK, rfl, -⟩ := MKG.out.1.form
  obtain ⟨aK', cK', rfl, -⟩ := MKG.out.2.form
  have bb : Below wG.heap.size wG (wG.alloc (.cells #[.slice aK xs0_Nodes.length cK, .slice aK' RL.length cK'] 38)) := (Below.refl _ _).alloc (Nat.le_refl _) _
  have HH := Lib.hid (HG.out.new2 wG.heap.size rfl [.slice aK xs0_Nodes.length cK, .slice aK' RL.length cK'] 38)
  have MSH := Lib.hid (MSG.out.step bb)
  have MMH := Lib.hid (MMG.out.step bb)
  have MKH := Lib.hid (MKG.out.step bb)
  clear bb
  obtain ⟨x0, x1, x2, x3, x4, x5, x6, x7, x8, x9, _⟩ := HH.out.1
  go_wp2_with fail
  refine (HEQR.out _ _ _ MKH.out.at_ MSH.out.at_).mono ?_
  rintro e wHX ⟨rfl, hb⟩
  have MMH := Lib.hid (MMH.out.step hb)
  have HX := Lib.hid ((HH.out).step hb); clear hb
  try clear x0 x1 x2 x3 x4 x5 x6 x7 x8 x9
  obtain ⟨x0, x1, x2, x3, x4, x5, x6, x7, x8, x9, _⟩ := HX.out.1
  go_wp2_with fail
  refine (HHE.out _ MMH.out).mono ?_
  rintro e wHY ⟨rfl, hb⟩
  have HY := Lib.hid ((HX.out).step hb); clear hb
  try clear x0 x1 x2 x3 x4 x5 x6 x7 x8 x9
  obtain ⟨x0, x1, x2, x3, x4, x5, x6, x7, x8, x9, _⟩ := HY.out.1
  go_wp2_with fail
  go_ret
  exact ⟨rfl, HY.out.below⟩

set_option maxRecDepth 100000 in
theorem lifted (os : Os) (started : os.Started) (H : Type) (enc : TypeId × Value → H) :
    ReturnsInHanded {} Try.checked os 12 .any (Rows.fnExactDropLeadSpec.pre6 enc Try.prog Try.f12 Rows.fnExactDropLeadRow.domain false) (Rows.fnExactDropLeadSpec.post enc Try.prog Try.f12 false true false false) := by
  refine returnsInHanded_of_change (C := Try.checked) own started (by kernel_rfl) Try.func12
    (ChangeSpec.witness6 (enc := enc) (C := Try.checked) false ⟨#[], #[.agg #[.slice none 0 0, .slice none 0 0], .int .i64 0], []⟩ 8 (by kernel_rfl) (by kernel_rfl) (by kernel_rfl) (by kernel_rfl)) ?_
  intro W base args ds gs before hval0 hW hcnd _
  have hval : ∀ (j : Nat) t v, Try.f12.params[j]? = some t → args[j]? = some v → Value.okWide Try.prog W .any base t v := hval0
  have hW' := hW
  obtain ⟨p, q, hA0, hV, rfl, hfz, hnd⟩ := hW
  have hA : DataW.TrodAll enc Try.prog W 0 (fun _ => true) true Try.f12.params.toList args.toList ds p := hA0
  rw [Try.params12] at hA hval
  obtain ⟨v0, vs0, d0, ds0, p0, q0, hargs, rfl, rfl, h0, r0⟩ := trodAll_cons hA
  obtain ⟨v1, vs1, d1, ds1, p1, q1, rfl, rfl, rfl, h1, r1⟩ := trodAll_cons r0
  obtain ⟨rfl, rfl, rfl⟩ := trodAll_nil r1
  obtain rfl : args = #[v0, v1] := by cases args; simp_all
  obtain ⟨rfl, rfl⟩ := trodVars_none hV
  have k0 := h0
  have lt0 : ∀ x ∈ p0, x.block < W.heap.size := by obtain ⟨m, hm⟩ := k0; exact DataW.trod_lt m _ _ _ hm
  have k1 := h1
  have lt1 : ∀ x ∈ p1, x.block < W.heap.size := by obtain ⟨m, hm⟩ := k1; exact DataW.trod_lt m _ _ _ hm
  obtain ⟨c00, c01, y00, y01, m0, rfl, rfl, rfl, g00, g01⟩ := open_agg2 Try.underlying32 (by kernel_rfl) (by kernel_rfl) (hval 0 32 v0 rfl rfl) h0
  obtain ⟨a0_Nodes, xs0_Nodes, e0_Nodes, w0_Nodes⟩ := prs_open Try.underlying29 Try.underlying100 (by kernel_rfl) (by kernel_rfl) Try.underlying3 Try.underlying3 g00
  obtain rfl : c00 = a0_Nodes := by simpa using e0_Nodes
  obtain ⟨a0_Leads, xs0_Leads, e0_Leads, w0_Leads⟩ := prs_open Try.underlying30 Try.underlying102 (by kernel_rfl) (by kernel_rfl) Try.underlying3 Try.underlying3 g01
  obtain rfl : c01 = a0_Leads := by simpa using e0_Leads
  obtain ⟨a1, rfl, rfl, rfl, w1⟩ := open_int Try.underlying3 (hval 1 3 v1 rfl rfl) h1
  clear hA0 hval0
  refine (walk W _ xs0_Nodes w0_Nodes _ xs0_Leads w0_Leads a1 w1).mono fun e W' ⟨he, bel⟩ => ?_
  subst he
  exact ⟨_, rfl, _, _, _, [], _, [], hW', trodAll_mk1 (shut_bool Try.underlying4 _), trodAll_cons_mk (Below.trod laidOut (by kernel_rfl) (of_decide_eq_true (by kernel_rfl)) k0 bel lt0) (trodAll_cons_mk (Below.trod laidOut (by kernel_rfl) (of_decide_eq_true (by kernel_rfl)) k1 bel lt1) (trodAll_mk0)), rfl, bel.frame _, fun h => by cases h⟩

theorem over : Rows.fnExactDropLeadRow.holds Try.pinned (OpenSpec.ofChange Rows.fnExactDropLeadSpec) :=
  OpenClaim.holds_of_wide 12 Try.f12 rfl rfl rfl rfl rfl rfl rfl ⟨rfl, rfl, rfl, rfl, rfl⟩ rfl rfl rfl rfl rfl (by kernel_rfl) Try.func12 (by kernel_rfl)
    (of_decide_eq_true (by kernel_rfl)) (by unfold Func.isWrapper; first | (rw [if_pos (by decide +kernel)]; kernel_rfl) | (rw [if_neg (by decide +kernel)]; exact ⟨rfl, rfl⟩))
    (fun os started H enc _ => lifted os started H enc)

/-- THE STATEMENT. -/
theorem proved : Rows.FnExactDropLeadSaid := over
#print axioms proved
end Go.Proofs.Ytkkjcdilpbofmaa.fnExactDropLead
