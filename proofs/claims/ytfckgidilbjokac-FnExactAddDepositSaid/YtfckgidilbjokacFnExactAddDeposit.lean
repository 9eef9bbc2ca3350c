/-
  The program's AddDeposit returns, for every list of deposits and every deposit, the deposits and the bool that the model's AddDeposit returns, in memory of its own, and leaves the list as it is: the law FnExactAddDeposit answers true. No condition.
-/
import Derived.Test.YtfckgidilbjokacRows
import Derived.Test.YtfckgidilbjokacAdT
import Derived.Test.YtfckgidilbjokacTrM
import Derived.Test.YtfckgidilbjokacOpen
import Derived.WalkKit
import Derived.ProofKit
import Derived.OpenShut
import Derived.ShutString
import Derived.ChangeOld
import Derived.Below
import Derived.Carry
import Derived.Lib.SmallJoins
namespace Go.Proofs.Ytfckgidilbjokac.fnExactAddDeposit
open Go.ChangeShapes Go.WideShapes Go.ChangeAt Go.RowKit Go.Joins
open Go.ChangeMaps (open_string shut_string)
set_option linter.unusedVariables false
set_option linter.unusedSimpArgs false

theorem own : ownKnob Try.prog.godebug = none := by kernel_rfl
theorem laidOut : laidOutB Try.prog = true := by kernel_rfl
set_option maxRecDepth 100000
def TupT (B : Nat) (T : TypeId) (js : List Tr) (b : Bool) (v : Value) (W : World) : Prop := ∃ u, v = .tuple #[u, .bool b] ∧ Tps W B T u js
theorem stable_tup (B : Nat) (T : TypeId) (js : List Tr) (b : Bool) (v : Value) : Stable fun W => TupT B T js b v W := fun _ _ ⟨u, h1, h2⟩ hb => ⟨u, h1, h2.step hb⟩
theorem stable_tps (B : Nat) (T : TypeId) (v : Value) (xs : List Tr) : Stable fun W => Tps W B T v xs := fun _ _ h hb => h.step hb
def Tri3 (w5 : World) (Bw Bt : Nat) (T : TypeId) (vw vt : Value) (js xs : List Tr) (W : World) : Prop := Below w5.heap.size w5 W ∧ Tps W Bw T vw js ∧ Tps W Bt T vt xs
theorem stable_tri3 (w5 : World) (Bw Bt : Nat) (T : TypeId) (vw vt : Value) (js xs : List Tr) : Stable fun W => Tri3 w5 Bw Bt T vw vt js xs W := fun _ _ h hb => ⟨h.1.trans (hb.mono h.1.size), h.2.1.step hb, h.2.2.step hb⟩
def Two3 (Bw Bt : Nat) (T : TypeId) (vw vt : Value) (js xs : List Tr) (W : World) : Prop := Tps W Bw T vw js ∧ Tps W Bt T vt xs
theorem stable_two3 (Bw Bt : Nat) (T : TypeId) (vw vt : Value) (js xs : List Tr) : Stable fun W => Two3 Bw Bt T vw vt js xs W := fun _ _ h hb => ⟨h.1.step hb, h.2.step hb⟩
theorem adT_len (xs : List Tr) (t : Tr) : (adT xs t).length ≤ xs.length + 1 := by
  unfold adT
  split <;> simp
theorem walk (w : World) (a0 : Value) (xs0 : List Tr) (w0 : Trs w a0 xs0) (a1_Place : Int) (w1_Place : (Lit.int .i64 a1_Place).wf = true) (a1_Crate : Int) (w1_Crate : (Lit.int .i64 a1_Crate).wf = true) (a1_Day : Int) (w1_Day : (Lit.int .i64 a1_Day).wf = true) :
    Calls Try.prog 10 #[a0, .agg #[.int .i64 a1_Place, .int .i64 a1_Crate, .int .i64 a1_Day]] w fun e w' => e = .returned (.bool true) ∧ Below w.heap.size w w' := by
  have hll := w0.len
  have HQ := Lib.hid w0
  obtain ⟨A2, c2, rfl⟩ := w0.form2
  clear w0 w1_Place w1_Crate w1_Day
  have H2 := Lib.hid ((Held.none_ w).new2 w.heap.size rfl [.int .i64 a1_Place, .int .i64 a1_Crate, .int .i64 a1_Day] 77)
  simp only [newFs, List.cons_append, List.nil_append, List.append_nil] at H2
  have HT0 := Lib.hid (toDeposit_any ⟨a1_Place, a1_Crate, a1_Day⟩)
  unfold TriIs Tr.val at HT0
  simp only at HT0
  go_enter Try.func10, Try.ntmps10
  have HZ := Lib.hid (fun w => szDepositS_any xs0.length c2 A2 1048576 w (by omega) (by omega) hll)
  go_wp2_with fail
  refine (HZ.out _).mono ?_
  rintro e w1' ⟨rfl, rfl⟩
  by_cases hbig1 : 1048576 < xs0.length
  · rw [if_pos (by omega)]
    go_wp2_with fail
    go_ret
    exact ⟨rfl, H2.out.below⟩
  have hl1 : xs0.length ≤ 1048576 := by omega
  rw [if_neg (by omega)]
  clear HZ
  have HSS := Lib.hid (fun u W (hu : Trs W u xs0) => (specAdd xs0 u ⟨a1_Place, a1_Crate, a1_Day⟩ W hu hl1).mono (R' := fun e w' => ∃ v, e = .returned v ∧ TupT 0 80 (adT xs0 ⟨a1_Place, a1_Crate, a1_Day⟩) (adB xs0 ⟨a1_Place, a1_Crate, a1_Day⟩) v w' ∧ Below W.heap.size W w') fun e w' ⟨v, he, ho, hb⟩ => ⟨_, he, ⟨v, rfl, ho.mono (Nat.zero_le _)⟩, hb⟩)
  have HII := Lib.hid (fun B u W (hu : Trs W u xs0) (hB : B ≤ W.heap.size) => (implAdd xs0 u ⟨a1_Place, a1_Crate, a1_Day⟩ W hu hl1).mono (R' := fun e w' => ∃ v, e = .returned v ∧ TupT B 80 (adT xs0 ⟨a1_Place, a1_Crate, a1_Day⟩) (adB xs0 ⟨a1_Place, a1_Crate, a1_Day⟩) v w' ∧ Below W.heap.size W w') fun e w' ⟨v, he, ho, hb⟩ => ⟨_, he, ⟨v, rfl, ho.mono hB⟩, hb⟩)
  have HJ := adT_len xs0 ⟨a1_Place, a1_Crate, a1_Day⟩
  generalize adT xs0 ⟨a1_Place, a1_Crate, a1_Day⟩ = js at *
  generalize adB xs0 ⟨a1_Place, a1_Crate, a1_Day⟩ = ok at *
  unfold Tr.val at HSS HII
  simp only at HSS HII
  have HJ1 : js.length ≤ xs0.length + 1 := by omega
  clear HJ
  have HT2 := Lib.hid (fun w h => toDepositS_any xs0 (.slice A2 xs0.length c2) w h hl1)
  unfold TpsNew at HT2
  have HTT := Lib.hid (fun W h => (HT2.out W h).mono (R' := fun e w' => ∃ v, e = .returned v ∧ Tps w' 0 80 v xs0 ∧ Below W.heap.size W w') fun e w' ⟨v, he, ho, hb⟩ => ⟨v, he, ho.mono (Nat.zero_le _), hb⟩)
  have HEQ2 := Lib.hid (fun v u w hv hu => eqDepositS_yes xs0 v u w hv hu)
  have HEJ := Lib.hid (fun v u w hv hu => eqDepositS_yes js v u w hv hu)
  obtain ⟨x0, x1, x2, _⟩ := H2.out.1
  cases ok
  · go_wp2_with fail
    refine regionW (fun W => Held _ W [(w.heap.size, 0, .int .i64 (a1_Place)), (w.heap.size, 1, .int .i64 (a1_Crate)), (w.heap.size, 2, .int .i64 (a1_Day))]) (by kernel_rfl) H2.out.drew ?_
    refine takeW (i := 0) (v := ?_) (Stable.held _ _) rfl (by kernel_rfl) (by kernel_rfl) (by kernel_rfl) (fun _ _ _ h => h) ?_ ?_
    rotate_left
    · first | (refine Or.inl ⟨by rfl, fun W hS => detR_value (w' := W) ?_ (Below.refl _ _)⟩; have hH := hS; obtain ⟨x0, x1, x2, _⟩ := hH.1; go_simp; first | done | with_reducible rfl) | fail
    simp only [Act.put, List.setIfInBounds_toArray, List.set_cons_zero, List.set_cons_succ]
    refine takeW (i := 2) (v := ?_) (Stable.held _ _) rfl (by kernel_rfl) (by kernel_rfl) (by kernel_rfl) (fun _ _ _ h => h) ?_ ?_
    rotate_left
    · first | (refine Or.inl ⟨by rfl, fun W hS => detR_value (w' := W) ?_ (Below.refl _ _)⟩; have hH := hS; obtain ⟨x0, x1, x2, _⟩ := hH.1; go_simp; first | done | with_reducible rfl) | fail
    simp only [Act.put, List.setIfInBounds_toArray, List.set_cons_zero, List.set_cons_succ]
    refine freeX (i := 1) (fun v W => Tps W 0 80 v xs0) (Stable.held _ _) (fun v => stable_tps 0 80 v xs0) rfl (by kernel_rfl) (by rfl) (fun W hS => ?_) (fun v hex => ?_)
    · have hH := hS; obtain ⟨x0, x1, x2, _⟩ := hH.1; refine freeR_call (w' := W) (f := ?_) (args := ?_) ?_ ?_; rotate_left 2; (go_simp; (refine ⟨?_, ?_⟩ <;> with_reducible rfl)); exact HTT.out _ (HQ.out.step hH.below)
    obtain ⟨WX, hex⟩ := hex
    obtain ⟨as1, cs1, rfl, -⟩ := hex.form
    try clear hex
    try clear WX
    simp only [Act.put, List.setIfInBounds_toArray, List.set_cons_zero, List.set_cons_succ]
    refine takeW (i := 3) (v := ?_) (Stable.and (Stable.held _ _) (stable_tps 0 80 (.slice as1 xs0.length cs1) xs0)) rfl (by kernel_rfl) (by kernel_rfl) (by kernel_rfl) (fun _ _ _ h => h) ?_ ?_
    rotate_left
    · first | (refine Or.inl ⟨by rfl, fun W hS => ?_⟩; obtain ⟨hH, r1⟩ := hS; refine detR_call (w' := W) (f := ?_) (args := ?_) ?_ ?_; rotate_left 2; (go_simp; (refine ⟨?_, ?_⟩ <;> with_reducible rfl)); (first | (with_reducible refine (HT0.out _).mono ?_) | fail); (first | (rintro e wn ⟨rfl, hb⟩; refine ⟨?_, hb⟩; with_reducible rfl) | (rintro e wn ⟨rfl, rfl⟩; refine ⟨?_, Below.refl _ _⟩; with_reducible rfl) | fail)) | fail
    simp only [Act.put, List.setIfInBounds_toArray, List.set_cons_zero, List.set_cons_succ]
    refine freeX (i := 4) (fun v W => TupT 0 80 js false v W) (Stable.and (Stable.held _ _) (stable_tps 0 80 (.slice as1 xs0.length cs1) xs0)) (fun v => stable_tup 0 80 js false v) rfl (by kernel_rfl) (by rfl) (fun W hS => ?_) (fun v hex => ?_)
    · obtain ⟨hH, r1⟩ := hS; obtain ⟨x0, x1, x2, _⟩ := hH.1; refine freeR_call (w' := W) (f := ?_) (args := ?_) ?_ ?_; rotate_left 2; (go_simp; (refine ⟨?_, ?_⟩ <;> with_reducible rfl)); exact HSS.out _ _ r1.trs
    obtain ⟨WX, hex⟩ := hex
    obtain ⟨u4, rfl, -⟩ := hex
    try clear hex
    try clear WX
    simp only [Act.put, List.setIfInBounds_toArray, List.set_cons_zero, List.set_cons_succ]
    refine takeW (i := 5) (v := ?_) (Stable.and (Stable.and (Stable.held _ _) (stable_tps 0 80 (.slice as1 xs0.length cs1) xs0)) (stable_tup 0 80 js false (.tuple #[u4, .bool false]))) rfl (by kernel_rfl) (by kernel_rfl) (by kernel_rfl) (fun _ _ _ h => h) ?_ ?_
    rotate_left
    · first | (refine Or.inl ⟨by rfl, fun W hS => detR_value (w' := W) ?_ (Below.refl _ _)⟩; obtain ⟨⟨hH, r1⟩, r4⟩ := hS; obtain ⟨x0, x1, x2, _⟩ := hH.1; go_simp; first | done | with_reducible rfl) | fail
    simp only [Act.put, List.setIfInBounds_toArray, List.set_cons_zero, List.set_cons_succ]
    refine takeW (i := 6) (v := ?_) (Stable.and (Stable.and (Stable.held _ _) (stable_tps 0 80 (.slice as1 xs0.length cs1) xs0)) (stable_tup 0 80 js false (.tuple #[u4, .bool false]))) rfl (by kernel_rfl) (by kernel_rfl) (by kernel_rfl) (fun _ _ _ h => h) ?_ ?_
    rotate_left
    · first | (refine Or.inl ⟨by rfl, fun W hS => detR_value (w' := W) ?_ (Below.refl _ _)⟩; obtain ⟨⟨hH, r1⟩, r4⟩ := hS; obtain ⟨x0, x1, x2, _⟩ := hH.1; go_simp; first | done | with_reducible rfl) | fail
    simp only [Act.put, List.setIfInBounds_toArray, List.set_cons_zero, List.set_cons_succ]
    refine takeW (i := 7) (v := ?_) (Stable.and (Stable.and (Stable.held _ _) (stable_tps 0 80 (.slice as1 xs0.length cs1) xs0)) (stable_tup 0 80 js false (.tuple #[u4, .bool false]))) rfl (by kernel_rfl) (by kernel_rfl) (by kernel_rfl) (fun _ _ _ h => h) ?_ ?_
    rotate_left
    · first | (refine Or.inl ⟨by rfl, fun W hS => detR_value (w' := W) ?_ (Below.refl _ _)⟩; obtain ⟨⟨hH, r1⟩, r4⟩ := hS; obtain ⟨x0, x1, x2, _⟩ := hH.1; go_simp; first | done | with_reducible rfl) | fail
    simp only [Act.put, List.setIfInBounds_toArray, List.set_cons_zero, List.set_cons_succ]
    refine takeW (i := 8) (v := ?_) (Stable.and (Stable.and (Stable.held _ _) (stable_tps 0 80 (.slice as1 xs0.length cs1) xs0)) (stable_tup 0 80 js false (.tuple #[u4, .bool false]))) rfl (by kernel_rfl) (by kernel_rfl) (by kernel_rfl) (fun _ _ _ h => h) ?_ ?_
    rotate_left
    · first | (refine Or.inl ⟨by rfl, fun W hS => detR_value (w' := W) ?_ (Below.refl _ _)⟩; obtain ⟨⟨hH, r1⟩, r4⟩ := hS; obtain ⟨x0, x1, x2, _⟩ := hH.1; go_simp; first | done | with_reducible rfl) | fail
    simp only [Act.put, List.setIfInBounds_toArray, List.set_cons_zero, List.set_cons_succ]
    refine takeW (i := 9) (v := ?_) (Stable.and (Stable.and (Stable.held _ _) (stable_tps 0 80 (.slice as1 xs0.length cs1) xs0)) (stable_tup 0 80 js false (.tuple #[u4, .bool false]))) rfl (by kernel_rfl) (by kernel_rfl) (by kernel_rfl) (fun _ _ _ h => h) ?_ ?_
    rotate_left
    · first | (refine Or.inl ⟨by rfl, fun W hS => detR_value (w' := W) ?_ (Below.refl _ _)⟩; obtain ⟨⟨hH, r1⟩, r4⟩ := hS; obtain ⟨x0, x1, x2, _⟩ := hH.1; go_simp; first | done | with_reducible rfl) | fail
    simp only [Act.put, List.setIfInBounds_toArray, List.set_cons_zero, List.set_cons_succ]
    refine doneW (by kernel_rfl) fun wH3 HG => ?_
    obtain ⟨⟨hH, r1⟩, r4⟩ := HG
    have H3 := Lib.hid hH; clear hH
    have MH3_o1 := Lib.hid r1; clear r1
    have MH3_o4 := Lib.hid r4; clear r4
    try clear x0 x1 x2
    skip
    obtain ⟨vw, e5, hi⟩ := MH3_o4.out
    injection e5 with e5
    injection e5 with e5
    injection e5 with e5 _
    replace e5 := e5.symm
    subst e5
    have KW := Lib.hid (fun k e => (hi.own k e).2)
    have IW3 := Lib.hid hi; clear hi MH3_o1 MH3_o4
    obtain ⟨x0, x1, x2, _⟩ := H3.out.1
    go_wp2_with fail
    refine (HT2.out _ (HQ.out.step H3.out.below)).mono ?_
    rintro e w5 ⟨vt, rfl, hm, hb⟩
    have H5 := Lib.hid (H3.out.step hb)
    have IW5 := Lib.hid (IW3.out.step hb)
    have KT := Lib.hid (fun k e => (hm.own k e).2)
    have hs5 := hb.size
    have T5 := Lib.hid hm; clear hm hb
    have hlo := H3.out.2.1.1
    clear x0 x1 x2
    obtain ⟨x0, x1, x2, _⟩ := H5.out.1
    go_wp2_with fail
    refine (HT0.out _).mono ?_
    rintro e w5b ⟨rfl, hb⟩
    have H5b := Lib.hid (H5.out.step hb)
    have IW5b := Lib.hid (IW5.out.step hb)
    have T5b := Lib.hid (T5.out.step hb)
    have hs5b := hb.size
    clear hb x0 x1 x2
    go_wp2_with fail
    refine (HII.out w5.heap.size _ _ T5b.out.trs hs5b).mono ?_
    rintro e w6 ⟨_, rfl, ⟨vg, rfl, hg⟩, hb⟩
    have H6 := Lib.hid (H5b.out.step hb)
    have IW6 := Lib.hid (IW5b.out.step hb)
    have T6 := Lib.hid (T5b.out.step hb)
    clear hb
    have IG6 := Lib.hid hg
    clear hg
    obtain ⟨x0, x1, x2, _⟩ := H6.out.1
    go_wp2_with fail
    refine (HEJ.out _ _ _ IG6.out.trs IW6.out.trs).mono ?_
    rintro e w9 ⟨rfl, hb⟩
    have H9 := Lib.hid (H6.out.step hb)
    have IW9 := Lib.hid (IW6.out.step hb)
    have T9 := Lib.hid (T6.out.step hb)
    have IG9 := Lib.hid (IG6.out.step hb)
    clear hb x0 x1 x2
    obtain ⟨x0, x1, x2, _⟩ := H9.out.1
    go_wp2_with fail
    refine (HT2.out _ (HQ.out.step H9.out.below)).mono ?_
    rintro e w10 ⟨vz, rfl, hm, hb⟩
    have Z10 := Lib.hid hm; clear hm
    have H10 := Lib.hid (H9.out.step hb)
    have IW10 := Lib.hid (IW9.out.step hb)
    have T10 := Lib.hid (T9.out.step hb)
    have IG10 := Lib.hid (IG9.out.step hb)
    clear hb x0 x1 x2
    go_wp2_with fail
    refine (HEQ2.out _ _ _ T10.out.trs Z10.out.trs).mono ?_
    rintro e w12 ⟨rfl, hb⟩
    have H12 := Lib.hid (H10.out.step hb)
    have IW12 := Lib.hid (IW10.out.step hb)
    have T12 := Lib.hid (T10.out.step hb)
    have IG12 := Lib.hid (IG10.out.step hb)
    clear hb Z10
    have HMK := Lib.hid (fun W (h : Tps W wH3.heap.size 80 vt xs0) => markDepositS_one h (by omega))
    obtain ⟨z2, hz2, hz20⟩ : ∃ z : Int, ((1 + 3 * xs0.length : Nat) : Int) = z ∧ 0 ≤ z := ⟨_, rfl, by omega⟩
    rw [hz2] at HMK
    clear hz2
    have hs3 := H3.out.below.size
    go_wp2_with fail
    refine (HMK.out _ T12.out).mono ?_
    rintro e w13 ⟨rfl, -, hgr⟩
    have ht := Turn.of_grown (Lo := wH3.heap.size) (Hi := w5.heap.size) hgr (fun g e => ⟨(T12.out.own g e).1, KT.out g e⟩)
    have H13 := Lib.hid (H12.out.turn ht ⟨.inl hlo, .inl hlo, .inl hlo, trivial⟩ hs3)
    have IG13 := Lib.hid (IG12.out.turn ht fun k e => .inr (IG12.out.own k e).1)
    have IW13 := Lib.hid (IW12.out.turn ht fun k e => .inl (KW.out k e))
    clear hgr ht HMK
    go_wp2_with fail
    any_goals (first | (exfalso; omega) | skip)
    refine (HEJ.out _ _ _ IG13.out.trs IW13.out.trs).mono ?_
    rintro e w14 ⟨rfl, hb⟩
    have H14 := Lib.hid (H13.out.step hb)
    have IW14 := Lib.hid (IW13.out.step hb)
    have IG14 := Lib.hid (IG13.out.step hb)
    clear hb
    have hs13 := H13.out.below.size
    go_wp2_with fail
    refine (markDepositS_one IG14.out (by omega)).mono ?_
    rintro e w15 ⟨rfl, hmk, hgr⟩
    have ht := Turn.of_grown (Lo := w5.heap.size) (Hi := w14.heap.size) hgr (fun g e => IG14.out.own g e)
    have H15 := Lib.hid (H14.out.turn ht ⟨.inl (by omega), .inl (by omega), .inl (by omega), trivial⟩ (by omega))
    have IG15 := Lib.hid hmk
    have IW15 := Lib.hid (IW14.out.turn ht fun k e => .inl (by have := KW.out k e; omega))
    clear hmk hgr ht
    obtain ⟨z3, hz3, hz30⟩ : ∃ z : Int, ((1 + 3 * js.length : Nat) : Int) = z ∧ 0 ≤ z := ⟨_, rfl, by omega⟩
    have HHE := Lib.hid (fun W (h : Tps W w5.heap.size 80 vg (marksT 1 js.length)) => (show Calls Try.prog 54 #[vg, .int .i64 1] W (fun e w' => e = .returned (.int .i64 z3) ∧ ∃ m, w' = W.drewN m) by
      rw [← hz3]; exact heldDepositS_one js.length h (by omega)))
    rw [hz3]; clear hz3
    go_wp2_with fail
    refine (HHE.out _ IG15.out).mono ?_
    rintro e w16' ⟨rfl, n16, rfl⟩
    have hb := below_drewN (Below.refl w15.heap.size w15) n16
    have H16 := Lib.hid (H15.out.step hb)
    have IG16 := Lib.hid (IG15.out.step hb)
    have IW16 := Lib.hid (IW15.out.step hb)
    clear hb
    obtain ⟨x0, x1, x2, _⟩ := H16.out.1
    go_wp2_with fail
    refine regionW (fun W => (Held _ W [(w.heap.size, 0, .int .i64 (a1_Place)), (w.heap.size, 1, .int .i64 (a1_Crate)), (w.heap.size, 2, .int .i64 (a1_Day))]) ∧ Two3 0 w5.heap.size 80 vw vg js (marksT 1 js.length) W) (by kernel_rfl) ⟨H16.out.drew, ⟨IW16.out.step ((Below.refl _ _).drew), IG16.out.step ((Below.refl _ _).drew)⟩⟩ ?_
    refine takeW (i := 0) (v := ?_) (Stable.and (Stable.held _ _) (stable_two3 0 w5.heap.size 80 vw vg js (marksT 1 js.length))) rfl (by kernel_rfl) (by kernel_rfl) (by kernel_rfl) (fun _ _ _ h => h) ?_ ?_
    rotate_left
    · first | (refine Or.inl ⟨by rfl, fun W hS => detR_value (w' := W) ?_ (Below.refl _ _)⟩; obtain ⟨hH, q1⟩ := hS; obtain ⟨x0, x1, x2, _⟩ := hH.1; go_simp; first | done | with_reducible rfl) | fail
    simp only [Act.put, List.setIfInBounds_toArray, List.set_cons_zero, List.set_cons_succ]
    refine takeW (i := 2) (v := ?_) (Stable.and (Stable.held _ _) (stable_two3 0 w5.heap.size 80 vw vg js (marksT 1 js.length))) rfl (by kernel_rfl) (by kernel_rfl) (by kernel_rfl) (fun _ _ _ h => h) ?_ ?_
    rotate_left
    · first | (refine Or.inl ⟨by rfl, fun W hS => detR_value (w' := W) ?_ (Below.refl _ _)⟩; obtain ⟨hH, q1⟩ := hS; obtain ⟨x0, x1, x2, _⟩ := hH.1; go_simp; first | done | with_reducible rfl) | fail
    simp only [Act.put, List.setIfInBounds_toArray, List.set_cons_zero, List.set_cons_succ]
    refine freeX (i := 1) (fun v W => Tps W 0 80 v xs0) (Stable.and (Stable.held _ _) (stable_two3 0 w5.heap.size 80 vw vg js (marksT 1 js.length))) (fun v => stable_tps 0 80 v xs0) rfl (by kernel_rfl) (by rfl) (fun W hS => ?_) (fun v hex => ?_)
    · obtain ⟨hH, q1⟩ := hS; obtain ⟨x0, x1, x2, _⟩ := hH.1; refine freeR_call (w' := W) (f := ?_) (args := ?_) ?_ ?_; rotate_left 2; (go_simp; (refine ⟨?_, ?_⟩ <;> with_reducible rfl)); exact HTT.out _ (HQ.out.step hH.below)
    obtain ⟨WX, hex⟩ := hex
    obtain ⟨as1, cs1, rfl, -⟩ := hex.form
    try clear hex
    try clear WX
    simp only [Act.put, List.setIfInBounds_toArray, List.set_cons_zero, List.set_cons_succ]
    refine takeW (i := 3) (v := ?_) (Stable.and (Stable.and (Stable.held _ _) (stable_two3 0 w5.heap.size 80 vw vg js (marksT 1 js.length))) (stable_tps 0 80 (.slice as1 xs0.length cs1) xs0)) rfl (by kernel_rfl) (by kernel_rfl) (by kernel_rfl) (fun _ _ _ h => h) ?_ ?_
    rotate_left
    · first | (refine Or.inl ⟨by rfl, fun W hS => ?_⟩; obtain ⟨⟨hH, q1⟩, r1⟩ := hS; refine detR_call (w' := W) (f := ?_) (args := ?_) ?_ ?_; rotate_left 2; (go_simp; (refine ⟨?_, ?_⟩ <;> with_reducible rfl)); (first | (with_reducible refine (HT0.out _).mono ?_) | fail); (first | (rintro e wn ⟨rfl, hb⟩; refine ⟨?_, hb⟩; with_reducible rfl) | (rintro e wn ⟨rfl, rfl⟩; refine ⟨?_, Below.refl _ _⟩; with_reducible rfl) | fail)) | fail
    simp only [Act.put, List.setIfInBounds_toArray, List.set_cons_zero, List.set_cons_succ]
    refine freeX (i := 4) (fun v W => TupT 0 80 js false v W) (Stable.and (Stable.and (Stable.held _ _) (stable_two3 0 w5.heap.size 80 vw vg js (marksT 1 js.length))) (stable_tps 0 80 (.slice as1 xs0.length cs1) xs0)) (fun v => stable_tup 0 80 js false v) rfl (by kernel_rfl) (by rfl) (fun W hS => ?_) (fun v hex => ?_)
    · obtain ⟨⟨hH, q1⟩, r1⟩ := hS; obtain ⟨x0, x1, x2, _⟩ := hH.1; refine freeR_call (w' := W) (f := ?_) (args := ?_) ?_ ?_; rotate_left 2; (go_simp; (refine ⟨?_, ?_⟩ <;> with_reducible rfl)); exact HII.out _ _ _ r1.trs (Nat.zero_le _)
    obtain ⟨WX, hex⟩ := hex
    obtain ⟨u4, rfl, -⟩ := hex
    try clear hex
    try clear WX
    simp only [Act.put, List.setIfInBounds_toArray, List.set_cons_zero, List.set_cons_succ]
    refine takeW (i := 5) (v := ?_) (Stable.and (Stable.and (Stable.and (Stable.held _ _) (stable_two3 0 w5.heap.size 80 vw vg js (marksT 1 js.length))) (stable_tps 0 80 (.slice as1 xs0.length cs1) xs0)) (stable_tup 0 80 js false (.tuple #[u4, .bool false]))) rfl (by kernel_rfl) (by kernel_rfl) (by kernel_rfl) (fun _ _ _ h => h) ?_ ?_
    rotate_left
    · first | (refine Or.inl ⟨by rfl, fun W hS => detR_value (w' := W) ?_ (Below.refl _ _)⟩; obtain ⟨⟨⟨hH, q1⟩, r1⟩, r4⟩ := hS; obtain ⟨x0, x1, x2, _⟩ := hH.1; go_simp; first | done | with_reducible rfl) | fail
    simp only [Act.put, List.setIfInBounds_toArray, List.set_cons_zero, List.set_cons_succ]
    refine takeW (i := 6) (v := ?_) (Stable.and (Stable.and (Stable.and (Stable.held _ _) (stable_two3 0 w5.heap.size 80 vw vg js (marksT 1 js.length))) (stable_tps 0 80 (.slice as1 xs0.length cs1) xs0)) (stable_tup 0 80 js false (.tuple #[u4, .bool false]))) rfl (by kernel_rfl) (by kernel_rfl) (by kernel_rfl) (fun _ _ _ h => h) ?_ ?_
    rotate_left
    · first | (refine Or.inl ⟨by rfl, fun W hS => detR_value (w' := W) ?_ (Below.refl _ _)⟩; obtain ⟨⟨⟨hH, q1⟩, r1⟩, r4⟩ := hS; obtain ⟨x0, x1, x2, _⟩ := hH.1; go_simp; first | done | with_reducible rfl) | fail
    simp only [Act.put, List.setIfInBounds_toArray, List.set_cons_zero, List.set_cons_succ]
    refine takeW (i := 7) (v := ?_) (Stable.and (Stable.and (Stable.and (Stable.held _ _) (stable_two3 0 w5.heap.size 80 vw vg js (marksT 1 js.length))) (stable_tps 0 80 (.slice as1 xs0.length cs1) xs0)) (stable_tup 0 80 js false (.tuple #[u4, .bool false]))) rfl (by kernel_rfl) (by kernel_rfl) (by kernel_rfl) (fun _ _ _ h => h) ?_ ?_
    rotate_left
    · first | (refine Or.inl ⟨by rfl, fun W hS => detR_value (w' := W) ?_ (Below.refl _ _)⟩; obtain ⟨⟨⟨hH, q1⟩, r1⟩, r4⟩ := hS; obtain ⟨x0, x1, x2, _⟩ := hH.1; go_simp; first | done | with_reducible rfl) | fail
    simp only [Act.put, List.setIfInBounds_toArray, List.set_cons_zero, List.set_cons_succ]
    refine takeW (i := 8) (v := ?_) (Stable.and (Stable.and (Stable.and (Stable.held _ _) (stable_two3 0 w5.heap.size 80 vw vg js (marksT 1 js.length))) (stable_tps 0 80 (.slice as1 xs0.length cs1) xs0)) (stable_tup 0 80 js false (.tuple #[u4, .bool false]))) rfl (by kernel_rfl) (by kernel_rfl) (by kernel_rfl) (fun _ _ _ h => h) ?_ ?_
    rotate_left
    · first | (refine Or.inl ⟨by rfl, fun W hS => detR_value (w' := W) ?_ (Below.refl _ _)⟩; obtain ⟨⟨⟨hH, q1⟩, r1⟩, r4⟩ := hS; obtain ⟨x0, x1, x2, _⟩ := hH.1; go_simp; first | done | with_reducible rfl) | fail
    simp only [Act.put, List.setIfInBounds_toArray, List.set_cons_zero, List.set_cons_succ]
    refine takeW (i := 9) (v := ?_) (Stable.and (Stable.and (Stable.and (Stable.held _ _) (stable_two3 0 w5.heap.size 80 vw vg js (marksT 1 js.length))) (stable_tps 0 80 (.slice as1 xs0.length cs1) xs0)) (stable_tup 0 80 js false (.tuple #[u4, .bool false]))) rfl (by kernel_rfl) (by kernel_rfl) (by kernel_rfl) (fun _ _ _ h => h) ?_ ?_
    rotate_left
    · first | (refine Or.inl ⟨by rfl, fun W hS => detR_value (w' := W) ?_ (Below.refl _ _)⟩; obtain ⟨⟨⟨hH, q1⟩, r1⟩, r4⟩ := hS; obtain ⟨x0, x1, x2, _⟩ := hH.1; go_simp; first | done | with_reducible rfl) | fail
    simp only [Act.put, List.setIfInBounds_toArray, List.set_cons_zero, List.set_cons_succ]
    refine doneW (by kernel_rfl) fun wH19 HG => ?_
    obtain ⟨⟨⟨hH, q1⟩, r1⟩, r4⟩ := HG
    have H19 := Lib.hid hH; clear hH
    have MH19_q1 := Lib.hid q1; clear q1
    have MH19_o1 := Lib.hid r1; clear r1
    have MH19_o4 := Lib.hid r4; clear r4
    try clear x0 x1 x2
    skip
    obtain ⟨vh, e5, hh⟩ := MH19_o4.out
    injection e5 with e5
    injection e5 with e5
    injection e5 with e5 _
    replace e5 := e5.symm
    subst e5
    have IH19 := Lib.hid hh
    have IW19 := Lib.hid MH19_q1.out.1
    have IG19 := Lib.hid MH19_q1.out.2
    clear hh MH19_o4 MH19_o1 MH19_q1
    go_wp2_with fail
    refine (HEJ.out _ _ _ IH19.out.trs IW19.out.trs).mono ?_
    rintro e w20 ⟨rfl, hb⟩
    have H20 := Lib.hid (H19.out.step hb)
    have IG20 := Lib.hid (IG19.out.step hb); clear hb
    go_wp2_with fail
    refine (HHE.out _ IG20.out).mono ?_
    rintro e w21' ⟨rfl, n21, rfl⟩
    go_wp2_with fail
    go_ret
    exact ⟨rfl, (H20.out.step (below_drewN (Below.refl _ _) n21)).below⟩
  · go_wp2_with fail
    refine regionW (fun W => Held _ W [(w.heap.size, 0, .int .i64 (a1_Place)), (w.heap.size, 1, .int .i64 (a1_Crate)), (w.heap.size, 2, .int .i64 (a1_Day))]) (by kernel_rfl) H2.out.drew ?_
    refine takeW (i := 0) (v := ?_) (Stable.held _ _) rfl (by kernel_rfl) (by kernel_rfl) (by kernel_rfl) (fun _ _ _ h => h) ?_ ?_
    rotate_left
    · first | (refine Or.inl ⟨by rfl, fun W hS => detR_value (w' := W) ?_ (Below.refl _ _)⟩; have hH := hS; obtain ⟨x0, x1, x2, _⟩ := hH.1; go_simp; first | done | with_reducible rfl) | fail
    simp only [Act.put, List.setIfInBounds_toArray, List.set_cons_zero, List.set_cons_succ]
    refine takeW (i := 2) (v := ?_) (Stable.held _ _) rfl (by kernel_rfl) (by kernel_rfl) (by kernel_rfl) (fun _ _ _ h => h) ?_ ?_
    rotate_left
    · first | (refine Or.inl ⟨by rfl, fun W hS => detR_value (w' := W) ?_ (Below.refl _ _)⟩; have hH := hS; obtain ⟨x0, x1, x2, _⟩ := hH.1; go_simp; first | done | with_reducible rfl) | fail
    simp only [Act.put, List.setIfInBounds_toArray, List.set_cons_zero, List.set_cons_succ]
    refine freeX (i := 1) (fun v W => Tps W 0 80 v xs0) (Stable.held _ _) (fun v => stable_tps 0 80 v xs0) rfl (by kernel_rfl) (by rfl) (fun W hS => ?_) (fun v hex => ?_)
    · have hH := hS; obtain ⟨x0, x1, x2, _⟩ := hH.1; refine freeR_call (w' := W) (f := ?_) (args := ?_) ?_ ?_; rotate_left 2; (go_simp; (refine ⟨?_, ?_⟩ <;> with_reducible rfl)); exact HTT.out _ (HQ.out.step hH.below)
    obtain ⟨WX, hex⟩ := hex
    obtain ⟨as1, cs1, rfl, -⟩ := hex.form
    try clear hex
    try clear WX
    simp only [Act.put, List.setIfInBounds_toArray, List.set_cons_zero, List.set_cons_succ]
    refine takeW (i := 3) (v := ?_) (Stable.and (Stable.held _ _) (stable_tps 0 80 (.slice as1 xs0.length cs1) xs0)) rfl (by kernel_rfl) (by kernel_rfl) (by kernel_rfl) (fun _ _ _ h => h) ?_ ?_
    rotate_left
    · first | (refine Or.inl ⟨by rfl, fun W hS => ?_⟩; obtain ⟨hH, r1⟩ := hS; refine detR_call (w' := W) (f := ?_) (args := ?_) ?_ ?_; rotate_left 2; (go_simp; (refine ⟨?_, ?_⟩ <;> with_reducible rfl)); (first | (with_reducible refine (HT0.out _).mono ?_) | fail); (first | (rintro e wn ⟨rfl, hb⟩; refine ⟨?_, hb⟩; with_reducible rfl) | (rintro e wn ⟨rfl, rfl⟩; refine ⟨?_, Below.refl _ _⟩; with_reducible rfl) | fail)) | fail
    simp only [Act.put, List.setIfInBounds_toArray, List.set_cons_zero, List.set_cons_succ]
    refine freeX (i := 4) (fun v W => TupT 0 80 js true v W) (Stable.and (Stable.held _ _) (stable_tps 0 80 (.slice as1 xs0.length cs1) xs0)) (fun v => stable_tup 0 80 js true v) rfl (by kernel_rfl) (by rfl) (fun W hS => ?_) (fun v hex => ?_)
    · obtain ⟨hH, r1⟩ := hS; obtain ⟨x0, x1, x2, _⟩ := hH.1; refine freeR_call (w' := W) (f := ?_) (args := ?_) ?_ ?_; rotate_left 2; (go_simp; (refine ⟨?_, ?_⟩ <;> with_reducible rfl)); exact HSS.out _ _ r1.trs
    obtain ⟨WX, hex⟩ := hex
    obtain ⟨u4, rfl, -⟩ := hex
    try clear hex
    try clear WX
    simp only [Act.put, List.setIfInBounds_toArray, List.set_cons_zero, List.set_cons_succ]
    refine takeW (i := 5) (v := ?_) (Stable.and (Stable.and (Stable.held _ _) (stable_tps 0 80 (.slice as1 xs0.length cs1) xs0)) (stable_tup 0 80 js true (.tuple #[u4, .bool true]))) rfl (by kernel_rfl) (by kernel_rfl) (by kernel_rfl) (fun _ _ _ h => h) ?_ ?_
    rotate_left
    · first | (refine Or.inl ⟨by rfl, fun W hS => detR_value (w' := W) ?_ (Below.refl _ _)⟩; obtain ⟨⟨hH, r1⟩, r4⟩ := hS; obtain ⟨x0, x1, x2, _⟩ := hH.1; go_simp; first | done | with_reducible rfl) | fail
    simp only [Act.put, List.setIfInBounds_toArray, List.set_cons_zero, List.set_cons_succ]
    refine takeW (i := 6) (v := ?_) (Stable.and (Stable.and (Stable.held _ _) (stable_tps 0 80 (.slice as1 xs0.length cs1) xs0)) (stable_tup 0 80 js true (.tuple #[u4, .bool true]))) rfl (by kernel_rfl) (by kernel_rfl) (by kernel_rfl) (fun _ _ _ h => h) ?_ ?_
    rotate_left
    · first | (refine Or.inl ⟨by rfl, fun W hS => detR_value (w' := W) ?_ (Below.refl _ _)⟩; obtain ⟨⟨hH, r1⟩, r4⟩ := hS; obtain ⟨x0, x1, x2, _⟩ := hH.1; go_simp; first | done | with_reducible rfl) | fail
    simp only [Act.put, List.setIfInBounds_toArray, List.set_cons_zero, List.set_cons_succ]
    refine takeW (i := 7) (v := ?_) (Stable.and (Stable.and (Stable.held _ _) (stable_tps 0 80 (.slice as1 xs0.length cs1) xs0)) (stable_tup 0 80 js true (.tuple #[u4, .bool true]))) rfl (by kernel_rfl) (by kernel_rfl) (by kernel_rfl) (fun _ _ _ h => h) ?_ ?_
    rotate_left
    · first | (refine Or.inl ⟨by rfl, fun W hS => detR_value (w' := W) ?_ (Below.refl _ _)⟩; obtain ⟨⟨hH, r1⟩, r4⟩ := hS; obtain ⟨x0, x1, x2, _⟩ := hH.1; go_simp; first | done | with_reducible rfl) | fail
    simp only [Act.put, List.setIfInBounds_toArray, List.set_cons_zero, List.set_cons_succ]
    refine takeW (i := 8) (v := ?_) (Stable.and (Stable.and (Stable.held _ _) (stable_tps 0 80 (.slice as1 xs0.length cs1) xs0)) (stable_tup 0 80 js true (.tuple #[u4, .bool true]))) rfl (by kernel_rfl) (by kernel_rfl) (by kernel_rfl) (fun _ _ _ h => h) ?_ ?_
    rotate_left
    · first | (refine Or.inl ⟨by rfl, fun W hS => detR_value (w' := W) ?_ (Below.refl _ _)⟩; obtain ⟨⟨hH, r1⟩, r4⟩ := hS; obtain ⟨x0, x1, x2, _⟩ := hH.1; go_simp; first | done | with_reducible rfl) | fail
    simp only [Act.put, List.setIfInBounds_toArray, List.set_cons_zero, List.set_cons_succ]
    refine takeW (i := 9) (v := ?_) (Stable.and (Stable.and (Stable.held _ _) (stable_tps 0 80 (.slice as1 xs0.length cs1) xs0)) (stable_tup 0 80 js true (.tuple #[u4, .bool true]))) rfl (by kernel_rfl) (by kernel_rfl) (by kernel_rfl) (fun _ _ _ h => h) ?_ ?_
    rotate_left
    · first | (refine Or.inl ⟨by rfl, fun W hS => detR_value (w' := W) ?_ (Below.refl _ _)⟩; obtain ⟨⟨hH, r1⟩, r4⟩ := hS; obtain ⟨x0, x1, x2, _⟩ := hH.1; go_simp; first | done | with_reducible rfl) | fail
    simp only [Act.put, List.setIfInBounds_toArray, List.set_cons_zero, List.set_cons_succ]
    refine doneW (by kernel_rfl) fun wH3 HG => ?_
    obtain ⟨⟨hH, r1⟩, r4⟩ := HG
    have H3 := Lib.hid hH; clear hH
    have MH3_o1 := Lib.hid r1; clear r1
    have MH3_o4 := Lib.hid r4; clear r4
    try clear x0 x1 x2
    skip
    obtain ⟨vw, e5, hi⟩ := MH3_o4.out
    injection e5 with e5
    injection e5 with e5
    injection e5 with e5 _
    replace e5 := e5.symm
    subst e5
    have KW := Lib.hid (fun k e => (hi.own k e).2)
    have IW3 := Lib.hid hi; clear hi MH3_o1 MH3_o4
    obtain ⟨x0, x1, x2, _⟩ := H3.out.1
    go_wp2_with fail
    refine (HT2.out _ (HQ.out.step H3.out.below)).mono ?_
    rintro e w5 ⟨vt, rfl, hm, hb⟩
    have H5 := Lib.hid (H3.out.step hb)
    have IW5 := Lib.hid (IW3.out.step hb)
    have KT := Lib.hid (fun k e => (hm.own k e).2)
    have hs5 := hb.size
    have T5 := Lib.hid hm; clear hm hb
    have hlo := H3.out.2.1.1
    clear x0 x1 x2
    obtain ⟨x0, x1, x2, _⟩ := H5.out.1
    go_wp2_with fail
    refine (HT0.out _).mono ?_
    rintro e w5b ⟨rfl, hb⟩
    have H5b := Lib.hid (H5.out.step hb)
    have IW5b := Lib.hid (IW5.out.step hb)
    have T5b := Lib.hid (T5.out.step hb)
    have hs5b := hb.size
    clear hb x0 x1 x2
    go_wp2_with fail
    refine (HII.out w5.heap.size _ _ T5b.out.trs hs5b).mono ?_
    rintro e w6 ⟨_, rfl, ⟨vg, rfl, hg⟩, hb⟩
    have H6 := Lib.hid (H5b.out.step hb)
    have IW6 := Lib.hid (IW5b.out.step hb)
    have T6 := Lib.hid (T5b.out.step hb)
    clear hb
    have IG6 := Lib.hid hg
    clear hg
    obtain ⟨x0, x1, x2, _⟩ := H6.out.1
    go_wp2_with fail
    refine (HEJ.out _ _ _ IG6.out.trs IW6.out.trs).mono ?_
    rintro e w9 ⟨rfl, hb⟩
    have H9 := Lib.hid (H6.out.step hb)
    have IW9 := Lib.hid (IW6.out.step hb)
    have T9 := Lib.hid (T6.out.step hb)
    have IG9 := Lib.hid (IG6.out.step hb)
    clear hb x0 x1 x2
    obtain ⟨x0, x1, x2, _⟩ := H9.out.1
    go_wp2_with fail
    refine (HT2.out _ (HQ.out.step H9.out.below)).mono ?_
    rintro e w10 ⟨vz, rfl, hm, hb⟩
    have Z10 := Lib.hid hm; clear hm
    have H10 := Lib.hid (H9.out.step hb)
    have IW10 := Lib.hid (IW9.out.step hb)
    have T10 := Lib.hid (T9.out.step hb)
    have IG10 := Lib.hid (IG9.out.step hb)
    clear hb x0 x1 x2
    go_wp2_with fail
    refine (HEQ2.out _ _ _ T10.out.trs Z10.out.trs).mono ?_
    rintro e w12 ⟨rfl, hb⟩
    have H12 := Lib.hid (H10.out.step hb)
    have IW12 := Lib.hid (IW10.out.step hb)
    have T12 := Lib.hid (T10.out.step hb)
    have IG12 := Lib.hid (IG10.out.step hb)
    clear hb Z10
    have HMK := Lib.hid (fun W (h : Tps W wH3.heap.size 80 vt xs0) => markDepositS_one h (by omega))
    obtain ⟨z2, hz2, hz20⟩ : ∃ z : Int, ((1 + 3 * xs0.length : Nat) : Int) = z ∧ 0 ≤ z := ⟨_, rfl, by omega⟩
    rw [hz2] at HMK
    clear hz2
    have hs3 := H3.out.below.size
    go_wp2_with fail
    refine (HMK.out _ T12.out).mono ?_
    rintro e w13 ⟨rfl, -, hgr⟩
    have ht := Turn.of_grown (Lo := wH3.heap.size) (Hi := w5.heap.size) hgr (fun g e => ⟨(T12.out.own g e).1, KT.out g e⟩)
    have H13 := Lib.hid (H12.out.turn ht ⟨.inl hlo, .inl hlo, .inl hlo, trivial⟩ hs3)
    have IG13 := Lib.hid (IG12.out.turn ht fun k e => .inr (IG12.out.own k e).1)
    have IW13 := Lib.hid (IW12.out.turn ht fun k e => .inl (KW.out k e))
    clear hgr ht HMK
    go_wp2_with fail
    any_goals (first | (exfalso; omega) | skip)
    refine (HEJ.out _ _ _ IG13.out.trs IW13.out.trs).mono ?_
    rintro e w14 ⟨rfl, hb⟩
    have H14 := Lib.hid (H13.out.step hb)
    have IW14 := Lib.hid (IW13.out.step hb)
    have IG14 := Lib.hid (IG13.out.step hb)
    clear hb
    have hs13 := H13.out.below.size
    go_wp2_with fail
    refine (markDepositS_one IG14.out (by omega)).mono ?_
    rintro e w15 ⟨rfl, hmk, hgr⟩
    have ht := Turn.of_grown (Lo := w5.heap.size) (Hi := w14.heap.size) hgr (fun g e => IG14.out.own g e)
    have H15 := Lib.hid (H14.out.turn ht ⟨.inl (by omega), .inl (by omega), .inl (by omega), trivial⟩ (by omega))
    have IG15 := Lib.hid hmk
    have IW15 := Lib.hid (IW14.out.turn ht fun k e => .inl (by have := KW.out k e; omega))
    clear hmk hgr ht
    obtain ⟨z3, hz3, hz30⟩ : ∃ z : Int, ((1 + 3 * js.length : Nat) : Int) = z ∧ 0 ≤ z := ⟨_, rfl, by omega⟩
    have HHE := Lib.hid (fun W (h : Tps W w5.heap.size 80 vg (marksT 1 js.length)) => (show Calls Try.prog 54 #[vg, .int .i64 1] W (fun e w' => e = .returned (.int .i64 z3) ∧ ∃ m, w' = W.drewN m) by
      rw [← hz3]; exact heldDepositS_one js.length h (by omega)))
    rw [hz3]; clear hz3
    go_wp2_with fail
    refine (HHE.out _ IG15.out).mono ?_
    rintro e w16' ⟨rfl, n16, rfl⟩
    have hb := below_drewN (Below.refl w15.heap.size w15) n16
    have H16 := Lib.hid (H15.out.step hb)
    have IG16 := Lib.hid (IG15.out.step hb)
    have IW16 := Lib.hid (IW15.out.step hb)
    clear hb
    obtain ⟨x0, x1, x2, _⟩ := H16.out.1
    go_wp2_with fail
    refine regionW (fun W => (Held _ W [(w.heap.size, 0, .int .i64 (a1_Place)), (w.heap.size, 1, .int .i64 (a1_Crate)), (w.heap.size, 2, .int .i64 (a1_Day))]) ∧ Two3 0 w5.heap.size 80 vw vg js (marksT 1 js.length) W) (by kernel_rfl) ⟨H16.out.drew, ⟨IW16.out.step ((Below.refl _ _).drew), IG16.out.step ((Below.refl _ _).drew)⟩⟩ ?_
    refine takeW (i := 0) (v := ?_) (Stable.and (Stable.held _ _) (stable_two3 0 w5.heap.size 80 vw vg js (marksT 1 js.length))) rfl (by kernel_rfl) (by kernel_rfl) (by kernel_rfl) (fun _ _ _ h => h) ?_ ?_
    rotate_left
    · first | (refine Or.inl ⟨by rfl, fun W hS => detR_value (w' := W) ?_ (Below.refl _ _)⟩; obtain ⟨hH, q1⟩ := hS; obtain ⟨x0, x1, x2, _⟩ := hH.1; go_simp; first | done | with_reducible rfl) | fail
    simp only [Act.put, List.setIfInBounds_toArray, List.set_cons_zero, List.set_cons_succ]
    refine takeW (i := 2) (v := ?_) (Stable.and (Stable.held _ _) (stable_two3 0 w5.heap.size 80 vw vg js (marksT 1 js.length))) rfl (by kernel_rfl) (by kernel_rfl) (by kernel_rfl) (fun _ _ _ h => h) ?_ ?_
    rotate_left
    · first | (refine Or.inl ⟨by rfl, fun W hS => detR_value (w' := W) ?_ (Below.refl _ _)⟩; obtain ⟨hH, q1⟩ := hS; obtain ⟨x0, x1, x2, _⟩ := hH.1; go_simp; first | done | with_reducible rfl) | fail
    simp only [Act.put, List.setIfInBounds_toArray, List.set_cons_zero, List.set_cons_succ]
    refine freeX (i := 1) (fun v W => Tps W 0 80 v xs0) (Stable.and (Stable.held _ _) (stable_two3 0 w5.heap.size 80 vw vg js (marksT 1 js.length))) (fun v => stable_tps 0 80 v xs0) rfl (by kernel_rfl) (by rfl) (fun W hS => ?_) (fun v hex => ?_)
    · obtain ⟨hH, q1⟩ := hS; obtain ⟨x0, x1, x2, _⟩ := hH.1; refine freeR_call (w' := W) (f := ?_) (args := ?_) ?_ ?_; rotate_left 2; (go_simp; (refine ⟨?_, ?_⟩ <;> with_reducible rfl)); exact HTT.out _ (HQ.out.step hH.below)
    obtain ⟨WX, hex⟩ := hex
    obtain ⟨as1, cs1, rfl, -⟩ := hex.form
    try clear hex
    try clear WX
    simp only [Act.put, List.setIfInBounds_toArray, List.set_cons_zero, List.set_cons_succ]
    refine takeW (i := 3) (v := ?_) (Stable.and (Stable.and (Stable.held _ _) (stable_two3 0 w5.heap.size 80 vw vg js (marksT 1 js.length))) (stable_tps 0 80 (.slice as1 xs0.length cs1) xs0)) rfl (by kernel_rfl) (by kernel_rfl) (by kernel_rfl) (fun _ _ _ h => h) ?_ ?_
    rotate_left
    · first | (refine Or.inl ⟨by rfl, fun W hS => ?_⟩; obtain ⟨⟨hH, q1⟩, r1⟩ := hS; refine detR_call (w' := W) (f := ?_) (args := ?_) ?_ ?_; rotate_left 2; (go_simp; (refine ⟨?_, ?_⟩ <;> with_reducible rfl)); (first | (with_reducible refine (HT0.out _).mono ?_) | fail); (first | (rintro e wn ⟨rfl, hb⟩; refine ⟨?_, hb⟩; with_reducible rfl) | (rintro e wn ⟨rfl, rfl⟩; refine ⟨?_, Below.refl _ _⟩; with_reducible rfl) | fail)) | fail
    simp only [Act.put, List.setIfInBounds_toArray, List.set_cons_zero, List.set_cons_succ]
    refine freeX (i := 4) (fun v W => TupT 0 80 js true v W) (Stable.and (Stable.and (Stable.held _ _) (stable_two3 0 w5.heap.size 80 vw vg js (marksT 1 js.length))) (stable_tps 0 80 (.slice as1 xs0.length cs1) xs0)) (fun v => stable_tup 0 80 js true v) rfl (by kernel_rfl) (by rfl) (fun W hS => ?_) (fun v hex => ?_)
    · obtain ⟨⟨hH, q1⟩, r1⟩ := hS; obtain ⟨x0, x1, x2, _⟩ := hH.1; refine freeR_call (w' := W) (f := ?_) (args := ?_) ?_ ?_; rotate_left 2; (go_simp; (refine ⟨?_, ?_⟩ <;> with_reducible rfl)); exact HII.out _ _ _ r1.trs (Nat.zero_le _)
    obtain ⟨WX, hex⟩ := hex
    obtain ⟨u4, rfl, -⟩ := hex
    try clear hex
    try clear WX
    simp only [Act.put, List.setIfInBounds_toArray, List.set_cons_zero, List.set_cons_succ]
    refine takeW (i := 5) (v := ?_) (Stable.and (Stable.and (Stable.and (Stable.held _ _) (stable_two3 0 w5.heap.size 80 vw vg js (marksT 1 js.length))) (stable_tps 0 80 (.slice as1 xs0.length cs1) xs0)) (stable_tup 0 80 js true (.tuple #[u4, .bool true]))) rfl (by kernel_rfl) (by kernel_rfl) (by kernel_rfl) (fun _ _ _ h => h) ?_ ?_
    rotate_left
    · first | (refine Or.inl ⟨by rfl, fun W hS => detR_value (w' := W) ?_ (Below.refl _ _)⟩; obtain ⟨⟨⟨hH, q1⟩, r1⟩, r4⟩ := hS; obtain ⟨x0, x1, x2, _⟩ := hH.1; go_simp; first | done | with_reducible rfl) | fail
    simp only [Act.put, List.setIfInBounds_toArray, List.set_cons_zero, List.set_cons_succ]
    refine takeW (i := 6) (v := ?_) (Stable.and (Stable.and (Stable.and (Stable.held _ _) (stable_two3 0 w5.heap.size 80 vw vg js (marksT 1 js.length))) (stable_tps 0 80 (.slice as1 xs0.length cs1) xs0)) (stable_tup 0 80 js true (.tuple #[u4, .bool true]))) rfl (by kernel_rfl) (by kernel_rfl) (by kernel_rfl) (fun _ _ _ h => h) ?_ ?_
    rotate_left
    · first | (refine Or.inl ⟨by rfl, fun W hS => detR_value (w' := W) ?_ (Below.refl _ _)⟩; obtain ⟨⟨⟨hH, q1⟩, r1⟩, r4⟩ := hS; obtain ⟨x0, x1, x2, _⟩ := hH.1; go_simp; first | done | with_reducible rfl) | fail
    simp only [Act.put, List.setIfInBounds_toArray, List.set_cons_zero, List.set_cons_succ]
    refine takeW (i := 7) (v := ?_) (Stable.and (Stable.and (Stable.and (Stable.held _ _) (stable_two3 0 w5.heap.size 80 vw vg js (marksT 1 js.length))) (stable_tps 0 80 (.slice as1 xs0.length cs1) xs0)) (stable_tup 0 80 js true (.tuple #[u4, .bool true]))) rfl (by kernel_rfl) (by kernel_rfl) (by kernel_rfl) (fun _ _ _ h => h) ?_ ?_
    rotate_left
    · first | (refine Or.inl ⟨by rfl, fun W hS => detR_value (w' := W) ?_ (Below.refl _ _)⟩; obtain ⟨⟨⟨hH, q1⟩, r1⟩, r4⟩ := hS; obtain ⟨x0, x1, x2, _⟩ := hH.1; go_simp; first | done | with_reducible rfl) | fail
    simp only [Act.put, List.setIfInBounds_toArray, List.set_cons_zero, List.set_cons_succ]
    refine takeW (i := 8) (v := ?_) (Stable.and (Stable.and (Stable.and (Stable.held _ _) (stable_two3 0 w5.heap.size 80 vw vg js (marksT 1 js.length))) (stable_tps 0 80 (.slice as1 xs0.length cs1) xs0)) (stable_tup 0 80 js true (.tuple #[u4, .bool true]))) rfl (by kernel_rfl) (by kernel_rfl) (by kernel_rfl) (fun _ _ _ h => h) ?_ ?_
    rotate_left
    · first | (refine Or.inl ⟨by rfl, fun W hS => detR_value (w' := W) ?_ (Below.refl _ _)⟩; obtain ⟨⟨⟨hH, q1⟩, r1⟩, r4⟩ := hS; obtain ⟨x0, x1, x2, _⟩ := hH.1; go_simp; first | done | with_reducible rfl) | fail
    simp only [Act.put, List.setIfInBounds_toArray, List.set_cons_zero, List.set_cons_succ]
    refine takeW (i := 9) (v := ?_) (Stable.and (Stable.and (Stable.and (Stable.held _ _) (stable_two3 0 w5.heap.size 80 vw vg js (marksT 1 js.length))) (stable_tps 0 80 (.slice as1 xs0.length cs1) xs0)) (stable_tup 0 80 js true (.tuple #[u4, .bool true]))) rfl (by kernel_rfl) (by kernel_rfl) (by kernel_rfl) (fun _ _ _ h => h) ?_ ?_
    rotate_left
    · first | (refine Or.inl ⟨by rfl, fun W hS => detR_value (w' := W) ?_ (Below.refl _ _)⟩; obtain ⟨⟨⟨hH, q1⟩, r1⟩, r4⟩ := hS; obtain ⟨x0, x1, x2, _⟩ := hH.1; go_simp; first | done | with_reducible rfl) | fail
    simp only [Act.put, List.setIfInBounds_toArray, List.set_cons_zero, List.set_cons_succ]
    refine doneW (by kernel_rfl) fun wH19 HG => ?_
    obtain ⟨⟨⟨hH, q1⟩, r1⟩, r4⟩ := HG
    have H19 := Lib.hid hH; clear hH
    have MH19_q1 := Lib.hid q1; clear q1
    have MH19_o1 := Lib.hid r1; clear r1
    have MH19_o4 := Lib.hid r4; clear r4
    try clear x0 x1 x2
    skip
    obtain ⟨vh, e5, hh⟩ := MH19_o4.out
    injection e5 with e5
    injection e5 with e5
    injection e5 with e5 _
    replace e5 := e5.symm
    subst e5
    have IH19 := Lib.hid hh
    have IW19 := Lib.hid MH19_q1.out.1
    have IG19 := Lib.hid MH19_q1.out.2
    clear hh MH19_o4 MH19_o1 MH19_q1
    go_wp2_with fail
    refine (HEJ.out _ _ _ IH19.out.trs IW19.out.trs).mono ?_
    rintro e w20 ⟨rfl, hb⟩
    have H20 := Lib.hid (H19.out.step hb)
    have IG20 := Lib.hid (IG19.out.step hb); clear hb
    go_wp2_with fail
    refine (HHE.out _ IG20.out).mono ?_
    rintro e w21' ⟨rfl, n21, rfl⟩
    go_wp2_with fail
    go_ret
    exact ⟨rfl, (H20.out.step (below_drewN (Below.refl _ _) n21)).below⟩

set_option maxRecDepth 100000 in
theorem lifted (os : Os) (started : os.Started) (H : Type) (enc : TypeId × Value → H) :
    ReturnsInHanded {} Try.checked os 10 .any (Rows.fnExactAddDepositSpec.pre6 enc Try.prog Try.f10 Rows.fnExactAddDepositRow.domain false) (Rows.fnExactAddDepositSpec.post enc Try.prog Try.f10 false true false false) := by
  refine returnsInHanded_of_change (C := Try.checked) own started (by kernel_rfl) Try.func10
    (ChangeSpec.witness6 (enc := enc) (C := Try.checked) false ⟨#[], #[.slice none 0 0, .agg #[.int .i64 0, .int .i64 0, .int .i64 0]], []⟩ 8 (by kernel_rfl) (by kernel_rfl) (by kernel_rfl) (by kernel_rfl)) ?_
  intro W base args ds gs before hval0 hW hcnd _
  have hval : ∀ (j : Nat) t v, Try.f10.params[j]? = some t → args[j]? = some v → Value.okWide Try.prog W .any base t v := hval0
  have hW' := hW
  obtain ⟨p, q, hA0, hV, rfl, hfz, hnd⟩ := hW
  have hA : DataW.TrodAll enc Try.prog W 0 (fun _ => true) true Try.f10.params.toList args.toList ds p := hA0
  rw [Try.params10] at hA hval
  obtain ⟨v0, vs0, d0, ds0, p0, q0, hargs, rfl, rfl, h0, r0⟩ := trodAll_cons hA
  obtain ⟨v1, vs1, d1, ds1, p1, q1, rfl, rfl, rfl, h1, r1⟩ := trodAll_cons r0
  obtain ⟨rfl, rfl, rfl⟩ := trodAll_nil r1
  obtain rfl : args = #[v0, v1] := by cases args; simp_all
  obtain ⟨rfl, rfl⟩ := trodVars_none hV
  have k0 := h0
  have lt0 : ∀ x ∈ p0, x.block < W.heap.size := by obtain ⟨m, hm⟩ := k0; exact DataW.trod_lt m _ _ _ hm
  have k1 := h1
  have lt1 : ∀ x ∈ p1, x.block < W.heap.size := by obtain ⟨m, hm⟩ := k1; exact DataW.trod_lt m _ _ _ hm
  obtain ⟨A0, len0, cap0, rfl⟩ := Go.WideShapes.okWide_slice Try.underlying69 (hval 0 69 v0 rfl rfl)
  obtain ⟨fuel0, hf0⟩ := h0
  obtain ⟨a0, xs0, e0, w0⟩ := trs_open Try.underlying69 Try.underlying77 (by kernel_rfl) (by kernel_rfl) Try.underlying3 Try.underlying3 Try.underlying3 hf0
  simp [Value.cells] at e0
  subst e0
  obtain ⟨c10, c11, c12, y10, y11, y12, m1, rfl, rfl, rfl, g10, g11, g12⟩ := open_agg3 Try.underlying77 (by kernel_rfl) (by kernel_rfl) (hval 1 77 v1 rfl rfl) h1
  obtain ⟨a1_Place, e10, rfl, w1_Place⟩ := DataW.trod_int Try.underlying3 g10
  obtain rfl : c10 = .int .i64 a1_Place := by simpa using e10
  obtain ⟨a1_Crate, e11, rfl, w1_Crate⟩ := DataW.trod_int Try.underlying3 g11
  obtain rfl : c11 = .int .i64 a1_Crate := by simpa using e11
  obtain ⟨a1_Day, e12, rfl, w1_Day⟩ := DataW.trod_int Try.underlying3 g12
  obtain rfl : c12 = .int .i64 a1_Day := by simpa using e12
  clear hA0 hval0
  refine (walk W _ xs0 w0 a1_Place w1_Place a1_Crate w1_Crate a1_Day w1_Day).mono fun e W' ⟨he, bel⟩ => ?_
  subst he
  exact ⟨_, rfl, _, _, _, [], _, [], hW', trodAll_mk1 (shut_bool Try.underlying4 _), trodAll_cons_mk (Below.trod laidOut (by kernel_rfl) (of_decide_eq_true (by kernel_rfl)) k0 bel lt0) (trodAll_cons_mk (Below.trod laidOut (by kernel_rfl) (of_decide_eq_true (by kernel_rfl)) k1 bel lt1) (trodAll_mk0)), rfl, bel.frame _, fun h => by cases h⟩

theorem over : Rows.fnExactAddDepositRow.holds Try.pinned (OpenSpec.ofChange Rows.fnExactAddDepositSpec) :=
  OpenClaim.holds_of_wide 10 Try.f10 rfl rfl rfl rfl rfl rfl rfl ⟨rfl, rfl, rfl, rfl, rfl⟩ rfl rfl rfl rfl rfl (by kernel_rfl) Try.func10 (by kernel_rfl)
    (of_decide_eq_true (by kernel_rfl)) (by unfold Func.isWrapper; first | (rw [if_pos (by decide +kernel)]; kernel_rfl) | (rw [if_neg (by decide +kernel)]; exact ⟨rfl, rfl⟩))
    (fun os started H enc _ => lifted os started H enc)

/-- THE STATEMENT. -/
theorem proved : Rows.FnExactAddDepositSaid := over
#print axioms proved
end Go.Proofs.Ytfckgidilbjokac.fnExactAddDeposit
