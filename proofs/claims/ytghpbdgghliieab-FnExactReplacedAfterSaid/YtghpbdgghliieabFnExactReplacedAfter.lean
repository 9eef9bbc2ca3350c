/-
  The program's ReplacedAfter returns, for all arguments, the ints that the model's ReplacedAfter returns, in memory of its own, and leaves the list as it is: the law FnExactReplacedAfter answers true. No condition.
-/
import Derived.Test.YtghpbdgghliieabRows
import Derived.Test.YtghpbdgghliieabMarkB
import Derived.Test.YtghpbdgghliieabRep
import Derived.WalkKit
import Derived.ProofKit
import Derived.OpenShut
import Derived.ShutString
import Derived.ChangeOld
import Derived.Below
import Derived.Carry
import Derived.Lib.SmallJoins
namespace Go.Proofs.Ytghpbdgghliieab.fnExactReplacedAfter
open Go.ChangeShapes Go.WideShapes Go.ChangeAt Go.RowKit Go.Joins
open Go.ChangeMaps (open_string shut_string)
set_option linter.unusedVariables false
set_option linter.unusedSimpArgs false

theorem own : ownKnob Try.prog.godebug = none := by kernel_rfl
theorem laidOut : laidOutB Try.prog = true := by kernel_rfl
set_option maxRecDepth 100000
theorem walk (w : World) (a0 : Value) (xs0 : List Int) (w0 : Seq w a0 xs0) (a1 : Int) (w1 : (Lit.int .i64 a1).wf = true) :
    Calls Try.prog 9 #[a0, .int .i64 a1] w fun e w' => e = .returned (.bool true) ∧ Below w.heap.size w w' := by
  clear w1
  have H0 := Lib.hid (Held.none_ w)
  have HP := Lib.hid w0
  obtain ⟨A, c, rfl⟩ := seq_form2 w0
  clear w0
  go_enter Try.func9, Try.ntmps9
  by_cases hbig : 1048576 < xs0.length
  · go_wp2_with fail
    go_ret
    exact ⟨rfl, Below.refl _ _⟩
  have hlen0 : xs0.length ≤ 1048576 := by omega
  have HT := Lib.hid (fun w h => toIntS_any xs0 (.slice A xs0.length c) w h hlen0)
  unfold IntsNew at HT
  have HEQ := Lib.hid (fun v u w hv hu => eqIntS_seq (w := w) (v1 := v) (v2 := u) (fs := xs0) hv hu)
  have HS := Lib.hid (fun v w h => specRep xs0 v a1 w h hlen0)
  have HI := Lib.hid (fun v w h => implRep xs0 v a1 w h hlen0)
  have HJ : (selL xs0 a1 xs0.length).length ≤ 1048576 := (Nat.le_trans (selL_len _ _ _) hlen0)
  generalize selL xs0 a1 xs0.length = js at *
  unfold IntsNew at HS HI
  go_wp2_with fail
  refine (HT.out _ (HP.out.step H0.out.below)).mono ?_
  rintro e w1_ ⟨v1, rfl, hm, hb⟩
  have H1 := Lib.hid (H0.out.step hb)
  have X1 := Lib.hid hm; clear hm hb
  go_wp2_with fail
  refine (HS.out _ _ X1.out.seq).mono ?_
  rintro e w2_ ⟨vw, rfl, hm, hb⟩
  have H2 := Lib.hid (H1.out.step hb)
  have W2 := Lib.hid hm; clear hm hb
  go_wp2_with fail
  refine (HT.out _ (HP.out.step H2.out.below)).mono ?_
  rintro e w3_ ⟨vx, rfl, hm, hb⟩
  have H3 := Lib.hid (H2.out.step hb)
  have W3 := Lib.hid (W2.out.step hb)
  have hbX := Lib.hid hb.size
  have X3 := Lib.hid hm; clear hm hb
  have hX := Lib.hid (fun k e => (X3.out.own k e).1)
  have hX2 := Lib.hid (fun k e => (X3.out.own k e).2)
  have kX := Lib.hid (fun k e => (W2.out.own k e).2)
  go_wp2_with fail
  refine (HI.out _ _ X3.out.seq).mono ?_
  rintro e w4_ ⟨vg, rfl, hm, hb⟩
  have H4 := Lib.hid (H3.out.step hb)
  have W4 := Lib.hid (W3.out.step hb)
  have X4 := Lib.hid (X3.out.step hb)
  have G4 := Lib.hid hm; clear hm
  have SIZES := Lib.hid (show w2_.heap.size ≤ w3_.heap.size ∧ w3_.heap.size ≤ w4_.heap.size from ⟨hbX.out, hb.size⟩); clear hb
  go_wp2_with fail
  refine (eqIntS_yes G4.out W4.out).mono ?_
  rintro e wq5 ⟨rfl, n5, rfl⟩
  have hb := below_drewN (Below.refl (w4_).heap.size (w4_)) n5
  have H5 := Lib.hid (H4.out.step hb)
  have W5 := Lib.hid (W4.out.step hb)
  have X5 := Lib.hid (X4.out.step hb)
  have G5 := Lib.hid (G4.out.step hb)
  clear hb
  go_wp2_with fail
  refine (HT.out _ (HP.out.step H5.out.below)).mono ?_
  rintro e w6_ ⟨vy, rfl, hm, hb⟩
  have H6 := Lib.hid (H5.out.step hb)
  have W6 := Lib.hid (W5.out.step hb)
  have X6 := Lib.hid (X5.out.step hb)
  have G6 := Lib.hid (G5.out.step hb)
  have Y6 := Lib.hid hm
  clear hm hb
  go_wp2_with fail
  refine (HEQ.out _ _ _ X6.out.seq Y6.out.seq).mono ?_
  rintro e wq7 ⟨rfl, n7, rfl⟩
  have hb := below_drewN (Below.refl (w6_).heap.size (w6_)) n7
  have H7 := Lib.hid (H6.out.step hb)
  have W7 := Lib.hid (W6.out.step hb)
  have X7 := Lib.hid (X6.out.step hb)
  have G7 := Lib.hid (G6.out.step hb)
  clear hb
  go_wp2_with fail
  refine (markIntS_b X7.out hlen0).mono ?_
  rintro e w8_ ⟨rfl, hmk, hgr⟩
  have ht := Turn.of_grown (Lo := w2_.heap.size) (Hi := w3_.heap.size) hgr (fun g e => ⟨hX.out g e, hX2.out g e⟩)
  have H8 := Lib.hid (H7.out.turn ht trivial (H2.out.below.size))
  have W8 := Lib.hid (W7.out.turn ht fun k e => .inl (kX.out k e))
  have G8 := Lib.hid (G7.out.turn ht fun k e => .inr (by have := (G7.out.own k e).1; omega))
  clear hmk hgr ht
  have hz : ¬ (((1 + xs0.length : Nat) : Int) < 0) := by omega
  generalize ((1 + xs0.length : Nat) : Int) = kz at *
  go_wp2_with fail
  refine (eqIntS_yes G8.out W8.out).mono ?_
  rintro e wq9 ⟨rfl, n9, rfl⟩
  have hb := below_drewN (Below.refl (w8_).heap.size (w8_)) n9
  have H9 := Lib.hid (H8.out.step hb)
  have W9 := Lib.hid (W8.out.step hb)
  have G9 := Lib.hid (G8.out.step hb)
  clear hb
  go_wp2_with fail
  refine (markIntS_b G9.out HJ).mono ?_
  rintro e w10_ ⟨rfl, hmk, hgr⟩
  have ht := Turn.of_grown (Lo := w3_.heap.size) (Hi := ((w8_).drewN n9).heap.size) hgr (fun g e => G9.out.own g e)
  have H10 := Lib.hid (H9.out.turn ht trivial (H3.out.below.size))
  have G10 := Lib.hid hmk
  have W10 := Lib.hid (W9.out.turn ht fun k e => .inl (by have := kX.out k e; have := SIZES.out; omega))
  clear hmk hgr ht
  obtain ⟨z2, hz2, hz20⟩ : ∃ z : Int, ((1 + js.length : Nat) : Int) = z ∧ 0 ≤ z := ⟨_, rfl, by omega⟩
  have HHE := Lib.hid (fun W (h : Ints W w3_.heap.size vg (marksI 1 js.length)) => (show Calls Try.prog 27 #[vg, .int .i64 1] W (fun e w' => e = .returned (.int .i64 z2) ∧ ∃ m, w' = W.drewN m) by
    rw [← hz2]; exact heldIntS_b js.length h HJ))
  rw [hz2]; clear hz2
  go_wp2_with fail
  refine (HHE.out _ G10.out).mono ?_
  rintro e wq11 ⟨rfl, n11, rfl⟩
  have hb := below_drewN (Below.refl (w10_).heap.size (w10_)) n11
  have H11 := Lib.hid (H10.out.step hb)
  have W11 := Lib.hid (W10.out.step hb)
  have G11 := Lib.hid (G10.out.step hb)
  clear hb
  go_wp2_with fail
  refine (HT.out _ (HP.out.step H11.out.below)).mono ?_
  rintro e w12_ ⟨v2, rfl, hm, hb⟩
  have H12 := Lib.hid (H11.out.step hb)
  have W12 := Lib.hid (W11.out.step hb)
  have G12 := Lib.hid (G11.out.step hb)
  have Z12 := Lib.hid hm
  clear hm hb
  go_wp2_with fail
  refine (HI.out _ _ Z12.out.seq).mono ?_
  rintro e w13_ ⟨vh, rfl, hm, hb⟩
  have H13 := Lib.hid (H12.out.step hb)
  have W13 := Lib.hid (W12.out.step hb)
  have G13 := Lib.hid (G12.out.step hb)
  have R13 := Lib.hid hm
  clear hm hb
  go_wp2_with fail
  refine (eqIntS_yes R13.out W13.out).mono ?_
  rintro e wq14 ⟨rfl, n14, rfl⟩
  have hb := below_drewN (Below.refl (w13_).heap.size (w13_)) n14
  have H14 := Lib.hid (H13.out.step hb)
  have W14 := Lib.hid (W13.out.step hb)
  have G14 := Lib.hid (G13.out.step hb)
  clear hb
  go_wp2_with fail
  refine (HHE.out _ G14.out).mono ?_
  rintro e wq15 ⟨rfl, n15, rfl⟩
  have hb := below_drewN (Below.refl ((w13_).drewN n14).heap.size ((w13_).drewN n14)) n15
  have H15 := Lib.hid (H14.out.step hb)
  have W15 := Lib.hid (W14.out.step hb)
  have G15 := Lib.hid (G14.out.step hb)
  clear hb
  go_wp2_with fail
  go_ret
  exact ⟨rfl, (H13.out.step (below_drewN (Below.refl _ _) (n14 + n15))).below⟩

set_option maxRecDepth 100000 in
theorem lifted (os : Os) (started : os.Started) (H : Type) (enc : TypeId × Value → H) :
    ReturnsInHanded {} Try.checked os 9 .any (Rows.fnExactReplacedAfterSpec.pre6 enc Try.prog Try.f9 Rows.fnExactReplacedAfterRow.domain false) (Rows.fnExactReplacedAfterSpec.post enc Try.prog Try.f9 false true false false) := by
  refine returnsInHanded_of_change (C := Try.checked) own started (by kernel_rfl) Try.func9
    (ChangeSpec.witness6 (enc := enc) (C := Try.checked) false ⟨#[], #[.slice none 0 0, .int .i64 0], []⟩ 8 (by kernel_rfl) (by kernel_rfl) (by kernel_rfl) (by kernel_rfl)) ?_
  intro W base args ds gs before hval0 hW hcnd _
  have hval : ∀ (j : Nat) t v, Try.f9.params[j]? = some t → args[j]? = some v → Value.okWide Try.prog W .any base t v := hval0
  have hW' := hW
  obtain ⟨p, q, hA0, hV, rfl, hfz, hnd⟩ := hW
  have hA : DataW.TrodAll enc Try.prog W 0 (fun _ => true) true Try.f9.params.toList args.toList ds p := hA0
  rw [Try.params9] at hA hval
  obtain ⟨v0, vs0, d0, ds0, p0, q0, hargs, rfl, rfl, h0, r0⟩ := trodAll_cons hA
  obtain ⟨v1, vs1, d1, ds1, p1, q1, rfl, rfl, rfl, h1, r1⟩ := trodAll_cons r0
  obtain ⟨rfl, rfl, rfl⟩ := trodAll_nil r1
  obtain rfl : args = #[v0, v1] := by cases args; simp_all
  obtain ⟨rfl, rfl⟩ := trodVars_none hV
  have k0 := h0
  have lt0 : ∀ x ∈ p0, x.block < W.heap.size := by obtain ⟨m, hm⟩ := k0; exact DataW.trod_lt m _ _ _ hm
  have k1 := h1
  have lt1 : ∀ x ∈ p1, x.block < W.heap.size := by obtain ⟨m, hm⟩ := k1; exact DataW.trod_lt m _ _ _ hm
  obtain ⟨A0, len0, cap0, rfl⟩ := Go.WideShapes.okWide_slice Try.underlying42 (hval 0 42 v0 rfl rfl)
  obtain ⟨fuel0, hf0⟩ := h0
  obtain ⟨a0, xs0, e0, w0⟩ := seq_open Try.underlying42 Try.underlying3 (by kernel_rfl) hf0
  simp [Value.cells] at e0
  subst e0
  obtain ⟨a1, rfl, rfl, rfl, w1⟩ := open_int Try.underlying3 (hval 1 3 v1 rfl rfl) h1
  clear hA0 hval0
  refine (walk W _ xs0 w0 a1 w1).mono fun e W' ⟨he, bel⟩ => ?_
  subst he
  exact ⟨_, rfl, _, _, _, [], _, [], hW', trodAll_mk1 (shut_bool Try.underlying4 _), trodAll_cons_mk (Below.trod laidOut (by kernel_rfl) (of_decide_eq_true (by kernel_rfl)) k0 bel lt0) (trodAll_cons_mk (Below.trod laidOut (by kernel_rfl) (of_decide_eq_true (by kernel_rfl)) k1 bel lt1) (trodAll_mk0)), rfl, bel.frame _, fun h => by cases h⟩

theorem over : Rows.fnExactReplacedAfterRow.holds Try.pinned (OpenSpec.ofChange Rows.fnExactReplacedAfterSpec) :=
  OpenClaim.holds_of_wide 9 Try.f9 rfl rfl rfl rfl rfl rfl rfl ⟨rfl, rfl, rfl, rfl, rfl⟩ rfl rfl rfl rfl rfl (by kernel_rfl) Try.func9 (by kernel_rfl)
    (of_decide_eq_true (by kernel_rfl)) (by unfold Func.isWrapper; first | (rw [if_pos (by decide +kernel)]; kernel_rfl) | (rw [if_neg (by decide +kernel)]; exact ⟨rfl, rfl⟩))
    (fun os started H enc _ => lifted os started H enc)

/-- THE STATEMENT. -/
theorem proved : Rows.FnExactReplacedAfterSaid := over
#print axioms proved
end Go.Proofs.Ytghpbdgghliieab.fnExactReplacedAfter
