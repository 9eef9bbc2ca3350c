/-
  The program's MonthsAbove returns, for all arguments, the ints that the model's MonthsAbove returns, in memory of its own: the law FnExactMonthsAbove answers true. No condition.
-/
import Derived.Test.YtghpbdgghliieaaDoorMarkB
import Derived.Test.YtghpbdgghliieaaDoorYearB
namespace Go.Proofs.YtghpbdgghliieaaDoor.fnExactMonthsAbove
open Go.ChangeShapes Go.WideShapes Go.ChangeAt Go.RowKit
open Go.ChangeMaps (open_string shut_string)
set_option linter.unusedVariables false
set_option linter.unusedSimpArgs false

theorem own : ownKnob Tryd.prog.godebug = none := by kernel_rfl
theorem laidOut : laidOutB Tryd.prog = true := by kernel_rfl
set_option maxRecDepth 100000
theorem walk (a0 : Int) (a1 : Int) (w0 : (Lit.int .i64 a0).wf = true) (w1 : (Lit.int .i64 a1).wf = true) (w : World) (ht : Tab w) :
    Calls Tryd.prog 7 #[.int .i64 a0, .int .i64 a1] w fun e w' => e = .returned (.bool true) ∧ Below w.heap.size w w' := by
  clear w0 w1
  have H0 := Lib.hid (Held.none_ w)
  have HTB := Lib.hid ht; clear ht
  have HS := Lib.hid (fun w => specAbove a0 a1 w)
  have HI := Lib.hid (fun w h => implAbove a0 a1 w h)
  go_enter Tryd.func7, Tryd.ntmps7
  have HJ : (aboveI a0 a1).length ≤ 1048576 := (aboveI_len _ _)
  generalize aboveI a0 a1 = js at *
  unfold IntsNew at HS HI
  go_wp2_with fail
  refine (HS.out _).mono ?_
  rintro e w1_ ⟨vw, rfl, hm, hb⟩
  have H1 := Lib.hid (H0.out.step hb)
  have W1 := Lib.hid hm; clear hm hb
  have kW := Lib.hid (fun k e => (W1.out.own k e).2)
  go_wp2_with fail
  refine (HI.out _ (tab_below HTB.out H1.out.below (tab_lt HTB.out))).mono ?_
  rintro e w2_ ⟨vg, rfl, hm, hb⟩
  have H2 := Lib.hid (H1.out.step hb)
  have W2 := Lib.hid (W1.out.step hb)
  have G2 := Lib.hid hm; clear hm hb
  go_wp2_with fail
  refine (eqIntS_yes G2.out W2.out).mono ?_
  rintro e wq3 ⟨rfl, n3, rfl⟩
  have hb := below_drewN (Below.refl (w2_).heap.size (w2_)) n3
  have H3 := Lib.hid (H2.out.step hb)
  have W3 := Lib.hid (W2.out.step hb)
  have G3 := Lib.hid (G2.out.step hb)
  clear hb
  go_wp2_with fail
  refine (markIntS_b G3.out HJ).mono ?_
  rintro e w4_ ⟨rfl, hmk, hgr⟩
  have ht := Turn.of_grown (Lo := w1_.heap.size) (Hi := ((w2_).drewN n3).heap.size) hgr (fun g e => G3.out.own g e)
  have H4 := Lib.hid (H3.out.turn ht trivial (H1.out.below.size))
  have G4 := Lib.hid hmk
  have W4 := Lib.hid (W3.out.turn ht fun k e => .inl (kW.out k e))
  clear hmk hgr ht
  obtain ⟨z2, hz2, hz20⟩ : ∃ z : Int, ((1 + js.length : Nat) : Int) = z ∧ 0 ≤ z := ⟨_, rfl, by omega⟩
  have HHE := Lib.hid (fun W (h : Ints W w1_.heap.size vg (marksI 1 js.length)) => (show Calls Tryd.prog 20 #[vg, .int .i64 1] W (fun e w' => e = .returned (.int .i64 z2) ∧ ∃ m, w' = W.drewN m) by
    rw [← hz2]; exact heldIntS_b js.length h HJ))
  rw [hz2]; clear hz2
  go_wp2_with fail
  refine (HHE.out _ G4.out).mono ?_
  rintro e wq5 ⟨rfl, n5, rfl⟩
  have hb := below_drewN (Below.refl (w4_).heap.size (w4_)) n5
  have H5 := Lib.hid (H4.out.step hb)
  have W5 := Lib.hid (W4.out.step hb)
  have G5 := Lib.hid (G4.out.step hb)
  clear hb
  go_wp2_with fail
  refine (HI.out _ (tab_below HTB.out H5.out.below (tab_lt HTB.out))).mono ?_
  rintro e w6_ ⟨vh, rfl, hm, hb⟩
  have H6 := Lib.hid (H5.out.step hb)
  have W6 := Lib.hid (W5.out.step hb)
  have G6 := Lib.hid (G5.out.step hb)
  have R6 := Lib.hid hm
  clear hm hb
  go_wp2_with fail
  refine (eqIntS_yes R6.out W6.out).mono ?_
  rintro e wq7 ⟨rfl, n7, rfl⟩
  have hb := below_drewN (Below.refl (w6_).heap.size (w6_)) n7
  have H7 := Lib.hid (H6.out.step hb)
  have W7 := Lib.hid (W6.out.step hb)
  have G7 := Lib.hid (G6.out.step hb)
  clear hb
  go_wp2_with fail
  refine (HHE.out _ G7.out).mono ?_
  rintro e wq8 ⟨rfl, n8, rfl⟩
  have hb := below_drewN (Below.refl ((w6_).drewN n7).heap.size ((w6_).drewN n7)) n8
  have H8 := Lib.hid (H7.out.step hb)
  have W8 := Lib.hid (W7.out.step hb)
  have G8 := Lib.hid (G7.out.step hb)
  clear hb
  go_wp2_with fail
  go_ret
  exact ⟨rfl, (H6.out.step (below_drewN (Below.refl _ _) (n7 + n8))).below⟩

theorem contract (H : Type) (enc : TypeId × Value → H) (W : World) (base : Nat) (args : Array Value) (ds gs : List (DataW H)) (before : List MemPlace)
    (hval0 : ∀ (j : Nat) t v, Tryd.f7.params[j]? = some t → args[j]? = some v → Value.okWide Tryd.prog W .any base t v)
    (hW : DataW.Whole enc Tryd.prog Tryd.f7.params.toList Rows.fnExactMonthsAboveSpec.vars false W args.toList ds gs before) (hL : laidMetH Tryd.prog Rows.fnExactMonthsAboveRow.laid W) :
    Calls Tryd.prog 7 args W fun e W' => ∃ v, e = .returned v ∧ Rows.fnExactMonthsAboveSpec.post enc Tryd.prog Tryd.f7 false true false false W args v W' := by
  have hval : ∀ (j : Nat) t v, Tryd.f7.params[j]? = some t → args[j]? = some v → Value.okWide Tryd.prog W .any base t v := hval0
  have hW' := hW
  obtain ⟨p, q, hA0, hV, rfl, hfz, hnd⟩ := hW
  have hA : DataW.TrodAll enc Tryd.prog W 0 (fun _ => true) true Tryd.f7.params.toList args.toList ds p := hA0
  rw [Tryd.params7] at hA hval
  obtain ⟨v0, vs0, d0, ds0, p0, q0, hargs, rfl, rfl, h0, r0⟩ := trodAll_cons hA
  obtain ⟨v1, vs1, d1, ds1, p1, q1, rfl, rfl, rfl, h1, r1⟩ := trodAll_cons r0
  obtain ⟨rfl, rfl, rfl⟩ := trodAll_nil r1
  obtain rfl : args = #[v0, v1] := by cases args; simp_all
  obtain ⟨g, t, cs, fuel, d, p', rfl, hg, ht, hvar, hd, rfl⟩ := trodVars_one hV
  obtain rfl := Option.some.inj (gDay.symm.trans hg)
  obtain rfl := Option.some.inj (gDayType.symm.trans ht)
  have htab : Tab W := tab_of hL (by rfl)
  obtain rfl : cs = own_cells := Option.some.inj (hvar.symm.trans htab)
  obtain ⟨rfl, rfl⟩ := DataW.Trod.unique (v := .agg own_cells) ⟨fuel, hd⟩ ⟨3, own_reads enc W _⟩
  clear hd hvar
  obtain ⟨a0, rfl, rfl, rfl, w0⟩ := open_int Tryd.underlying3 (hval 0 3 v0 rfl rfl) h0
  obtain ⟨a1, rfl, rfl, rfl, w1⟩ := open_int Tryd.underlying3 (hval 1 3 v1 rfl rfl) h1
  clear hA0 hval0
  simp only [List.append_nil] at hW'
  refine (walk a0 a1 w0 w1 W htab).mono fun e W' ⟨he, hg⟩ => ?_
  subst he
  exact ⟨_, rfl, post_of_below (pa := []) (pv := own_places) hW' (fun _ _ _ => (trodAll_cons_mk (shut_bool Tryd.underlying4 _) trodAll_mk0)) (fun sp _ => (trodAll_cons_mk (shut_int Tryd.underlying3 w0) (trodAll_cons_mk (shut_int Tryd.underlying3 w1) trodAll_mk0))) (fun sp _ => own_vars enc (tab_below htab hg (tab_lt htab)) sp) (by simp [own_places])
    hg (ok_one (by kernel_rfl) rfl (okWide_bool_mk Tryd.underlying4 _))⟩

/-- A world for the witness: the settled one, the listed variables holding what their initialisers lay. -/
noncomputable def laidWorld (os : Os) : World :=
  { World.holding Tryd.prog os ⟨#[], #[], []⟩ with heap := setB ((World.holding Tryd.prog os ⟨#[], #[], []⟩).heap) 0 #[.int .i64 490, .int .i64 580, .int .i64 705, .int .i64 830, .int .i64 935, .int .i64 990, .int .i64 965, .int .i64 875, .int .i64 755, .int .i64 630, .int .i64 520, .int .i64 465] }
theorem laid_met (os : Os) : laidMet Tryd.prog Rows.fnExactMonthsAboveRow.laid ((laidWorld os).forCall (fun _ _ => 0) ⟨#[], #[.int .i64 0, .int .i64 0], []⟩).memory :=
  laidMet_of_run' 8 (by kernel_rfl) (by kernel_rfl)
theorem reads (os : Os) {H : Type} (enc : TypeId × Value → H) : ∃ places, DataW.whole enc Tryd.prog ((laidWorld os).forCall (fun _ _ => 0) ⟨#[], #[.int .i64 0, .int .i64 0], []⟩).memory Tryd.f7.params.toList Rows.fnExactMonthsAboveSpec.vars false (#[.int .i64 0, .int .i64 0] : Array Value).toList 8 = some ([.lit (.int .i64 0), .lit (.int .i64 0)], [Rows.laid_loop_example_g03303_impl_dayLengths], places) :=
  ⟨own_places, by kernel_rfl⟩

set_option maxRecDepth 100000 in
theorem lifted (os : Os) (started : os.Started) (H : Type) (enc : TypeId × Value → H) (F : Stop.Interp) :
    ReturnsInHanded {} Tryd.checked os 7 .any ((OpenSpec.ofChange Rows.fnExactMonthsAboveSpec).preRow enc Tryd.prog Tryd.f7 Rows.fnExactMonthsAboveRow.domain false Rows.fnExactMonthsAboveRow.laid) (((OpenSpec.ofChange Rows.fnExactMonthsAboveSpec).at F).post enc Tryd.prog Tryd.f7 false true false false) := by
  obtain ⟨places, hx⟩ := reads os enc
  refine returnsInHanded_of_row (C := Tryd.checked) (s := OpenSpec.ofChange Rows.fnExactMonthsAboveSpec) own started (by kernel_rfl) Tryd.func7
    (witness_row_at (enc := enc) (C := Tryd.checked) false (laidWorld os) #[.int .i64 0, .int .i64 0] rfl (by kernel_rfl) (by kernel_rfl) (by kernel_rfl)
      (OpenSpec.preRow_of_cond 8 hx (by kernel_rfl) (fun k hk => by cases hk) (by kernel_rfl) (laid_met os))) ?_
  intro W base args ds gs before hval hW _ _ _ hL _ _
  exact contract H enc W base args ds gs before hval hW hL

theorem said : Rows.FnExactMonthsAboveSaid :=
  OpenClaim.holds_of_cond 7 Tryd.f7 rfl rfl rfl rfl rfl rfl rfl ⟨rfl, rfl, rfl, rfl, rfl⟩ rfl rfl rfl rfl rfl (by kernel_rfl) Tryd.func7 (by kernel_rfl)
    (of_decide_eq_true (by kernel_rfl)) (by unfold Func.isWrapper; first | (rw [if_pos (by decide +kernel)]; kernel_rfl) | (rw [if_neg (by decide +kernel)]; exact ⟨rfl, rfl⟩))
    (fun os started H enc _ F => by rw [OpenClaim.pre_eq_preRow]; exact lifted os started H enc F)

theorem plain (f : FuncId) (fn : Func) (hf : Tryd.pinned.checked.prog.funcNamed "loop.example/g03303/laws.FnExactMonthsAbove" = some f) (hfn : Tryd.pinned.checked.prog.funcs[f]? = some fn) :
    false = Tryd.pinned.checked.prog.looks [] ∧ ∀ (j : Nat) t, fn.params[j]? = some t → Tryd.pinned.checked.prog.wantsStandIn t = false := by
  obtain rfl : f = 7 := Option.some.inj ((show Tryd.prog.funcNamed "loop.example/g03303/laws.FnExactMonthsAbove" = some 7 by kernel_rfl).symm.trans hf) |>.symm
  obtain rfl : fn = Tryd.f7 := (Option.some.inj (Tryd.func7.symm.trans hfn)).symm
  refine ⟨by kernel_rfl, fun j t ht => ?_⟩
  rw [Tryd.params7] at ht
  have hm := Array.mem_of_getElem? ht
  simp only [List.mem_toArray, List.mem_cons, List.not_mem_nil, or_false] at hm
  rcases hm with rfl | rfl
  · exact (show Tryd.prog.wantsStandIn 3 = false by kernel_rfl)
  · exact (show Tryd.prog.wantsStandIn 3 = false by kernel_rfl)

/-- THE CARD. -/
theorem card : Rows.FnExactMonthsAboveCardSaid :=
  Claim7.holds_tied_plain_at .later [] _ _ _ _ said (fun _ h => by cases h) (by kernel_rfl) (fun _ h => by cases h) fnExactMonthsAbove_row_tie rfl ⟨rfl, rfl⟩ (by kernel_rfl) rfl plain (by kernel_rfl)
#print axioms card
end Go.Proofs.YtghpbdgghliieaaDoor.fnExactMonthsAbove
