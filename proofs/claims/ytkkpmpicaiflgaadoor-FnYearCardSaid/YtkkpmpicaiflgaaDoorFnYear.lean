/-
  For every slice of bytes the law FnYear answers true: for each month and each weather that it draws, the clear minutes, the best month, the year's sum and the months above go together. The table of the lengths of the days holds what its initialiser lays (the card ties it).
-/
import Derived.Test.YtkkpmpicaiflgaaDoorLawY
namespace Go.Proofs.YtkkpmpicaiflgaaDoor.fnYear
open Go.ChangeShapes Go.WideShapes Go.ChangeAt Go.RowKit
open Go.ChangeMaps (open_string shut_string)
set_option linter.unusedVariables false
set_option linter.unusedSimpArgs false

theorem own : ownKnob Tryd.prog.godebug = none := by kernel_rfl
theorem laidOut : laidOutB Tryd.prog = true := by kernel_rfl
/-- WHAT THE WALK IS TOLD OF A SLICE OF INTEGERS THAT CAME IN: it is nil; or it leads to a row of 'cap' cells, the numbers 'zs' (the first 'len' are its elements, the rest its spare room), each fitting its kind. -/
def IsRow (k : IntKind) (w : World) (a : Option Addr) (len cap : Nat) (zs : List Int) : Prop :=
  (a = none ∧ len = 0 ∧ cap = 0 ∧ zs = []) ∨
  ∃ x, a = some x ∧ len ≤ cap ∧ cap ≤ maxLen ∧ zs.length = cap ∧ (∀ i, i < zs.length → w.cell? (x.add i) = some (.int k (zs.getD i 0))) ∧ ∀ n ∈ zs, (Lit.int k n).wf = true

set_option maxRecDepth 100000
set_option maxHeartbeats 4000000
theorem walk (a0 : Option Addr) (len0 cap0 : Nat) (z0 : List Int) (w : World) (w0 : IsRow .u8 w a0 len0 cap0 z0) (ht : Tab w) :
    Calls Tryd.prog 3 #[.slice a0 len0 cap0] w fun e w' => e = .returned (.bool true) ∧ Below w.heap.size w w' := by
  have HTB := Lib.hid ht; clear ht
  have HY := Lib.hid (bytesAt_of w0); clear w0
  by_cases hbig : 1048576 < len0
  · go_enter Tryd.func3, Tryd.ntmps3
    go_wp2_with fail
    refine (big_yes hbig).mono ?_
    rintro e w' ⟨rfl, rfl⟩
    go_wp2_with fail
    go_ret
    exact ⟨rfl, Below.refl _ _⟩
  · go_enter Tryd.func3, Tryd.ntmps3
    go_wp2_with fail
    refine (big_no (by omega)).mono ?_
    rintro e w' ⟨rfl, rfl⟩
    clear hbig
    have H0 := Lib.hid (Held.none_ w)
    go_wp2_with fail
    refine (atCode (cap := cap0) 0 (by omega) (by omega) HY.out).mono ?_
    rintro e w1 ⟨⟨x, hx, rfl⟩, hb⟩
    have H1 := Lib.hid (H0.out.step hb)
    have HY1 := Lib.hid (HY.out.keep hb.block); clear hb
    obtain ⟨t, ht, htl⟩ : ∃ t : Nat, (x : Int) % 60 = t ∧ t < 60 := ⟨x % 60, by omega, by omega⟩
    have hz0 : (0 : Int) ≤ x := by omega
    go_wp2_with fail
    rw [ht]
    clear ht hx hz0
    refine (atCode (cap := cap0) 1 (by omega) (by omega) HY1.out).mono ?_
    rintro e w2 ⟨⟨x, hx, rfl⟩, hb⟩
    have H2 := Lib.hid (H1.out.step hb); clear hb
    obtain ⟨m, hm, hml⟩ : ∃ m : Nat, (x : Int) % 12 = m ∧ m < 12 := ⟨x % 12, by omega, by omega⟩
    have hz0 : (0 : Int) ≤ x := by omega
    obtain ⟨n, d, n1, b, nb, c1, c0, s, y1, L, E0, E1, E2, E3, E4, E5, E6, E7, E8, E9, E10, E11, E12, E13, g1, g2, g3, g4, g5, g6, g7, g8, g9⟩ := year_ex htl hml
    have P := fun u v w h => implClear u v w h
    have C0 := Lib.hid (fun w h => P m t w h)
    have C1 := Lib.hid (fun w h => implDay m w h)
    have C2 := Lib.hid (fun w h => P m ((t : Int) + 1) w h)
    have C3 := Lib.hid (fun w h => implBest t w h)
    have C4 := Lib.hid (fun w h => P b t w h)
    have C5 := Lib.hid (fun w => implCloud m ((t : Int) + 1) w)
    have C6 := Lib.hid (fun w => implCloud m t w)
    have C7 := Lib.hid (fun k w h => P k t w h)
    have C8 := Lib.hid (fun w h => implYear t w h)
    have C9 := Lib.hid (fun w h => implYear ((t : Int) + 1) w h)
    have C10 := Lib.hid (fun w h => implAbove t n w h)
    have C11 := Lib.hid (fun w h => implAbove t 1000 w h)
    have C12 := Lib.hid (fun w h => implDay 5 w h)
    have C13 := Lib.hid (fun v w h => lawHas L v m w h)
    have C14 := Lib.hid (fun v w h => lawHas L v b w h)
    clear P
    rw [E0] at C0
    rw [E1] at C1
    rw [E2] at C2
    rw [E3] at C3
    rw [E4] at C4
    rw [E5] at C5
    rw [E6] at C6
    rw [E8] at C8
    rw [E9] at C9
    rw [E10] at C10
    rw [E11] at C11
    rw [show dayI 5 = 990 from by decide] at C12
    rw [E12] at C13
    rw [E13] at C14
    unfold IntsNew at C10 C11
    have HS0 := Lib.hid (show ysum t 0 = 0 from rfl)
    have HST := Lib.hid (fun k => (show ysum t (k + 1) = ysum t k + 30 * clearI k t from rfl))
    have HBD := Lib.hid (fun k (h : k ≤ 12) => ysum_bd (t := t) (by rw [inB_iff]; omega) k h)
    have HCD := Lib.hid (fun k (h : k < 12) => clear_nat (m := k) (t := t) h (by rw [inB_iff]; omega))
    have HS12 := Lib.hid E7
    have HNE := Lib.hid g9
    have e1 : IntKind.i64.wrap ((t : Int) + 1) = (t : Int) + 1 := IntWalk.i64_in _ (by omega)
    have hb2 := E3
    clear E0 E1 E2 E3 E4 E5 E6 E7 E8 E9 E10 E11 E12 E13 hb2
    generalize ysum t = Y at *
    go_wp2_with fail
    rw [hm]
    clear hm hx hz0
    refine (C0.out _ (tab_below HTB.out H2.out.below (tab_lt HTB.out))).mono ?_
    rintro e w3 ⟨rfl, hb⟩
    have H3 := Lib.hid (H2.out.step hb); clear hb
    go_wp2_with fail
    refine (C3.out _ (tab_below HTB.out H3.out.below (tab_lt HTB.out))).mono ?_
    rintro e w4 ⟨rfl, hb⟩
    have H4 := Lib.hid (H3.out.step hb); clear hb
    go_wp2_with fail
    refine (C1.out _ (tab_below HTB.out H4.out.below (tab_lt HTB.out))).mono ?_
    rintro e w5 ⟨rfl, hb⟩
    have H5 := Lib.hid (H4.out.step hb); clear hb
    go_wp2_with fail
    refine (C2.out _ (tab_below HTB.out H5.out.below (tab_lt HTB.out))).mono ?_
    rintro e w6 ⟨rfl, hb⟩
    have H6 := Lib.hid (H5.out.step hb); clear hb
    go_wp2_with fail
    refine (C4.out _ (tab_below HTB.out H6.out.below (tab_lt HTB.out))).mono ?_
    rintro e w7 ⟨rfl, hb⟩
    have H7 := Lib.hid (H6.out.step hb); clear hb
    go_wp2_with fail
    refine (C5.out _).mono ?_
    rintro e w8 ⟨rfl, hb⟩
    have H8 := Lib.hid (H7.out.step hb); clear hb
    go_wp2_with fail
    refine (C6.out _).mono ?_
    rintro e w9 ⟨rfl, hb⟩
    have H9 := Lib.hid (H8.out.step hb); clear hb
    go_wp2_with fail
    refine (C6.out _).mono ?_
    rintro e w10 ⟨rfl, hb⟩
    have H10 := Lib.hid (H9.out.step hb); clear hb
    go_wp2_with fail
    have HB := Lib.hid H10.out.below
    clear H0 H1 H2 H3 H4 H5 H6 H7 H8 H9 H10 HY HY1
    go_loopw [7, 8] (fun q k wr => ∃ j : Nat, j ≤ 12 ∧ k = .int .i64 j ∧ q = .int .i64 (Y j) ∧ Below w.heap.size w wr) (fun _ k _ => 12 - (intOf k).toNat)
    case atStart => exact ⟨0, by omega, rfl, by rw [HS0.out], HB.out⟩
    case round =>
      clear HB
      obtain ⟨j, hj, rfl, rfl, hb⟩ := hrel
      have HB := Lib.hid hb; clear hb
      have hsz := HB.out.size
      by_cases hlt : j < 12
      · have HCj := Lib.hid (C7.out (j : Int))
        obtain ⟨q1, q2⟩ := HBD.out j hj
        obtain ⟨q3, q4⟩ := HCD.out j hlt
        have HSj := Lib.hid (HST.out j)
        have hz1 : (j : Int) < 12 := by omega
        generalize Y j = yj at *
        generalize clearI j t = cj at *
        have e2 : IntKind.i64.wrap (30 * cj) = 30 * cj := IntWalk.i64_in _ (by omega)
        have e3 : IntKind.i64.wrap (yj + 30 * cj) = yj + 30 * cj := IntWalk.i64_in _ (by omega)
        have E3_ := Lib.hid e3; clear e3
        have E2_ := Lib.hid e2; clear e2
        have E1_ := Lib.hid e1; clear e1
        go_wp2_with fail
        refine (HCj.out _ (tab_below HTB.out HB.out (tab_lt HTB.out))).mono ?_
        rintro e wj ⟨rfl, hb⟩
        have HB1 := Lib.hid (HB.out.trans (hb.mono hsz)); clear hb
        have e2 := E2_.out
        have e3 := E3_.out
        go_wp2_with fail
        exact ⟨⟨j + 1, by omega, by go_num, by rw [HSj.out], HB1.out⟩, by simp [intOf]; omega⟩
      · obtain rfl : j = 12 := by omega
        rw [HS12.out]
        clear HCD HBD HST C7
        go_wp2_with fail
        refine (C10.out _ (tab_below HTB.out HB.out (tab_lt HTB.out))).mono ?_
        rintro e w11 ⟨v, rfl, hm, hb⟩
        have HM := Lib.hid hm; clear hm
        have HB1 := Lib.hid (HB.out.trans (hb.mono hsz)); clear hb
        have hs1 := HB1.out.size
        go_wp2_with fail
        refine (C8.out _ (tab_below HTB.out HB1.out (tab_lt HTB.out))).mono ?_
        rintro e w12 ⟨rfl, hb⟩
        have HM1 := Lib.hid (HM.out.step hb)
        have HB2 := Lib.hid (HB1.out.trans (hb.mono hs1)); clear hb
        have hs2 := HB2.out.size
        go_wp2_with fail
        refine (C9.out _ (tab_below HTB.out HB2.out (tab_lt HTB.out))).mono ?_
        rintro e w13 ⟨rfl, hb⟩
        have HM2 := Lib.hid (HM1.out.step hb)
        have HB3 := Lib.hid (HB2.out.trans (hb.mono hs2)); clear hb
        have hs3 := HB3.out.size
        go_wp2_with fail
        refine (C13.out _ _ HM2.out.seq).mono ?_
        rintro e w14 ⟨rfl, hb⟩
        have HM3 := Lib.hid (HM2.out.step hb)
        have HB4 := Lib.hid (HB3.out.trans (hb.mono hs3)); clear hb
        have hs4 := HB4.out.size
        go_wp2_with fail
        refine (C14.out _ _ HM3.out.seq).mono ?_
        rintro e w15 ⟨rfl, hb⟩
        have HB5 := Lib.hid (HB4.out.trans (hb.mono hs4)); clear hb
        have hs5 := HB5.out.size
        go_wp2_with fail
        refine (C12.out _ (tab_below HTB.out HB5.out (tab_lt HTB.out))).mono ?_
        rintro e w16 ⟨rfl, hb⟩
        have HB6 := Lib.hid (HB5.out.trans (hb.mono hs5)); clear hb
        have hs6 := HB6.out.size
        go_wp2_with fail
        refine (C11.out _ (tab_below HTB.out HB6.out (tab_lt HTB.out))).mono ?_
        rintro e w17 ⟨v2, rfl, hm, hb⟩
        have HB7 := Lib.hid (HB6.out.trans (hb.mono hs6)); clear hb
        obtain ⟨A, c, rfl, _, _, _⟩ := hm.seq.form
        clear hm
        go_wp2_with fail
        go_ret
        exact ⟨rfl, HB7.out⟩

theorem contract (H : Type) (enc : TypeId × Value → H) (W : World) (base : Nat) (args : Array Value) (ds gs : List (DataW H)) (before : List MemPlace)
    (hval0 : ∀ (j : Nat) t v, Tryd.f3.params[j]? = some t → args[j]? = some v → Value.okWide Tryd.prog W .any base t v)
    (hW : DataW.Whole enc Tryd.prog Tryd.f3.params.toList Rows.fnYearSpec.vars false W args.toList ds gs before) (hL : laidMetH Tryd.prog Rows.fnYearRow.laid W) :
    Calls Tryd.prog 3 args W fun e W' => ∃ v, e = .returned v ∧ Rows.fnYearSpec.post enc Tryd.prog Tryd.f3 false true false false W args v W' := by
  have hval : ∀ (j : Nat) t v, Tryd.f3.params[j]? = some t → args[j]? = some v → Value.okWide Tryd.prog W .any base t v := hval0
  have hW' := hW
  obtain ⟨p, q, hA0, hV, rfl, hfz, hnd⟩ := hW
  have hA : DataW.TrodAll enc Tryd.prog W 0 (fun _ => true) true Tryd.f3.params.toList args.toList ds p := hA0
  rw [Tryd.params3] at hA hval
  obtain ⟨v0, vs0, d0, ds0, p0, q0, hargs, rfl, rfl, h0, r0⟩ := trodAll_cons hA
  obtain ⟨rfl, rfl, rfl⟩ := trodAll_nil r0
  obtain rfl : args = #[v0] := by cases args; simp_all
  obtain ⟨g, t, cs, fuel, d, p', rfl, hg, ht, hvar, hd, rfl⟩ := trodVars_one hV
  obtain rfl := Option.some.inj (gDay.symm.trans hg)
  obtain rfl := Option.some.inj (gDayType.symm.trans ht)
  have htab : Tab W := tab_of hL (by rfl)
  obtain rfl : cs = own_cells := Option.some.inj (hvar.symm.trans htab)
  obtain ⟨rfl, rfl⟩ := DataW.Trod.unique (v := .agg own_cells) ⟨fuel, hd⟩ ⟨3, own_reads enc W _⟩
  clear hd hvar
  obtain ⟨a0, len0, cap0, rfl⟩ := okWide_slice Tryd.underlying22 (hval 0 22 v0 rfl rfl)
  have k0 := h0
  have lt0 : ∀ x ∈ p0, x.block < W.heap.size := by obtain ⟨m, hm⟩ := k0; exact DataW.trod_lt m _ _ _ hm
  obtain ⟨z0, w0⟩ : ∃ zs, IsRow .u8 W a0 len0 cap0 zs := by
    obtain ⟨fuel, hf⟩ := h0
    rcases open_ints Tryd.underlying22 Tryd.underlying5 (by kernel_rfl) hf with ⟨hcs, _⟩ | ⟨x, l, c, zs, hcs, _, hl, hm, hz, _, hcell, hwz⟩
    · simp [Value.cells] at hcs
      obtain ⟨rfl, rfl, rfl⟩ := hcs
      exact ⟨[], .inl ⟨rfl, rfl, rfl, rfl⟩⟩
    · simp [Value.cells] at hcs
      obtain ⟨rfl, rfl, rfl⟩ := hcs
      exact ⟨zs, .inr ⟨_, rfl, hl, hm, by simpa using hz, hcell, hwz⟩⟩
  clear hA0 hval0
  refine (walk a0 len0 cap0 z0 W w0 htab).mono fun e W' ⟨he, bel⟩ => ?_
  subst he
  exact ⟨_, rfl, _, _, _, [], _, own_places, hW', trodAll_mk1 (shut_bool Tryd.underlying4 _), (trodAll_cons_mk (Below.trod laidOut (by kernel_rfl) (of_decide_eq_true (by kernel_rfl)) k0 bel lt0) trodAll_mk0), own_vars enc (tab_below htab bel (tab_lt htab)) _, bel.frame _, fun h => by cases h⟩

/-- A world for the witness: the settled one, the listed variables holding what their initialisers lay. -/
noncomputable def laidWorld (os : Os) : World :=
  { World.holding Tryd.prog os ⟨#[], #[], []⟩ with heap := setB ((World.holding Tryd.prog os ⟨#[], #[], []⟩).heap) 0 #[.int .i64 490, .int .i64 580, .int .i64 705, .int .i64 830, .int .i64 935, .int .i64 990, .int .i64 965, .int .i64 875, .int .i64 755, .int .i64 630, .int .i64 520, .int .i64 465] }
theorem laid_met (os : Os) : laidMet Tryd.prog Rows.fnYearRow.laid ((laidWorld os).forCall (fun _ _ => 0) ⟨#[], #[.slice none 0 0], []⟩).memory :=
  laidMet_of_run' 8 (by kernel_rfl) (by kernel_rfl)
theorem reads (os : Os) {H : Type} (enc : TypeId × Value → H) : ∃ places, DataW.whole enc Tryd.prog ((laidWorld os).forCall (fun _ _ => 0) ⟨#[], #[.slice none 0 0], []⟩).memory Tryd.f3.params.toList Rows.fnYearSpec.vars false (#[.slice none 0 0] : Array Value).toList 8 = some ([.nil], [Rows.laid_loop_example_g03303_impl_dayLengths], places) :=
  ⟨own_places, by kernel_rfl⟩

set_option maxRecDepth 100000 in
theorem lifted (os : Os) (started : os.Started) (H : Type) (enc : TypeId × Value → H) (F : Stop.Interp) :
    ReturnsInHanded {} Tryd.checked os 3 .any ((OpenSpec.ofChange Rows.fnYearSpec).preRow enc Tryd.prog Tryd.f3 Rows.fnYearRow.domain false Rows.fnYearRow.laid) (((OpenSpec.ofChange Rows.fnYearSpec).at F).post enc Tryd.prog Tryd.f3 false true false false) := by
  obtain ⟨places, hx⟩ := reads os enc
  refine returnsInHanded_of_row (C := Tryd.checked) (s := OpenSpec.ofChange Rows.fnYearSpec) own started (by kernel_rfl) Tryd.func3
    (witness_row_at (enc := enc) (C := Tryd.checked) false (laidWorld os) #[.slice none 0 0] rfl (by kernel_rfl) (by kernel_rfl) (by kernel_rfl)
      (OpenSpec.preRow_of_cond 8 hx (by kernel_rfl) (fun k hk => by cases hk) (by kernel_rfl) (laid_met os))) ?_
  intro W base args ds gs before hval hW _ _ _ hL _ _
  exact contract H enc W base args ds gs before hval hW hL

theorem said : Rows.FnYearSaid :=
  OpenClaim.holds_of_cond 3 Tryd.f3 rfl rfl rfl rfl rfl rfl rfl ⟨rfl, rfl, rfl, rfl, rfl⟩ rfl rfl rfl rfl rfl (by kernel_rfl) Tryd.func3 (by kernel_rfl)
    (of_decide_eq_true (by kernel_rfl)) (by unfold Func.isWrapper; first | (rw [if_pos (by decide +kernel)]; kernel_rfl) | (rw [if_neg (by decide +kernel)]; exact ⟨rfl, rfl⟩))
    (fun os started H enc _ F => by rw [OpenClaim.pre_eq_preRow]; exact lifted os started H enc F)

theorem plain (f : FuncId) (fn : Func) (hf : Tryd.pinned.checked.prog.funcNamed "loop.example/g03303/laws.FnYear" = some f) (hfn : Tryd.pinned.checked.prog.funcs[f]? = some fn) :
    false = Tryd.pinned.checked.prog.looks [] ∧ ∀ (j : Nat) t, fn.params[j]? = some t → Tryd.pinned.checked.prog.wantsStandIn t = false := by
  obtain rfl : f = 3 := Option.some.inj ((show Tryd.prog.funcNamed "loop.example/g03303/laws.FnYear" = some 3 by kernel_rfl).symm.trans hf) |>.symm
  obtain rfl : fn = Tryd.f3 := (Option.some.inj (Tryd.func3.symm.trans hfn)).symm
  refine ⟨by kernel_rfl, fun j t ht => ?_⟩
  rw [Tryd.params3] at ht
  have hm := Array.mem_of_getElem? ht
  simp only [List.mem_toArray, List.mem_cons, List.not_mem_nil, or_false] at hm
  subst hm
  exact (show Tryd.prog.wantsStandIn 22 = false by kernel_rfl)

/-- THE CARD. -/
theorem card : Rows.FnYearCardSaid :=
  Claim7.holds_tied_plain_at .later [] _ _ _ _ said (fun _ h => by cases h) (by kernel_rfl) (fun _ h => by cases h) fnYear_row_tie rfl ⟨rfl, rfl⟩ (by kernel_rfl) rfl plain (by kernel_rfl)
#print axioms card
end Go.Proofs.YtkkpmpicaiflgaaDoor.fnYear
