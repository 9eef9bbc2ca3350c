/-
  The widest gap between bars, of the program and of the model.
-/
import Derived.Test.YtfckgidilbjokacGap
namespace Go.Proofs.Ytfckgidilbjokac
open Go.RowKit
set_option linter.unusedVariables false
set_option linter.unusedSimpArgs false

set_option maxRecDepth 100000 in
set_option maxHeartbeats 2000000 in
theorem implGap (ns ls : List Nd) (xs : List Int) (vn vl v : Value) (w : World) (hn : Prs w vn ns) (hl : Prs w vl ls) (hv : Seq w v xs) :
    Calls Try.prog 19 #[.agg #[vn, vl], v] w (IntIs (gapW ns ls xs) w) := by
  have HW := Lib.hid (fun w h1 h2 => implWin ns ls vn vl w h1 h2)
  have HBR := Lib.hid (fun w h => implBars xs v w h)
  unfold BoolIs at HW HBR
  have HN := Lib.hid hn
  have HL := Lib.hid hl
  have HV := Lib.hid hv
  have H0 := Lib.hid (held_pair w vn vl 32)
  have HR := Lib.hid (show gapW ns ls xs = if winB ns ls && barB xs then max (gapS (lowN ns ns.length) (highN ns ns.length) xs xs.length).1 (highN ns ns.length - (gapS (lowN ns ns.length) (highN ns ns.length) xs xs.length).2) else -1 from rfl)
  by_cases hw : winB ns ls = true
  · by_cases hb : barB xs = true
    · have hp := win_pos hw
      have hfew := ((barB_iff xs).1 hb).few
      obtain ⟨l1, h1⟩ := low_high_bd hw ns.length (Nat.le_refl _)
      have HHT := Lib.hid (fun w h => implHeights ns vn w h hp)
      have HBT := Lib.hid (fun lo hi w h => implBetw xs v lo hi w h (by omega))
      have hbl := betL_len (lowN ns ns.length) (highN ns ns.length) xs xs.length
      have HST := Lib.hid (fun vv w h => implStep (hgt (lowN ns ns.length) (highN ns ns.length) xs) vv w h (by simp [hgt]) (by simp [hgt]; omega) (hgt_bd xs l1 h1))
      replace HR := Lib.hid (show gapW ns ls xs = wdL (hgt (lowN ns ns.length) (highN ns ns.length) xs) ((hgt (lowN ns ns.length) (highN ns ns.length) xs).length - 1) from by
        rw [HR.out, hw, hb, show (hgt (lowN ns ns.length) (highN ns ns.length) xs).length - 1 = (betL (lowN ns ns.length) (highN ns ns.length) xs xs.length).length + 1 from by simp [hgt], gap_eq]
        rfl)
      rw [← HR.out] at HST
      unfold TwoIs at HHT
      unfold IntIs at HST
      have HGT := Lib.hid (show hgt (lowN ns ns.length) (highN ns ns.length) xs = lowN ns ns.length :: (betL (lowN ns ns.length) (highN ns ns.length) xs xs.length ++ [highN ns ns.length]) from rfl)
      replace HBT := Lib.hid (fun w h => HBT.out (lowN ns ns.length) (highN ns ns.length) w h)
      unfold IntsSome at HBT
      rw [hw] at HW
      rw [hb] at HBR
      clear HR l1 h1 hw hb hp
      generalize gapW ns ls xs = res at *
      generalize hgt (lowN ns ns.length) (highN ns ns.length) xs = G at *
      generalize betL (lowN ns ns.length) (highN ns ns.length) xs xs.length = X at *
      generalize lowN ns ns.length = lo at *
      generalize highN ns ns.length = hi at *
      obtain ⟨A, c, rfl⟩ := prs_form2 hn
      obtain ⟨A2, c2, rfl⟩ := prs_form2 hl
      obtain ⟨A3, c3, rfl⟩ := seq_form2 hv
      clear hn hl hv
      obtain ⟨i0, hi', hz0, hz1, hz2⟩ := info_parts infoInt
      go_enter Try.func19, Try.ntmps19
      go_wp2_with fail
      refine (HW.out _ (HN.out.step H0.out.below) (HL.out.step H0.out.below)).mono ?_
      rintro e w1 ⟨rfl, hb⟩
      have H1 := Lib.hid (H0.out.step hb); clear hb
      go_wp2_with fail
      refine (HBR.out _ (HV.out.step H1.out.below)).mono ?_
      rintro e w2 ⟨rfl, hb⟩
      have H2 := Lib.hid (H1.out.step hb); clear hb
      obtain ⟨x0, x1, _⟩ := H2.out.1
      go_wp2_with fail
      refine (HHT.out _ (HN.out.step H2.out.below)).mono ?_
      rintro e w3 ⟨rfl, hb⟩
      have H3 := Lib.hid (H2.out.step hb); clear hb x0 x1
      have HI := Lib.hid (And.intro hi' (And.intro hz0 (And.intro hz1 hz2))); clear hi' hz0 hz1 hz2
      go_wp2_with fail
      have b4 := (Below.refl w3.heap.size w3).alloc (Nat.le_refl _) (.cells #[.int .i64 lo] 3)
      have H4 := Lib.hid (H3.out.step b4)
      have O4 := Lib.hid (show Ints (w3.alloc (.cells #[.int .i64 lo] 3)) w3.heap.size (.slice (some ⟨w3.heap.size, 0, none⟩) 1 1) [lo] from ⟨by simp, .inr ⟨w3.heap.size, 1, #[.int .i64 lo], rfl, Nat.le_refl _, heap_alloc_new w3 _, Nat.le_refl _, by unfold maxLen; omega, rfl, rfl⟩⟩)
      clear b4
      refine (HBT.out _ (HV.out.step H4.out.below)).mono ?_
      rintro e w5 ⟨g, cg, rfl, hx, hb⟩
      have H5 := Lib.hid (H4.out.step hb)
      have O5 := Lib.hid (O4.out.step hb)
      have hs5 : w3.heap.size ≤ w5.heap.size := by have := hb.size; simp at this; omega
      have HX5 := Lib.hid hx
      clear hb hx
      obtain ⟨hi', hz0, hz1', hz2'⟩ := HI.out
      go_wp2_with (at_builtin; refine wpList_append_own _ rfl _ _ 26 rfl w3.heap.size 3 i0 (.int .i64 0) 1 8 Try.underlying26 hi' hz0 hz1' hz2' rfl (by decide) _ _ _ rfl O5.out ⟨_, 0, none⟩ _ _ (X.map fun x => .int .i64 x) rfl ?c1 ?c2 ?c3 ?c4 ?c5 ?c6 ?_)
      case c1 => simp
      case c2 =>
        intro j u hu
        rw [Go.WideShapes.add_plain, Nat.zero_add]
        have h9 := World.ownsRow.cells HX5.out rfl j u hu
        rw [Go.WideShapes.add_plain, Nat.zero_add] at h9
        exact h9
      case c3 => simp [Value.oneCell']
      case c4 => unfold maxLen; simp only [List.length_cons, List.length_nil]; omega
      case c5 => simp only [List.length_cons, List.length_nil]; omega
      case c6 => exact hs5
      intro v6 w6 hown hgrow _
      have O6 := Lib.hid (show Ints w6 w3.heap.size v6 (lo :: X) from by
        unfold Ints
        simpa [Nat.add_comm] using hown)
      have H6 := Lib.hid (H5.out.stepB (B := w3.heap.size) ⟨H3.out.2.1.1, H3.out.2.1.1, trivial⟩ ((Below.refl _ _).grown hgrow hs5 (fun k e => (O5.out.own k e).1)) H3.out.below.size)
      have hs65 : w3.heap.size ≤ w6.heap.size := Nat.le_trans hs5 hgrow.size
      clear hown hgrow hi' hz0 hz1' hz2' O5 HX5 H5
      obtain ⟨hi', hz0, hz1', hz2'⟩ := HI.out
      have hs6 := H6.out.below.size
      go_wp2_with (at_builtin; refine wpList_append_own _ rfl _ _ 26 rfl w3.heap.size 3 i0 (.int .i64 0) 1 8 Try.underlying26 hi' hz0 hz1' hz2' rfl (by decide) _ _ _ rfl (World.ownsRow.alloc O6.out _) ⟨_, 0, none⟩ 1 1 [.int .i64 hi] rfl rfl ?d1 ?d2 ?d3 ?d4 ?d5 ?_)
      case d1 => exact cell_one_new _ _ _
      case d2 => simp [Value.oneCell']
      case d3 => unfold maxLen; simp only [List.length_cons]; omega
      case d4 => simp only [List.length_cons]; omega
      case d5 => simp <;> omega
      intro v7 w7 hown hgrow _
      have O7 := Lib.hid (show Ints w7 w3.heap.size v7 G from by
        rw [HGT.out]
        exact Ints.more (xs := lo :: X) (x := hi) hown)
      have B7 := Lib.hid (show Below w.heap.size w w7 from (H6.out.stepB (B := w3.heap.size) ⟨H3.out.2.1.1, H3.out.2.1.1, trivial⟩ (grown_below O6.out hs65 hgrow) H3.out.below.size).below)
      clear hown hgrow
      go_wp2_with fail
      refine (HST.out _ _ O7.out.seq).mono ?_
      rintro e w8 ⟨rfl, hb⟩
      have B8 := Lib.hid (B7.out.trans (hb.mono B7.out.size)); clear hb
      go_wp2_with fail
      go_ret
      exact ⟨rfl, B8.out⟩
    · rw [hw] at HW
      rw [show barB xs = false by simpa using hb] at HBR
      replace HR := Lib.hid (show gapW ns ls xs = -1 from by rw [HR.out, show barB xs = false by simpa using hb]; simp)
      clear hw hb
      generalize gapW ns ls xs = res at *
      obtain ⟨A, c, rfl⟩ := prs_form2 hn
      obtain ⟨A2, c2, rfl⟩ := prs_form2 hl
      obtain ⟨A3, c3, rfl⟩ := seq_form2 hv
      clear hn hl hv
      go_enter Try.func19, Try.ntmps19
      go_wp2_with fail
      refine (HW.out _ (HN.out.step H0.out.below) (HL.out.step H0.out.below)).mono ?_
      rintro e w1 ⟨rfl, hb⟩
      have H1 := Lib.hid (H0.out.step hb); clear hb
      go_wp2_with fail
      refine (HBR.out _ (HV.out.step H1.out.below)).mono ?_
      rintro e w2 ⟨rfl, hb⟩
      have H2 := Lib.hid (H1.out.step hb); clear hb
      go_wp2_with fail
      go_ret
      exact ⟨ret_int HR.out.symm, H2.out.below⟩
  · rw [show winB ns ls = false by simpa using hw] at HW
    replace HR := Lib.hid (show gapW ns ls xs = -1 from by rw [HR.out, show winB ns ls = false by simpa using hw]; rfl)
    clear hw
    generalize gapW ns ls xs = res at *
    obtain ⟨A, c, rfl⟩ := prs_form2 hn
    obtain ⟨A2, c2, rfl⟩ := prs_form2 hl
    obtain ⟨A3, c3, rfl⟩ := seq_form2 hv
    clear hn hl hv
    go_enter Try.func19, Try.ntmps19
    go_wp2_with fail
    refine (HW.out _ (HN.out.step H0.out.below) (HL.out.step H0.out.below)).mono ?_
    rintro e w1 ⟨rfl, hb⟩
    have H1 := Lib.hid (H0.out.step hb); clear hb
    go_wp2_with fail
    go_ret
    exact ⟨ret_int HR.out.symm, H1.out.below⟩

set_option maxRecDepth 100000 in
set_option maxHeartbeats 2000000 in
theorem specGap (ns ls : List Nd) (xs : List Int) (vn vl v : Value) (w : World) (hn : Prs w vn ns) (hl : Prs w vl ls) (hv : Seq w v xs) :
    Calls Try.prog 16 #[.agg #[vn, vl], v] w (IntIs (gapW ns ls xs) w) := by
  have HW := Lib.hid (fun w h1 h2 => specWin ns ls vn vl w h1 h2)
  have HBR := Lib.hid (fun w h => specBars xs v w h)
  unfold BoolIs at HW HBR
  have HN := Lib.hid hn
  have HL := Lib.hid hl
  have HV := Lib.hid hv
  have H0 := Lib.hid (held_pair w vn vl 32)
  have HR := Lib.hid (show gapW ns ls xs = if winB ns ls && barB xs then max (gapS (lowN ns ns.length) (highN ns ns.length) xs xs.length).1 (highN ns ns.length - (gapS (lowN ns ns.length) (highN ns ns.length) xs xs.length).2) else -1 from rfl)
  by_cases hw : winB ns ls = true
  · by_cases hb : barB xs = true
    · have hp := win_pos hw
      have hfew := ((barB_iff xs).1 hb).few
      have hbin := ((barB_iff xs).1 hb).inr
      obtain ⟨l1, h1⟩ := low_high_bd hw ns.length (Nat.le_refl _)
      have HHT := Lib.hid (fun w h => specHeights ns vn vl w h hp)
      have HIN := Lib.hid (fun x w => specIn x (lowN ns ns.length) (highN ns ns.length) w)
      have HGB := Lib.hid (gapS_bd xs l1 h1)
      have HGS := Lib.hid (fun n => gapS_succ (lowN ns ns.length) (highN ns ns.length) xs n)
      have HGZ := Lib.hid (show gapS (lowN ns ns.length) (highN ns ns.length) xs 0 = (0, lowN ns ns.length) from rfl)
      replace HR := Lib.hid (show gapW ns ls xs = max (gapS (lowN ns ns.length) (highN ns ns.length) xs xs.length).1 (highN ns ns.length - (gapS (lowN ns ns.length) (highN ns ns.length) xs xs.length).2) from by
        rw [HR.out, hw, hb]
        rfl)
      unfold TwoIs at HHT
      have HXB := Lib.hid hbin
      rw [hw] at HW
      rw [hb] at HBR
      clear hw hb hp hbin
      generalize gapW ns ls xs = res at *
      generalize gapS (lowN ns ns.length) (highN ns ns.length) xs = S at *
      generalize lowN ns ns.length = lo at *
      generalize highN ns ns.length = hi at *
      obtain ⟨A, c, rfl⟩ := prs_form2 hn
      obtain ⟨A2, c2, rfl⟩ := prs_form2 hl
      obtain ⟨A3, c3, rfl⟩ := seq_form2 hv
      clear hn hl hv
      go_enter Try.func16, Try.ntmps16
      go_wp2_with fail
      refine (HW.out _ (HN.out.step H0.out.below) (HL.out.step H0.out.below)).mono ?_
      rintro e w1 ⟨rfl, hb⟩
      have H1 := Lib.hid (H0.out.step hb); clear hb
      go_wp2_with fail
      refine (HBR.out _ (HV.out.step H1.out.below)).mono ?_
      rintro e w2 ⟨rfl, hb⟩
      have H2 := Lib.hid (H1.out.step hb); clear hb
      obtain ⟨x0, x1, _⟩ := H2.out.1
      go_wp2_with fail
      refine (HHT.out _ (HN.out.step H2.out.below)).mono ?_
      rintro e w3 ⟨rfl, hb⟩
      have H3 := Lib.hid (H2.out.step hb); clear hb x0 x1
      go_wp2_with fail
      go_loopw [7, 8, 9] (fun a b i wr => ∃ m : Nat, m ≤ xs.length ∧ i = .int .i64 m ∧ a = .int .i64 (S m).1 ∧ b = .int .i64 (S m).2 ∧ wr = w3) (fun _ _ i _ => xs.length - (intOf i).toNat)
      case atStart => exact ⟨0, Nat.zero_le _, rfl, by rw [HGZ.out], by rw [HGZ.out], rfl⟩
      case round =>
        obtain ⟨m, hm, rfl, rfl, rfl, rfl⟩ := hrel
        by_cases hlt : m < xs.length
        · obtain ⟨A6', c6', e6, -, -, hcs⟩ := (HV.out.step H3.out.below).form
          simp only [Value.slice.injEq] at e6
          obtain ⟨rfl, -, -⟩ := e6
          obtain ⟨bb, oo, rfl, -, k0⟩ := hcs m hlt
          clear hcs
          have hxb := HXB.out m hlt
          have hgb := HGB.out m
          have HSM := Lib.hid (HGS.out m)
          have HX := Lib.hid (fun w => HIN.out (atZ xs m) w)
          have q1 : (0 : Int) ≤ m := by omega
          have q2 : (m : Int) < (xs.length : Int) := by omega
          generalize atZ xs m = z at *
          generalize S m = s at *
          obtain ⟨s1, s2⟩ := s
          simp only at hgb
          have r1 : IntKind.i64.wrap (z - s2) = z - s2 := IntWalk.i64_in _ (by omega)
          by_cases hb : inB z lo hi = true
          · replace HSM := Lib.hid (show S (m + 1) = (max s1 (z - s2), z) from by rw [HSM.out, if_pos hb]; rfl)
            rw [hb] at HX
            clear hb
            go_wp2_with fail
            refine (HX.out _).mono ?_
            rintro e w' ⟨rfl, rfl⟩
            go_wp2_with fail
            exact ⟨⟨m + 1, by omega, by go_num, by first | (rw [HSM.out]; done) | (rw [HSM.out]; rfl) | (rw [HSM.out]; congr 1; first | (split <;> omega) | omega), by rw [HSM.out], trivial⟩, by simp [intOf]; omega⟩
          · replace HSM := Lib.hid (show S (m + 1) = (s1, s2) from by rw [HSM.out, if_neg hb])
            rw [show inB z lo hi = false by simpa using hb] at HX
            clear hb
            go_wp2_with fail
            refine (HX.out _).mono ?_
            rintro e w' ⟨rfl, rfl⟩
            go_wp2_with fail
            exact ⟨⟨m + 1, by omega, by go_num, by first | (rw [HSM.out]; done) | (rw [HSM.out]; rfl) | (rw [HSM.out]; congr 1; first | (split <;> omega) | omega), by rw [HSM.out], trivial⟩, by simp [intOf]; omega⟩
        · obtain rfl : m = xs.length := by omega
          have hgb := HGB.out xs.length
          generalize S xs.length = s at *
          obtain ⟨s1, s2⟩ := s
          simp only at hgb
          have r1 : IntKind.i64.wrap (hi - s2) = hi - s2 := IntWalk.i64_in _ (by omega)
          go_wp2_with fail
          all_goals (go_ret; exact ⟨ret_int (by rw [HR.out]; omega), H3.out.below⟩)
    · rw [hw] at HW
      rw [show barB xs = false by simpa using hb] at HBR
      replace HR := Lib.hid (show gapW ns ls xs = -1 from by rw [HR.out, show barB xs = false by simpa using hb]; simp)
      clear hw hb
      generalize gapW ns ls xs = res at *
      obtain ⟨A, c, rfl⟩ := prs_form2 hn
      obtain ⟨A2, c2, rfl⟩ := prs_form2 hl
      obtain ⟨A3, c3, rfl⟩ := seq_form2 hv
      clear hn hl hv
      go_enter Try.func16, Try.ntmps16
      go_wp2_with fail
      refine (HW.out _ (HN.out.step H0.out.below) (HL.out.step H0.out.below)).mono ?_
      rintro e w1 ⟨rfl, hb⟩
      have H1 := Lib.hid (H0.out.step hb); clear hb
      go_wp2_with fail
      refine (HBR.out _ (HV.out.step H1.out.below)).mono ?_
      rintro e w2 ⟨rfl, hb⟩
      have H2 := Lib.hid (H1.out.step hb); clear hb
      go_wp2_with fail
      go_ret
      exact ⟨ret_int HR.out.symm, H2.out.below⟩
  · rw [show winB ns ls = false by simpa using hw] at HW
    replace HR := Lib.hid (show gapW ns ls xs = -1 from by rw [HR.out, show winB ns ls = false by simpa using hw]; rfl)
    clear hw
    generalize gapW ns ls xs = res at *
    obtain ⟨A, c, rfl⟩ := prs_form2 hn
    obtain ⟨A2, c2, rfl⟩ := prs_form2 hl
    obtain ⟨A3, c3, rfl⟩ := seq_form2 hv
    clear hn hl hv
    go_enter Try.func16, Try.ntmps16
    go_wp2_with fail
    refine (HW.out _ (HN.out.step H0.out.below) (HL.out.step H0.out.below)).mono ?_
    rintro e w1 ⟨rfl, hb⟩
    have H1 := Lib.hid (H0.out.step hb); clear hb
    go_wp2_with fail
    go_ret
    exact ⟨ret_int HR.out.symm, H1.out.below⟩
end Go.Proofs.Ytfckgidilbjokac
