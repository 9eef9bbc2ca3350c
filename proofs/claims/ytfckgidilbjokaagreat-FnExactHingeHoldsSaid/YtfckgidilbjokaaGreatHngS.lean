/-
  The force on the hinges, of the model.
-/
import Derived.Test.YtfckgidilbjokaaGreatHng
namespace Go.Proofs.YtfckgidilbjokaaGreat
open Go.RowKit
set_option linter.unusedVariables false
set_option linter.unusedSimpArgs false

set_option maxRecDepth 100000 in
set_option maxHeartbeats 4000000 in
theorem specHng (ns ls : List Nd) (vn vl : Value) (t s a : Int) (w : World) (hn : Prs w vn ns) (hl : Prs w vl ls) :
    Calls Tryz.prog 39 #[.agg #[vn, vl], .int .i64 t, .int .i64 s, .int .i64 a] w (TwoIs (hngF ns ls t s a) (hngU ns ls t s a) w) := by
  have HW := Lib.hid (fun w h1 h2 => specGlw ns ls vn vl t w h1 h2)
  have HS := Lib.hid (fun w => specInB s 0 20 w)
  have HA := Lib.hid (fun w => specInB a 1 40 w)
  have HM0 := Lib.hid (fun w h1 h2 => specMid ns ls vn vl w h1 h2)
  unfold IntIs at HW
  unfold BoolIs at HS HA
  have HM : Hid (∀ w, Prs w vn ns → Prs w vl ls → Calls Tryz.prog 78 #[.agg #[vn, vl]] w fun e w' => e = .returned (.tuple #[.int .i64 (if mU ns ls = 0 then 0 else mX ns ls), .int .i64 (if mU ns ls = 0 then 0 else mY ns ls), .int .i64 (mU ns ls)]) ∧ Below w.heap.size w w') := Lib.hid (fun w h1 h2 => HM0.out w h1 h2)
  clear HM0
  have HN := Lib.hid hn
  have HL := Lib.hid hl
  obtain ⟨A, c, rfl⟩ := prs_form2 hn
  obtain ⟨A2, c2, rfl⟩ := prs_form2 hl
  clear hn hl
  have H0 := Lib.hid (held_pair w (.slice A ns.length c) (.slice A2 ls.length c2) 32)
  have HRF := Lib.hid (show hngF ns ls t s a = if ((wholeB ns ls && inB t 1 20) && (!(mU ns ls == 0) && (inB s 0 20 && inB a 1 40))) = true then gwW ns ls t * max (mX ns ls - s * mU ns ls) (-(mX ns ls - s * mU ns ls)) else 0 from rfl)
  have HRU := Lib.hid (show hngU ns ls t s a = if ((wholeB ns ls && inB t 1 20) && (!(mU ns ls == 0) && (inB s 0 20 && inB a 1 40))) = true then mU ns ls * a else 0 from rfl)
  have HG := Lib.hid (gw_cases ns ls t)
  obtain ⟨u1, u2⟩ := mU_bd ns ls
  obtain ⟨x1, x2⟩ := mX_bd ns ls
  generalize hngF ns ls t s a = rf at *
  generalize hngU ns ls t s a = ru at *
  generalize (wholeB ns ls && inB t 1 20) = b1 at *
  generalize gwW ns ls t = G at *
  generalize mX ns ls = x at *
  generalize mY ns ls = y at *
  generalize mU ns ls = u at *
  by_cases hz0 : u = 0
  · rw [if_pos hz0, if_pos hz0] at HM
    clear x1 x2
    have x1 : -640000 ≤ (0 : Int) := by omega
    have x2 : (0 : Int) ≤ 640000 := by omega
    rcases HG.out with ⟨rfl, rfl⟩ | ⟨rfl, g1, g2⟩
    · replace HRF := Lib.hid (show rf = 0 from by rw [HRF.out]; rfl)
      replace HRU := Lib.hid (show ru = 0 from by rw [HRU.out]; rfl)
      clear HG hz0
      go_enter Tryz.func39, Tryz.ntmps39
      go_wp2_with fail
      refine (HW.out _ (HN.out.step H0.out.below) (HL.out.step H0.out.below)).mono ?_
      rintro e w1_ ⟨rfl, hb⟩
      have H1 := Lib.hid (H0.out.step hb); clear hb
      obtain ⟨x0, x1, _⟩ := H1.out.1
      go_wp2_with fail
      refine (HM.out _ (HN.out.step H1.out.below) (HL.out.step H1.out.below)).mono ?_
      rintro e w2_ ⟨rfl, hb⟩
      have H2 := Lib.hid (H1.out.step hb); clear hb x0 x1
      go_wp2_with fail
      repeat' (first | ((first | (with_reducible refine (HS.out _).mono ?_) | (with_reducible refine (HA.out _).mono ?_) | fail); rintro e wn ⟨rfl, hb⟩; have H2 := Lib.hid (H2.out.step hb); clear hb; go_wp2_with fail) | fail)
      all_goals refine bodyPost_ret (v := .tuple #[.int .i64 0, .int .i64 0]) (by simp [results, Tryz.results39, go_sem]) rfl ⟨by rw [HRF.out, HRU.out], H2.out.below⟩
    · subst hz0
      replace HRF := Lib.hid (show rf = 0 from by rw [HRF.out]; rfl)
      replace HRU := Lib.hid (show ru = 0 from by rw [HRU.out]; rfl)
      clear HG
      go_enter Tryz.func39, Tryz.ntmps39
      go_wp2_with fail
      refine (HW.out _ (HN.out.step H0.out.below) (HL.out.step H0.out.below)).mono ?_
      rintro e w1_ ⟨rfl, hb⟩
      have H1 := Lib.hid (H0.out.step hb); clear hb
      obtain ⟨x0, x1, _⟩ := H1.out.1
      go_wp2_with fail
      refine (HM.out _ (HN.out.step H1.out.below) (HL.out.step H1.out.below)).mono ?_
      rintro e w2_ ⟨rfl, hb⟩
      have H2 := Lib.hid (H1.out.step hb); clear hb x0 x1
      go_wp2_with fail
      repeat' (first | ((first | (with_reducible refine (HS.out _).mono ?_) | (with_reducible refine (HA.out _).mono ?_) | fail); rintro e wn ⟨rfl, hb⟩; have H2 := Lib.hid (H2.out.step hb); clear hb; go_wp2_with fail) | fail)
      all_goals refine bodyPost_ret (v := .tuple #[.int .i64 0, .int .i64 0]) (by simp [results, Tryz.results39, go_sem]) rfl ⟨by rw [HRF.out, HRU.out], H2.out.below⟩
  · rw [if_neg hz0, if_neg hz0] at HM
    clear hz0
    rcases HG.out with ⟨rfl, rfl⟩ | ⟨rfl, g1, g2⟩
    · replace HRF := Lib.hid (show rf = 0 from by rw [HRF.out]; rfl)
      replace HRU := Lib.hid (show ru = 0 from by rw [HRU.out]; rfl)
      clear HG
      go_enter Tryz.func39, Tryz.ntmps39
      go_wp2_with fail
      refine (HW.out _ (HN.out.step H0.out.below) (HL.out.step H0.out.below)).mono ?_
      rintro e w1_ ⟨rfl, hb⟩
      have H1 := Lib.hid (H0.out.step hb); clear hb
      obtain ⟨x0, x1, _⟩ := H1.out.1
      go_wp2_with fail
      refine (HM.out _ (HN.out.step H1.out.below) (HL.out.step H1.out.below)).mono ?_
      rintro e w2_ ⟨rfl, hb⟩
      have H2 := Lib.hid (H1.out.step hb); clear hb x0 x1
      go_wp2_with fail
      repeat' (first | ((first | (with_reducible refine (HS.out _).mono ?_) | (with_reducible refine (HA.out _).mono ?_) | fail); rintro e wn ⟨rfl, hb⟩; have H2 := Lib.hid (H2.out.step hb); clear hb; go_wp2_with fail) | fail)
      all_goals refine bodyPost_ret (v := .tuple #[.int .i64 0, .int .i64 0]) (by simp [results, Tryz.results39, go_sem]) rfl ⟨by rw [HRF.out, HRU.out], H2.out.below⟩
    · clear HG
      by_cases hz : u = 0
      · subst hz
        replace HRF := Lib.hid (show rf = 0 from by rw [HRF.out]; rfl)
        replace HRU := Lib.hid (show ru = 0 from by rw [HRU.out]; rfl)
        go_enter Tryz.func39, Tryz.ntmps39
        go_wp2_with fail
        refine (HW.out _ (HN.out.step H0.out.below) (HL.out.step H0.out.below)).mono ?_
        rintro e w1_ ⟨rfl, hb⟩
        have H1 := Lib.hid (H0.out.step hb); clear hb
        obtain ⟨x0, x1, _⟩ := H1.out.1
        go_wp2_with fail
        refine (HM.out _ (HN.out.step H1.out.below) (HL.out.step H1.out.below)).mono ?_
        rintro e w2_ ⟨rfl, hb⟩
        have H2 := Lib.hid (H1.out.step hb); clear hb x0 x1
        go_wp2_with fail
        repeat' (first | ((first | (with_reducible refine (HS.out _).mono ?_) | (with_reducible refine (HA.out _).mono ?_) | fail); rintro e wn ⟨rfl, hb⟩; have H2 := Lib.hid (H2.out.step hb); clear hb; go_wp2_with fail) | fail)
        all_goals refine bodyPost_ret (v := .tuple #[.int .i64 0, .int .i64 0]) (by simp [results, Tryz.results39, go_sem]) rfl ⟨by rw [HRF.out, HRU.out], H2.out.below⟩
      · have hzb : (u == 0) = false := by simpa using hz
        rw [hzb] at HRF HRU
        have HZ := Lib.hid hz; clear hz
        by_cases hs : inB s 0 20 = true
        · obtain ⟨s1, s2⟩ := (inB_iff _ _ _).1 hs
          by_cases ha : inB a 1 40 = true
          · obtain ⟨a1, a2⟩ := (inB_iff _ _ _).1 ha
            obtain ⟨w1, w2, w3, w4, w5, -, -⟩ := hng_arith x1 x2 u1 u2 s1 s2 a1 a2 g1 g2
            replace HRF := Lib.hid (show rf = G * max (x - s * u) (-(x - s * u)) from by rw [HRF.out, hs, ha]; rfl)
            replace HRU := Lib.hid (show ru = u * a from by rw [HRU.out, hs, ha]; rfl)
            try rw [hs] at HS
            try rw [ha] at HA
            clear hs ha
            go_enter Tryz.func39, Tryz.ntmps39
            go_wp2_with fail
            refine (HW.out _ (HN.out.step H0.out.below) (HL.out.step H0.out.below)).mono ?_
            rintro e w1_ ⟨rfl, hb⟩
            have H1 := Lib.hid (H0.out.step hb); clear hb
            obtain ⟨x0, x1, _⟩ := H1.out.1
            go_wp2_with fail
            refine (HM.out _ (HN.out.step H1.out.below) (HL.out.step H1.out.below)).mono ?_
            rintro e w2_ ⟨rfl, hb⟩
            have H2 := Lib.hid (H1.out.step hb); clear hb x0 x1
            go_wp2_with fail
            repeat' (first | ((first | (with_reducible refine (HS.out _).mono ?_) | (with_reducible refine (HA.out _).mono ?_) | fail); rintro e wn ⟨rfl, hb⟩; have H2 := Lib.hid (H2.out.step hb); clear hb; go_wp2_with fail) | fail)
            all_goals first | (exfalso; omega) | (refine bodyPost_ret (v := .tuple #[.int .i64 (G * max (x - s * u) (-(x - s * u))), .int .i64 (u * a)]) (by simp [results, Tryz.results39, go_sem]) rfl ⟨by rw [HRF.out, HRU.out], H2.out.below⟩)
          · have ha2 : inB a 1 40 = false := by simpa using ha
            replace HRF := Lib.hid (show rf = 0 from by rw [HRF.out, hs, ha2]; rfl)
            replace HRU := Lib.hid (show ru = 0 from by rw [HRU.out, hs, ha2]; rfl)
            try rw [hs] at HS
            try rw [ha2] at HA
            by_cases a1 : a < 1
            · clear ha ha2 hs
              go_enter Tryz.func39, Tryz.ntmps39
              go_wp2_with fail
              refine (HW.out _ (HN.out.step H0.out.below) (HL.out.step H0.out.below)).mono ?_
              rintro e w1_ ⟨rfl, hb⟩
              have H1 := Lib.hid (H0.out.step hb); clear hb
              obtain ⟨x0, x1, _⟩ := H1.out.1
              go_wp2_with fail
              refine (HM.out _ (HN.out.step H1.out.below) (HL.out.step H1.out.below)).mono ?_
              rintro e w2_ ⟨rfl, hb⟩
              have H2 := Lib.hid (H1.out.step hb); clear hb x0 x1
              go_wp2_with fail
              repeat' (first | ((first | (with_reducible refine (HS.out _).mono ?_) | (with_reducible refine (HA.out _).mono ?_) | fail); rintro e wn ⟨rfl, hb⟩; have H2 := Lib.hid (H2.out.step hb); clear hb; go_wp2_with fail) | fail)
              all_goals refine bodyPost_ret (v := .tuple #[.int .i64 0, .int .i64 0]) (by simp [results, Tryz.results39, go_sem]) rfl ⟨by rw [HRF.out, HRU.out], H2.out.below⟩
            · have a2 : 40 < a := by
                have : ¬ (1 ≤ a ∧ a ≤ 40) := fun h => ha ((inB_iff _ _ _).2 h)
                omega
              clear ha ha2 hs
              go_enter Tryz.func39, Tryz.ntmps39
              go_wp2_with fail
              refine (HW.out _ (HN.out.step H0.out.below) (HL.out.step H0.out.below)).mono ?_
              rintro e w1_ ⟨rfl, hb⟩
              have H1 := Lib.hid (H0.out.step hb); clear hb
              obtain ⟨x0, x1, _⟩ := H1.out.1
              go_wp2_with fail
              refine (HM.out _ (HN.out.step H1.out.below) (HL.out.step H1.out.below)).mono ?_
              rintro e w2_ ⟨rfl, hb⟩
              have H2 := Lib.hid (H1.out.step hb); clear hb x0 x1
              go_wp2_with fail
              repeat' (first | ((first | (with_reducible refine (HS.out _).mono ?_) | (with_reducible refine (HA.out _).mono ?_) | fail); rintro e wn ⟨rfl, hb⟩; have H2 := Lib.hid (H2.out.step hb); clear hb; go_wp2_with fail) | fail)
              all_goals refine bodyPost_ret (v := .tuple #[.int .i64 0, .int .i64 0]) (by simp [results, Tryz.results39, go_sem]) rfl ⟨by rw [HRF.out, HRU.out], H2.out.below⟩
        · have hs2 : inB s 0 20 = false := by simpa using hs
          replace HRF := Lib.hid (show rf = 0 from by rw [HRF.out, hs2]; rfl)
          replace HRU := Lib.hid (show ru = 0 from by rw [HRU.out, hs2]; rfl)
          try rw [hs2] at HS
          by_cases s1 : s < 0
          · clear hs hs2
            go_enter Tryz.func39, Tryz.ntmps39
            go_wp2_with fail
            refine (HW.out _ (HN.out.step H0.out.below) (HL.out.step H0.out.below)).mono ?_
            rintro e w1_ ⟨rfl, hb⟩
            have H1 := Lib.hid (H0.out.step hb); clear hb
            obtain ⟨x0, x1, _⟩ := H1.out.1
            go_wp2_with fail
            refine (HM.out _ (HN.out.step H1.out.below) (HL.out.step H1.out.below)).mono ?_
            rintro e w2_ ⟨rfl, hb⟩
            have H2 := Lib.hid (H1.out.step hb); clear hb x0 x1
            go_wp2_with fail
            repeat' (first | ((first | (with_reducible refine (HS.out _).mono ?_) | (with_reducible refine (HA.out _).mono ?_) | fail); rintro e wn ⟨rfl, hb⟩; have H2 := Lib.hid (H2.out.step hb); clear hb; go_wp2_with fail) | fail)
            all_goals refine bodyPost_ret (v := .tuple #[.int .i64 0, .int .i64 0]) (by simp [results, Tryz.results39, go_sem]) rfl ⟨by rw [HRF.out, HRU.out], H2.out.below⟩
          · have s2 : 20 < s := by
              have : ¬ (0 ≤ s ∧ s ≤ 20) := fun h => hs ((inB_iff _ _ _).2 h)
              omega
            clear hs hs2
            go_enter Tryz.func39, Tryz.ntmps39
            go_wp2_with fail
            refine (HW.out _ (HN.out.step H0.out.below) (HL.out.step H0.out.below)).mono ?_
            rintro e w1_ ⟨rfl, hb⟩
            have H1 := Lib.hid (H0.out.step hb); clear hb
            obtain ⟨x0, x1, _⟩ := H1.out.1
            go_wp2_with fail
            refine (HM.out _ (HN.out.step H1.out.below) (HL.out.step H1.out.below)).mono ?_
            rintro e w2_ ⟨rfl, hb⟩
            have H2 := Lib.hid (H1.out.step hb); clear hb x0 x1
            go_wp2_with fail
            repeat' (first | ((first | (with_reducible refine (HS.out _).mono ?_) | (with_reducible refine (HA.out _).mono ?_) | fail); rintro e wn ⟨rfl, hb⟩; have H2 := Lib.hid (H2.out.step hb); clear hb; go_wp2_with fail) | fail)
            all_goals refine bodyPost_ret (v := .tuple #[.int .i64 0, .int .i64 0]) (by simp [results, Tryz.results39, go_sem]) rfl ⟨by rw [HRF.out, HRU.out], H2.out.below⟩

end Go.Proofs.YtfckgidilbjokaaGreat
