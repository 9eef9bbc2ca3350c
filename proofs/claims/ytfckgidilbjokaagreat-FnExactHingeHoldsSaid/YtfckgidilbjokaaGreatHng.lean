/-
  The force on the hinges, of the program and of the model.
-/
import Derived.Test.YtfckgidilbjokaaGreatMdl
namespace Go.Proofs.YtfckgidilbjokaaGreat
open Go.RowKit
set_option linter.unusedVariables false
set_option linter.unusedSimpArgs false

noncomputable def hOk (ns ls : List Nd) (t s a : Int) : Bool := (wholeB ns ls && inB t 1 20) && (!(mU ns ls == 0) && (inB s 0 20 && inB a 1 40))
noncomputable def hngF (ns ls : List Nd) (t s a : Int) : Int := if hOk ns ls t s a = true then gwW ns ls t * max (mX ns ls - s * mU ns ls) (-(mX ns ls - s * mU ns ls)) else 0
noncomputable def hngU (ns ls : List Nd) (t s a : Int) : Int := if hOk ns ls t s a = true then mU ns ls * a else 0
noncomputable def hngB (ns ls : List Nd) (t s a l : Int) : Bool := decide (0 < hngU ns ls t s a) && (inB l 0 1000000 && decide (hngF ns ls t s a ≤ l * hngU ns ls t s a))
theorem mU_bd (ns ls : List Nd) : 0 ≤ mU ns ls ∧ mU ns ls ≤ 48000 := by
  unfold mU
  split
  · rename_i hh
    have := total_nn hh
    omega
  · omega
theorem gw_cases (ns ls : List Nd) (t : Int) : (wholeB ns ls && inB t 1 20) = false ∧ gwW ns ls t = -1 ∨ (wholeB ns ls && inB t 1 20) = true ∧ 0 ≤ gwW ns ls t ∧ gwW ns ls t ≤ 320000 := by
  unfold gwW
  by_cases h : (wholeB ns ls && inB t 1 20) = true
  · refine .inr ⟨h, ?_⟩
    rw [if_pos h]
    simp only [Bool.and_eq_true, inB_iff] at h
    obtain ⟨a1, a2⟩ := total_nn h.1
    have := gw_wrap (a := totalW ns ls) (t := t) (by omega) a2 h.2.1 h.2.2
    exact ⟨Int.mul_nonneg a1 (by omega), this.2.2⟩
  · refine .inl ⟨by simpa using h, ?_⟩
    rw [if_neg h]
theorem hng_arith {x u s a G : Int} (x1 : -640000 ≤ x) (x2 : x ≤ 640000) (u1 : 0 ≤ u) (u2 : u ≤ 48000) (s1 : 0 ≤ s) (s2 : s ≤ 20) (a1 : 1 ≤ a) (a2 : a ≤ 40) (g1 : 0 ≤ G) (g2 : G ≤ 320000) :
    IntKind.i64.wrap (s * u) = s * u ∧ IntKind.i64.wrap (x - s * u) = x - s * u ∧ IntKind.i64.wrap (-(x - s * u)) = -(x - s * u) ∧ IntKind.i64.wrap (G * max (x - s * u) (-(x - s * u))) = G * max (x - s * u) (-(x - s * u)) ∧ IntKind.i64.wrap (u * a) = u * a ∧ 0 ≤ u * a ∧ u * a ≤ 1920000 := by
  have p1 : 0 ≤ s * u := Int.mul_nonneg s1 u1
  have p2 : s * u ≤ 20 * 48000 := Int.mul_le_mul s2 u2 u1 (by omega)
  have q1 : 0 ≤ u * a := Int.mul_nonneg u1 (by omega)
  have q2 : u * a ≤ 48000 * 40 := Int.mul_le_mul u2 a2 (by omega) (by omega)
  generalize s * u = p at *
  have r1 : 0 ≤ max (x - p) (-(x - p)) := by omega
  have r2 : max (x - p) (-(x - p)) ≤ 1600000 := by omega
  have t1 : 0 ≤ G * max (x - p) (-(x - p)) := Int.mul_nonneg g1 r1
  have t2 : G * max (x - p) (-(x - p)) ≤ 320000 * 1600000 := Int.mul_le_mul g2 r2 r1 (by omega)
  exact ⟨IntWalk.i64_in _ (by omega), IntWalk.i64_in _ (by omega), IntWalk.i64_in _ (by omega), IntWalk.i64_in _ (by omega), IntWalk.i64_in _ (by omega), q1, by omega⟩
theorem hngU_bd (ns ls : List Nd) (t s a : Int) : 0 ≤ hngU ns ls t s a ∧ hngU ns ls t s a ≤ 1920000 := by
  unfold hngU
  split
  · rename_i h
    unfold hOk at h
    simp only [Bool.and_eq_true, inB_iff] at h
    have hu := mU_bd ns ls
    have q1 : 0 ≤ mU ns ls * a := Int.mul_nonneg hu.1 (by omega)
    have q2 : mU ns ls * a ≤ 48000 * 40 := Int.mul_le_mul hu.2 h.2.2.2.2 (by omega) (by omega)
    omega
  · omega

set_option maxRecDepth 100000 in
set_option maxHeartbeats 20000000 in
theorem implHng (ns ls : List Nd) (vn vl : Value) (t s a : Int) (w : World) (hn : Prs w vn ns) (hl : Prs w vl ls) :
    Calls Tryz.prog 40 #[.agg #[vn, vl], .int .i64 t, .int .i64 s, .int .i64 a] w (TwoIs (hngF ns ls t s a) (hngU ns ls t s a) w) := by
  have HW := Lib.hid (fun w h1 h2 => implGlw ns ls vn vl t w h1 h2)
  have HM := Lib.hid (fun w h1 h2 => implMid ns ls vn vl w h1 h2)
  unfold IntIs at HW
  unfold ThreeIs at HM
  have HN := Lib.hid hn
  have HL := Lib.hid hl
  obtain ⟨A, c, rfl⟩ := prs_form2 hn
  obtain ⟨A2, c2, rfl⟩ := prs_form2 hl
  clear hn hl
  have H0 := Lib.hid (held_pair w (.slice A ns.length c) (.slice A2 ls.length c2) 32)
  have HRF := Lib.hid (show hngF ns ls t s a = if ((wholeB ns ls && inB t 1 20) && (!(mU ns ls == 0) && (inB s 0 20 && inB a 1 40))) = true then gwW ns ls t * max (mX ns ls - s * mU ns ls) (-(mX ns ls - s * mU ns ls)) else 0 from rfl)
  have HRU := Lib.hid (show hngU ns ls t s a = if ((wholeB ns ls && inB t 1 20) && (!(mU ns ls == 0) && (inB s 0 20 && inB a 1 40))) = true then mU ns ls * a else 0 from rfl)
  have HG := Lib.hid (gw_cases ns ls t)
  obtain ⟨u1, u2⟩ := mU_bd ns ls
  obtain ⟨x1, x2⟩ := mX_bd ns ls
  generalize hngF ns ls t s a = rf at *
  generalize hngU ns ls t s a = ru at *
  generalize (wholeB ns ls && inB t 1 20) = b1 at *
  generalize gwW ns ls t = G at *
  generalize mX ns ls = x at *
  generalize mY ns ls = y at *
  generalize mU ns ls = u at *
  rcases HG.out with ⟨rfl, rfl⟩ | ⟨rfl, g1, g2⟩
  · replace HRF := Lib.hid (show rf = 0 from by rw [HRF.out]; rfl)
    replace HRU := Lib.hid (show ru = 0 from by rw [HRU.out]; rfl)
    clear HG
    go_enter Tryz.func40, Tryz.ntmps40
    go_wp2_with fail
    refine (HW.out _ (HN.out.step H0.out.below) (HL.out.step H0.out.below)).mono ?_
    rintro e w1_ ⟨rfl, hb⟩
    have H1 := Lib.hid (H0.out.step hb); clear hb
    obtain ⟨x0, x1, _⟩ := H1.out.1
    go_wp2_with fail
    refine (HM.out _ (HN.out.step H1.out.below) (HL.out.step H1.out.below)).mono ?_
    rintro e w2_ ⟨rfl, hb⟩
    have H2 := Lib.hid (H1.out.step hb); clear hb x0 x1
    go_wp2_with fail
    all_goals refine bodyPost_ret (v := .tuple #[.int .i64 0, .int .i64 0]) (by simp [results, Tryz.results40, go_sem]) rfl ⟨by rw [HRF.out, HRU.out], H2.out.below⟩
  · clear HG
    by_cases hz : u = 0
    · subst hz
      replace HRF := Lib.hid (show rf = 0 from by rw [HRF.out]; rfl)
      replace HRU := Lib.hid (show ru = 0 from by rw [HRU.out]; rfl)
      go_enter Tryz.func40, Tryz.ntmps40
      go_wp2_with fail
      refine (HW.out _ (HN.out.step H0.out.below) (HL.out.step H0.out.below)).mono ?_
      rintro e w1_ ⟨rfl, hb⟩
      have H1 := Lib.hid (H0.out.step hb); clear hb
      obtain ⟨x0, x1, _⟩ := H1.out.1
      go_wp2_with fail
      refine (HM.out _ (HN.out.step H1.out.below) (HL.out.step H1.out.below)).mono ?_
      rintro e w2_ ⟨rfl, hb⟩
      have H2 := Lib.hid (H1.out.step hb); clear hb x0 x1
      go_wp2_with fail
      all_goals refine bodyPost_ret (v := .tuple #[.int .i64 0, .int .i64 0]) (by simp [results, Tryz.results40, go_sem]) rfl ⟨by rw [HRF.out, HRU.out], H2.out.below⟩
    · have hzb : (u == 0) = false := by simpa using hz
      rw [hzb] at HRF HRU
      have HZ := Lib.hid hz; clear hz
      by_cases hs : inB s 0 20 = true
      · obtain ⟨s1, s2⟩ := (inB_iff _ _ _).1 hs
        by_cases ha : inB a 1 40 = true
        · obtain ⟨a1, a2⟩ := (inB_iff _ _ _).1 ha
          obtain ⟨w1, w2, w3, w4, w5, -, -⟩ := hng_arith x1 x2 u1 u2 s1 s2 a1 a2 g1 g2
          replace HRF := Lib.hid (show rf = G * max (x - s * u) (-(x - s * u)) from by rw [HRF.out, hs, ha]; rfl)
          replace HRU := Lib.hid (show ru = u * a from by rw [HRU.out, hs, ha]; rfl)
          try rw [hs] at HS
          try rw [ha] at HA
          clear hs ha
          go_enter Tryz.func40, Tryz.ntmps40
          go_wp2_with fail
          refine (HW.out _ (HN.out.step H0.out.below) (HL.out.step H0.out.below)).mono ?_
          rintro e w1_ ⟨rfl, hb⟩
          have H1 := Lib.hid (H0.out.step hb); clear hb
          obtain ⟨x0, x1, _⟩ := H1.out.1
          go_wp2_with fail
          refine (HM.out _ (HN.out.step H1.out.below) (HL.out.step H1.out.below)).mono ?_
          rintro e w2_ ⟨rfl, hb⟩
          have H2 := Lib.hid (H1.out.step hb); clear hb x0 x1
          go_wp2_with fail
          all_goals first | (exfalso; omega) | (refine bodyPost_ret (v := .tuple #[.int .i64 (G * max (x - s * u) (-(x - s * u))), .int .i64 (u * a)]) (by simp [results, Tryz.results40, go_sem]) rfl ⟨by rw [HRF.out, HRU.out], H2.out.below⟩)
        · have ha2 : inB a 1 40 = false := by simpa using ha
          replace HRF := Lib.hid (show rf = 0 from by rw [HRF.out, hs, ha2]; rfl)
          replace HRU := Lib.hid (show ru = 0 from by rw [HRU.out, hs, ha2]; rfl)
          try rw [hs] at HS
          try rw [ha2] at HA
          by_cases a1 : a < 1
          · clear ha ha2 hs
            go_enter Tryz.func40, Tryz.ntmps40
            go_wp2_with fail
            refine (HW.out _ (HN.out.step H0.out.below) (HL.out.step H0.out.below)).mono ?_
            rintro e w1_ ⟨rfl, hb⟩
            have H1 := Lib.hid (H0.out.step hb); clear hb
            obtain ⟨x0, x1, _⟩ := H1.out.1
            go_wp2_with fail
            refine (HM.out _ (HN.out.step H1.out.below) (HL.out.step H1.out.below)).mono ?_
            rintro e w2_ ⟨rfl, hb⟩
            have H2 := Lib.hid (H1.out.step hb); clear hb x0 x1
            go_wp2_with fail
            all_goals refine bodyPost_ret (v := .tuple #[.int .i64 0, .int .i64 0]) (by simp [results, Tryz.results40, go_sem]) rfl ⟨by rw [HRF.out, HRU.out], H2.out.below⟩
          · have a2 : 40 < a := by
              have : ¬ (1 ≤ a ∧ a ≤ 40) := fun h => ha ((inB_iff _ _ _).2 h)
              omega
            clear ha ha2 hs
            go_enter Tryz.func40, Tryz.ntmps40
            go_wp2_with fail
            refine (HW.out _ (HN.out.step H0.out.below) (HL.out.step H0.out.below)).mono ?_
            rintro e w1_ ⟨rfl, hb⟩
            have H1 := Lib.hid (H0.out.step hb); clear hb
            obtain ⟨x0, x1, _⟩ := H1.out.1
            go_wp2_with fail
            refine (HM.out _ (HN.out.step H1.out.below) (HL.out.step H1.out.below)).mono ?_
            rintro e w2_ ⟨rfl, hb⟩
            have H2 := Lib.hid (H1.out.step hb); clear hb x0 x1
            go_wp2_with fail
            all_goals refine bodyPost_ret (v := .tuple #[.int .i64 0, .int .i64 0]) (by simp [results, Tryz.results40, go_sem]) rfl ⟨by rw [HRF.out, HRU.out], H2.out.below⟩
      · have hs2 : inB s 0 20 = false := by simpa using hs
        replace HRF := Lib.hid (show rf = 0 from by rw [HRF.out, hs2]; rfl)
        replace HRU := Lib.hid (show ru = 0 from by rw [HRU.out, hs2]; rfl)
        try rw [hs2] at HS
        by_cases s1 : s < 0
        · clear hs hs2
          go_enter Tryz.func40, Tryz.ntmps40
          go_wp2_with fail
          refine (HW.out _ (HN.out.step H0.out.below) (HL.out.step H0.out.below)).mono ?_
          rintro e w1_ ⟨rfl, hb⟩
          have H1 := Lib.hid (H0.out.step hb); clear hb
          obtain ⟨x0, x1, _⟩ := H1.out.1
          go_wp2_with fail
          refine (HM.out _ (HN.out.step H1.out.below) (HL.out.step H1.out.below)).mono ?_
          rintro e w2_ ⟨rfl, hb⟩
          have H2 := Lib.hid (H1.out.step hb); clear hb x0 x1
          go_wp2_with fail
          all_goals refine bodyPost_ret (v := .tuple #[.int .i64 0, .int .i64 0]) (by simp [results, Tryz.results40, go_sem]) rfl ⟨by rw [HRF.out, HRU.out], H2.out.below⟩
        · have s2 : 20 < s := by
            have : ¬ (0 ≤ s ∧ s ≤ 20) := fun h => hs ((inB_iff _ _ _).2 h)
            omega
          clear hs hs2
          go_enter Tryz.func40, Tryz.ntmps40
          go_wp2_with fail
          refine (HW.out _ (HN.out.step H0.out.below) (HL.out.step H0.out.below)).mono ?_
          rintro e w1_ ⟨rfl, hb⟩
          have H1 := Lib.hid (H0.out.step hb); clear hb
          obtain ⟨x0, x1, _⟩ := H1.out.1
          go_wp2_with fail
          refine (HM.out _ (HN.out.step H1.out.below) (HL.out.step H1.out.below)).mono ?_
          rintro e w2_ ⟨rfl, hb⟩
          have H2 := Lib.hid (H1.out.step hb); clear hb x0 x1
          go_wp2_with fail
          all_goals refine bodyPost_ret (v := .tuple #[.int .i64 0, .int .i64 0]) (by simp [results, Tryz.results40, go_sem]) rfl ⟨by rw [HRF.out, HRU.out], H2.out.below⟩

end Go.Proofs.YtfckgidilbjokaaGreat
