/-
  BearsLoad, of the program and of the model.
-/
import Derived.Test.YtnonebfdognlmabGreatLoad
namespace Go.Proofs.YtnonebfdognlmabGreat
open Go.RowKit
set_option linter.unusedVariables false
set_option linter.unusedSimpArgs false

noncomputable def bearB (ns ls : List Nd) (f p t : Int) : Bool := okL ns ls f p && (inB t 1 20 && decide (areaW ns ls f * p ≤ 500 * t * t))
theorem thick_bd {t : Int} (h : inB t 1 20 = true) : IntKind.i64.wrap (500 * t) = 500 * t ∧ IntKind.i64.wrap (500 * t * t) = 500 * t * t := by
  have ht : 1 ≤ t ∧ t ≤ 20 := by unfold inB at h; simp at h; omega
  have h1 : 0 ≤ 500 * t * t := Int.mul_nonneg (by omega) (by omega)
  have h2 : 500 * t * t ≤ 10000 * 20 := Int.mul_le_mul (by omega) (by omega) (by omega) (by omega)
  exact ⟨IntWalk.i64_in _ (by omega), IntWalk.i64_in _ (by omega)⟩
theorem implThick (p : Int) (w : World) : Calls Tryz.prog 100 #[.int .i64 p] w (BoolIs (inB p 1 20) w) := by
  by_cases h0 : 1 ≤ p
  · by_cases h1 : p ≤ 20
    · go_enter Tryz.func100, Tryz.ntmps100
      go_wp2_with fail
      go_ret
      exact ⟨ret_bool (by simp [inB, h0, h1]), Below.refl _ _⟩
    · go_enter Tryz.func100, Tryz.ntmps100
      go_wp2_with fail
      go_ret
      exact ⟨ret_bool (by simp [inB]; omega), Below.refl _ _⟩
  · go_enter Tryz.func100, Tryz.ntmps100
    go_wp2_with fail
    go_ret
    exact ⟨ret_bool (by simp [inB]; omega), Below.refl _ _⟩
theorem implGreatest (t : Int) (w : World) (h : inB t 1 20 = true) : Calls Tryz.prog 102 #[.int .i64 t] w (IntIs (500 * t * t) w) := by
  obtain ⟨h1, h2⟩ := thick_bd h
  clear h
  go_enter Tryz.func102, Tryz.ntmps102
  go_wp2_with fail
  go_ret
  exact ⟨rfl, Below.refl _ _⟩

theorem asWind (a p : Int) (w : World) : Sem.run Tryz.prog (Instr.typeAssert (.iface 109 (.agg #[.int .i64 a, .int .i64 p])) 80 109 true) w = .ok (.tuple #[.agg #[.int .i64 a, .int .i64 p], .bool true]) w := by kernel_rfl
theorem asNone (w : World) : Sem.run Tryz.prog (Instr.typeAssert (.iface 107 (.agg #[])) 80 109 true) w = .ok (.tuple #[.agg #[.int .i64 0, .int .i64 0], .bool false]) w := by kernel_rfl

set_option maxRecDepth 100000 in
theorem implBorneN (t : Int) (w : World) : Calls Tryz.prog 77 #[.iface 107 (.agg #[]), .int .i64 t] w (BoolIs false w) := by
  go_enter Tryz.func77, Tryz.ntmps77
  go_wp2_with fail
  simp only [asNone, Result.andThen_ok]
  go_wp2_with fail
  go_ret
  exact ⟨rfl, Below.refl _ _⟩

set_option maxRecDepth 100000 in
theorem implBorneW (a p t : Int) (w : World) (he : IntKind.i64.wrap (a * p) = a * p) : Calls Tryz.prog 77 #[.iface 109 (.agg #[.int .i64 a, .int .i64 p]), .int .i64 t] w (BoolIs (inB t 1 20 && decide (a * p ≤ 500 * t * t)) w) := by
  have HT := Lib.hid (implThick t)
  have HFO := Lib.hid (fun w => implForceW a p w he)
  unfold BoolIs at HT
  unfold IntIs at HFO
  clear he
  have H0 := Lib.hid ((Held.none_ w).new2 w.heap.size rfl [.int .i64 a, .int .i64 p] 109)
  by_cases ht : inB t 1 20 = true
  · have HG := Lib.hid (fun w => implGreatest t w ht)
    unfold IntIs at HG
    rw [ht] at HT ⊢
    clear ht
    generalize 500 * t * t = q at *
    generalize a * p = mp at *
    by_cases hq : mp ≤ q
    · have HR := Lib.hid (show (true && decide (mp ≤ q)) = true by simp [hq])
      generalize (true && decide (mp ≤ q)) = res at *
      go_enter Tryz.func77, Tryz.ntmps77
      go_wp2_with fail
      simp only [asWind, Result.andThen_ok]
      go_wp2_with fail
      refine (HT.out _).mono ?_
      rintro e w1 ⟨rfl, hb⟩
      have H1 := Lib.hid (H0.out.step hb); clear hb H0
      obtain ⟨x0, x1, _⟩ := H1.out.1
      go_wp2_with fail
      refine (HFO.out _).mono ?_
      rintro e w2 ⟨rfl, hb⟩
      have H2 := Lib.hid (H1.out.step hb); clear hb H1 x0 x1
      go_wp2_with fail
      refine (HG.out _).mono ?_
      rintro e w3 ⟨rfl, hb⟩
      have H3 := Lib.hid (H2.out.step hb); clear hb H2
      go_wp2_with fail
      go_ret
      exact ⟨ret_bool HR.out.symm, H3.out.below⟩
    · have HR := Lib.hid (show decide (mp ≤ q) = (true && decide (mp ≤ q)) by simp)
      generalize (true && decide (mp ≤ q)) = res at *
      go_enter Tryz.func77, Tryz.ntmps77
      go_wp2_with fail
      simp only [asWind, Result.andThen_ok]
      go_wp2_with fail
      refine (HT.out _).mono ?_
      rintro e w1 ⟨rfl, hb⟩
      have H1 := Lib.hid (H0.out.step hb); clear hb H0
      obtain ⟨x0, x1, _⟩ := H1.out.1
      go_wp2_with fail
      refine (HFO.out _).mono ?_
      rintro e w2 ⟨rfl, hb⟩
      have H2 := Lib.hid (H1.out.step hb); clear hb H1 x0 x1
      go_wp2_with fail
      refine (HG.out _).mono ?_
      rintro e w3 ⟨rfl, hb⟩
      have H3 := Lib.hid (H2.out.step hb); clear hb H2
      go_wp2_with fail
      go_ret
      exact ⟨ret_bool HR.out, H3.out.below⟩
  · rw [show inB t 1 20 = false by simpa using ht] at HT ⊢
    have HR := Lib.hid (show (false && decide (a * p ≤ 500 * t * t)) = false from rfl)
    generalize (false && decide (a * p ≤ 500 * t * t)) = res at *
    clear ht
    go_enter Tryz.func77, Tryz.ntmps77
    go_wp2_with fail
    simp only [asWind, Result.andThen_ok]
    go_wp2_with fail
    refine (HT.out _).mono ?_
    rintro e w1 ⟨rfl, hb⟩
    have H1 := Lib.hid (H0.out.step hb); clear hb H0
    go_wp2_with fail
    go_ret
    exact ⟨ret_bool HR.out.symm, H1.out.below⟩

set_option maxRecDepth 100000 in
set_option maxHeartbeats 1000000 in
theorem implBears (ns ls : List Nd) (vn vl : Value) (f p t : Int) (w : World) (hn : Prs w vn ns) (hl : Prs w vl ls) :
    Calls Tryz.prog 46 #[.agg #[vn, vl], .int .i64 f, .int .i64 p, .int .i64 t] w (BoolIs (bearB ns ls f p t) w) := by
  have HA := Lib.hid (fun v1 v2 v3 v4 B w h1 h2 h3 h4 => implLoadG ns ls v1 v2 v3 v4 B f p w h1 h2 h3 h4)
  have HB : Hid (∀ w, Calls Tryz.prog 77 #[loadV ns ls f p, .int .i64 t] w fun e w' => e = .returned (.bool (bearB ns ls f p t)) ∧ Below w.heap.size w w') := Lib.hid (fun w => by
    by_cases ho : okL ns ls f p = true
    · obtain ⟨h1, h2⟩ := okL_parts ho
      obtain ⟨a1, a2⟩ := area_nn h1
      have hp : 0 ≤ p ∧ p ≤ 1000 := by unfold inB at h2; simp at h2; omega
      obtain ⟨m1, m2⟩ := mul_bd a1 a2 hp.1 hp.2
      have := implBorneW (areaW ns ls f) p t w (IntWalk.i64_in _ (by omega))
      unfold loadV bearB
      rw [if_pos ho, ho, Bool.true_and]
      exact this
    · have := implBorneN t w
      unfold loadV bearB
      rw [if_neg ho, show okL ns ls f p = false by simpa using ho, Bool.false_and]
      exact this)
  obtain ⟨v0, hv0⟩ : ∃ v0, loadV ns ls f p = v0 := ⟨_, rfl⟩
  rw [hv0] at HA HB
  clear hv0
  have HN := Lib.hid hn
  have HL := Lib.hid hl
  have HGL := Lib.hid (fun w h1 h2 => implGlass ns ls vn vl w h1 h2)
  unfold GlassNew at HGL
  have H0 := Lib.hid (held_pair w vn vl 32)
  obtain ⟨A, c, rfl⟩ := prs_form2 hn
  obtain ⟨A2, c2, rfl⟩ := prs_form2 hl
  clear hn hl
  generalize bearB ns ls f p t = res at *
  generalize gN ns ls = ns' at *
  generalize gL ns ls = ls' at *
  generalize gA ns ls = ds at *
  generalize wF ns ls = rs at *
  generalize wholeB ns ls = ok at *
  go_enter Tryz.func46, Tryz.ntmps46
  go_wp2_with fail
  refine (HGL.out _ (HN.out.step H0.out.below) (HL.out.step H0.out.below)).mono ?_
  rintro e w1 ⟨v1, v2, v3, v4, rfl, g1, g2, g3, g4, hb⟩
  have H1 := Lib.hid (H0.out.step hb)
  have G0 := Lib.hid (heldG w1 v1 v2 v3 v4 66)
  have B1 := Lib.hid (H1.out.below.trans (G0.out.below.mono H1.out.below.size))
  have G1 := Lib.hid (g1.step G0.out.below)
  have G2 := Lib.hid (g2.step G0.out.below)
  have G3 := Lib.hid (g3.step G0.out.below)
  have G4 := Lib.hid (g4.step G0.out.below)
  obtain ⟨A5, c5, rfl⟩ := prs_form2 g1
  obtain ⟨A6, c6, rfl⟩ := prs_form2 g2
  obtain ⟨A7, c7, rfl⟩ := faces_form g3
  obtain ⟨A8, c8, rfl⟩ := ints_form g4
  clear hb g1 g2 g3 g4
  obtain ⟨x0, x1, _⟩ := H1.out.1
  obtain ⟨y0, y1, y2, y3, _⟩ := G0.out.1
  go_wp2_with fail
  refine (HA.out _ _ _ _ _ _ G1.out G2.out G3.out G4.out).mono ?_
  rintro e w2 ⟨rfl, hb⟩
  have B2 := Lib.hid (B1.out.trans (hb.mono B1.out.size)); clear hb x0 x1 y0 y1 y2 y3
  go_wp2_with fail
  refine (HB.out _).mono ?_
  rintro e w3 ⟨rfl, hb⟩
  have B3 := Lib.hid (B2.out.trans (hb.mono B2.out.size)); clear hb
  go_wp2_with fail
  go_ret
  exact ⟨ret_bool rfl, B3.out⟩

set_option maxRecDepth 100000 in
set_option maxHeartbeats 1000000 in
theorem specBears (ns ls : List Nd) (vn vl : Value) (f p t : Int) (w : World) (hn : Prs w vn ns) (hl : Prs w vl ls) :
    Calls Tryz.prog 45 #[.agg #[vn, vl], .int .i64 f, .int .i64 p, .int .i64 t] w (BoolIs (bearB ns ls f p t) w) := by
  have HN := Lib.hid hn
  have HL := Lib.hid hl
  have HA := Lib.hid (fun w h1 h2 => specLoadOn ns ls vn vl f p w h1 h2)
  unfold IntIs at HA
  have HIN := Lib.hid (fun w => specIn t 1 20 w)
  have H0 := Lib.hid (held_pair w vn vl 32)
  obtain ⟨A, c, rfl⟩ := prs_form2 hn
  obtain ⟨A2, c2, rfl⟩ := prs_form2 hl
  clear hn hl
  by_cases ho : okL ns ls f p = true
  · obtain ⟨h1, h2⟩ := okL_parts ho
    obtain ⟨a1, a2⟩ := area_nn h1
    have hp : 0 ≤ p ∧ p ≤ 1000 := by unfold inB at h2; simp at h2; omega
    obtain ⟨m1, m2⟩ := mul_bd a1 a2 hp.1 hp.2
    have HR := Lib.hid (show bearB ns ls f p t = (inB t 1 20 && decide (areaW ns ls f * p ≤ 500 * t * t)) from by unfold bearB; rw [ho, Bool.true_and])
    rw [show loadW ns ls f p = areaW ns ls f * p from if_pos ho] at HA
    clear ho h1 h2 a1 a2 hp m2
    generalize bearB ns ls f p t = res at *
    generalize areaW ns ls f * p = mp at *
    by_cases ht : inB t 1 20 = true
    · obtain ⟨t1, t2⟩ := thick_bd ht
      rw [ht] at HIN HR
      clear ht
      by_cases hq : mp ≤ 500 * t * t
      · have HX := Lib.hid (show res = true by rw [HR.out]; simp [hq])
        go_enter Tryz.func45, Tryz.ntmps45
        go_wp2_with fail
        refine (HA.out _ (HN.out.step H0.out.below) (HL.out.step H0.out.below)).mono ?_
        rintro e w1 ⟨rfl, hb⟩
        have H1 := Lib.hid (H0.out.step hb); clear hb H0
        go_wp2_with fail
        refine (HIN.out _).mono ?_
        rintro e w2 ⟨rfl, rfl⟩
        go_wp2_with fail
        go_ret
        exact ⟨ret_bool HX.out.symm, H1.out.below⟩
      · have HX := Lib.hid (show decide (mp ≤ 500 * t * t) = res by rw [HR.out]; simp)
        go_enter Tryz.func45, Tryz.ntmps45
        go_wp2_with fail
        refine (HA.out _ (HN.out.step H0.out.below) (HL.out.step H0.out.below)).mono ?_
        rintro e w1 ⟨rfl, hb⟩
        have H1 := Lib.hid (H0.out.step hb); clear hb H0
        go_wp2_with fail
        refine (HIN.out _).mono ?_
        rintro e w2 ⟨rfl, rfl⟩
        go_wp2_with fail
        go_ret
        exact ⟨ret_bool HX.out, H1.out.below⟩
    · rw [show inB t 1 20 = false by simpa using ht] at HIN HR
      have HX := Lib.hid (show res = false by rw [HR.out]; rfl)
      clear ht
      go_enter Tryz.func45, Tryz.ntmps45
      go_wp2_with fail
      refine (HA.out _ (HN.out.step H0.out.below) (HL.out.step H0.out.below)).mono ?_
      rintro e w1 ⟨rfl, hb⟩
      have H1 := Lib.hid (H0.out.step hb); clear hb H0
      go_wp2_with fail
      refine (HIN.out _).mono ?_
      rintro e w2 ⟨rfl, rfl⟩
      go_wp2_with fail
      go_ret
      exact ⟨ret_bool HX.out.symm, H1.out.below⟩
  · have HX := Lib.hid (show bearB ns ls f p t = false from by unfold bearB; rw [show okL ns ls f p = false by simpa using ho, Bool.false_and])
    rw [show loadW ns ls f p = -1 from if_neg ho] at HA
    clear ho HIN
    generalize bearB ns ls f p t = res at *
    go_enter Tryz.func45, Tryz.ntmps45
    go_wp2_with fail
    refine (HA.out _ (HN.out.step H0.out.below) (HL.out.step H0.out.below)).mono ?_
    rintro e w1 ⟨rfl, hb⟩
    have H1 := Lib.hid (H0.out.step hb); clear hb H0
    go_wp2_with fail
    go_ret
    exact ⟨ret_bool HX.out.symm, H1.out.below⟩
end Go.Proofs.YtnonebfdognlmabGreat
