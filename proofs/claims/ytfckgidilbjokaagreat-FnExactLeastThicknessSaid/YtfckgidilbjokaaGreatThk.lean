/-
  The least thickness, of the program and of the model.
-/
import Derived.Test.YtfckgidilbjokaaGreatBear
namespace Go.Proofs.YtfckgidilbjokaaGreat
open Go.RowKit
set_option linter.unusedVariables false
set_option linter.unusedSimpArgs false

noncomputable def thkP (ns ls : List Nd) (f p : Int) (k : Nat) : Bool := decide (1 ≤ k) && bearB ns ls f p k
noncomputable def thkW (ns ls : List Nd) (f p : Int) : Int := firstI (thkP ns ls f p) 21

set_option maxRecDepth 100000 in
set_option maxHeartbeats 1000000 in
theorem implThkW (ns ls : List Nd) (vn vl : Value) (f p : Int) (w : World) (hn : Prs w vn ns) (hl : Prs w vl ls) :
    Calls Tryz.prog 34 #[.agg #[vn, vl], .int .i64 f, .int .i64 p] w (IntIs (thkW ns ls f p) w) := by
  have HA := Lib.hid (fun v1 v2 v3 v4 B w h1 h2 h3 h4 => implLoadG ns ls v1 v2 v3 v4 B f p w h1 h2 h3 h4)
  have HB : Hid (∀ t w, Calls Tryz.prog 70 #[loadV ns ls f p, .int .i64 t] w fun e w' => e = .returned (.bool (bearB ns ls f p t)) ∧ Below w.heap.size w w') := Lib.hid (fun t w => by
    by_cases ho : okL ns ls f p = true
    · obtain ⟨h1, h2⟩ := okL_parts ho
      obtain ⟨a1, a2⟩ := area_nn h1
      have hp : 0 ≤ p ∧ p ≤ 1000 := by unfold inB at h2; simp at h2; omega
      obtain ⟨m1, m2⟩ := mul_bd a1 a2 hp.1 hp.2
      have := implBorneW (areaW ns ls f) p t w (IntWalk.i64_in _ (by omega))
      unfold loadV bearB
      rw [if_pos ho, ho, Bool.true_and]
      exact this
    · have := implBorneN t w
      unfold loadV bearB
      rw [if_neg ho, show okL ns ls f p = false by simpa using ho, Bool.false_and]
      exact this)
  have HR := Lib.hid (show thkW ns ls f p = firstI (fun k : Nat => decide (1 ≤ k) && bearB ns ls f p k) 21 from rfl)
  obtain ⟨v0, hv0⟩ : ∃ v0, loadV ns ls f p = v0 := ⟨_, rfl⟩
  rw [hv0] at HA HB
  clear hv0
  have HN := Lib.hid hn
  have HL := Lib.hid hl
  have HGL := Lib.hid (fun w h1 h2 => implGlass ns ls vn vl w h1 h2)
  unfold GlassNew at HGL
  have H0 := Lib.hid (held_pair w vn vl 32)
  obtain ⟨A, c, rfl⟩ := prs_form2 hn
  obtain ⟨A2, c2, rfl⟩ := prs_form2 hl
  clear hn hl
  generalize thkW ns ls f p = res at *
  generalize bearB ns ls f p = P at *
  generalize gN ns ls = ns' at *
  generalize gL ns ls = ls' at *
  generalize gA ns ls = ds at *
  generalize wF ns ls = rs at *
  generalize wholeB ns ls = ok at *
  go_enter Tryz.func34, Tryz.ntmps34
  go_wp2_with fail
  refine (HGL.out _ (HN.out.step H0.out.below) (HL.out.step H0.out.below)).mono ?_
  rintro e w1 ⟨v1, v2, v3, v4, rfl, g1, g2, g3, g4, hb⟩
  have H1 := Lib.hid (H0.out.step hb)
  have G0 := Lib.hid (heldG w1 v1 v2 v3 v4 72)
  have B1 := Lib.hid (H1.out.below.trans (G0.out.below.mono H1.out.below.size))
  have G1 := Lib.hid (g1.step G0.out.below)
  have G2 := Lib.hid (g2.step G0.out.below)
  have G3 := Lib.hid (g3.step G0.out.below)
  have G4 := Lib.hid (g4.step G0.out.below)
  obtain ⟨A5, c5, rfl⟩ := prs_form2 g1
  obtain ⟨A6, c6, rfl⟩ := prs_form2 g2
  obtain ⟨A7, c7, rfl⟩ := faces_form g3
  obtain ⟨A8, c8, rfl⟩ := ints_form g4
  have S0 := Lib.hid (Held.start G0.out.1 G0.out.2.1)
  clear hb g1 g2 g3 g4
  obtain ⟨x0, x1, _⟩ := H1.out.1
  obtain ⟨y0, y1, y2, y3, _⟩ := G0.out.1
  go_wp2_with fail
  clear x0 x1 y0 y1 y2 y3 H0 HGL
  generalize w1.alloc (.cells #[.slice A5 ns'.length c5, .slice A6 ls'.length c6, .slice A7 rs.length c7, .slice A8 ds.length c8] 72) = W at *
  go_loopw [9] (fun i wr => ∃ k : Nat, 1 ≤ k ∧ k ≤ 21 ∧ i = .int .i64 k ∧ (∀ j : Nat, 1 ≤ j → j < k → P j = false) ∧ Held W wr [(w1.heap.size, 0, .slice A5 ns'.length c5), (w1.heap.size, 1, .slice A6 ls'.length c6), (w1.heap.size, 2, .slice A7 rs.length c7), (w1.heap.size, 3, .slice A8 ds.length c8)]) (fun i _ => 21 - (intOf i).toNat)
  case atStart => exact ⟨1, by omega, by omega, rfl, fun j h1 h2 => by omega, S0.out⟩
  case round =>
    clear S0 G0
    obtain ⟨k, hk1, hk, rfl, hno, hh⟩ := hrel
    have HNO := Lib.hid hno; clear hno
    have H2 := Lib.hid hh; clear hh
    obtain ⟨x0, x1, x2, x3, _⟩ := H2.out.1
    by_cases hlt : k < 21
    · have q0 : (1 : Int) ≤ k := by omega
      have q1 : (k : Int) ≤ 20 := by omega
      have HBk := Lib.hid (HB.out k)
      obtain ⟨b, hb⟩ : ∃ b, P k = b := ⟨_, rfl⟩
      rw [hb] at HBk
      have HPK := Lib.hid hb; clear hb
      go_wp2_with fail
      refine (HA.out _ _ _ _ _ _ (G1.out.step H2.out.below) (G2.out.step H2.out.below) (G3.out.step H2.out.below) (G4.out.step H2.out.below)).mono ?_
      rintro e w2 ⟨rfl, hb⟩
      have H3 := Lib.hid (H2.out.step hb); clear hb x0 x1 x2 x3
      go_wp2_with fail
      refine (HBk.out _).mono ?_
      rintro e w3 ⟨rfl, hb⟩
      have H4 := Lib.hid (H3.out.step hb); clear hb
      cases b
      · go_wp2_with fail
        exact ⟨⟨k + 1, by omega, by omega, by go_num, fun j h1 h2 => by
          by_cases e : j = k
          · rw [e]; exact HPK.out
          · exact HNO.out j h1 (by omega), H4.out⟩, by simp [intOf]; omega⟩
      · go_wp2_with fail
        go_ret
        exact ⟨ret_int (by
          rw [HR.out]
          exact (firstI_at (m := k) (fun j hj => by
            by_cases h1 : 1 ≤ j
            · simp [HNO.out j h1 hj]
            · simp [h1]) (by simp [hk1, HPK.out]) 21 hlt).symm), B1.out.trans (H4.out.below.mono B1.out.size)⟩
    · obtain rfl : k = 21 := by omega
      go_wp2_with fail
      go_ret
      exact ⟨ret_int (by
        rw [HR.out]
        exact (firstI_none 21 (fun j hj => by
          by_cases h1 : 1 ≤ j
          · simp [HNO.out j h1 hj]
          · simp [h1])).symm), B1.out.trans (H2.out.below.mono B1.out.size)⟩

set_option maxRecDepth 100000 in
set_option maxHeartbeats 1000000 in
theorem specThkW (ns ls : List Nd) (vn vl : Value) (f p : Int) (w : World) (hn : Prs w vn ns) (hl : Prs w vl ls) :
    Calls Tryz.prog 33 #[.agg #[vn, vl], .int .i64 f, .int .i64 p] w (IntIs (thkW ns ls f p) w) := by
  have HN := Lib.hid hn
  have HL := Lib.hid hl
  have HA := Lib.hid (fun w h1 h2 => specLoadOn ns ls vn vl f p w h1 h2)
  unfold IntIs at HA
  have H0 := Lib.hid (held_pair w vn vl 32)
  obtain ⟨A, c, rfl⟩ := prs_form2 hn
  obtain ⟨A2, c2, rfl⟩ := prs_form2 hl
  clear hn hl
  have HR := Lib.hid (show thkW ns ls f p = firstI (fun k : Nat => decide (1 ≤ k) && bearB ns ls f p k) 21 from rfl)
  by_cases ho : okL ns ls f p = true
  · obtain ⟨h1, h2⟩ := okL_parts ho
    obtain ⟨a1, a2⟩ := area_nn h1
    have hp : 0 ≤ p ∧ p ≤ 1000 := by unfold inB at h2; simp at h2; omega
    obtain ⟨m1, m2⟩ := mul_bd a1 a2 hp.1 hp.2
    rw [show loadW ns ls f p = areaW ns ls f * p from if_pos ho] at HA
    have HP := Lib.hid (fun (k : Nat) (hk1 : 1 ≤ k) (hk : k < 21) => (show bearB ns ls f p k = decide (areaW ns ls f * p ≤ 500 * (k : Int) * k) from by
      unfold bearB
      rw [ho, Bool.true_and, show inB (k : Int) 1 20 = true from (inB_iff _ _ _).2 (by omega), Bool.true_and]))
    have HTB := Lib.hid (fun (k : Nat) (hk1 : 1 ≤ k) (hk : k < 21) => thick_bd (t := (k : Int)) ((inB_iff _ _ _).2 (by omega)))
    clear ho h1 h2 a1 a2 hp m2
    generalize thkW ns ls f p = res at *
    generalize bearB ns ls f p = P at *
    generalize areaW ns ls f * p = mp at *
    go_enter Tryz.func33, Tryz.ntmps33
    go_wp2_with fail
    refine (HA.out _ (HN.out.step H0.out.below) (HL.out.step H0.out.below)).mono ?_
    rintro e w1 ⟨rfl, hb⟩
    have H1 := Lib.hid (H0.out.step hb); clear hb H0
    go_wp2_with fail
    go_loopw [8] (fun i wr => ∃ k : Nat, 1 ≤ k ∧ k ≤ 21 ∧ i = .int .i64 k ∧ (∀ j : Nat, 1 ≤ j → j < k → P j = false) ∧ wr = w1) (fun i _ => 21 - (intOf i).toNat)
    case atStart => exact ⟨1, by omega, by omega, rfl, fun j h1 h2 => by omega, rfl⟩
    case round =>
      obtain ⟨k, hk1, hk, rfl, hno, rfl⟩ := hrel
      have HNO := Lib.hid hno; clear hno
      by_cases hlt : k < 21
      · have q0 : (1 : Int) ≤ k := by omega
        have q1 : (k : Int) ≤ 20 := by omega
        obtain ⟨t1, t2⟩ := HTB.out k hk1 hlt
        have HPK := Lib.hid (HP.out k hk1 hlt)
        by_cases hq : mp ≤ 500 * (k : Int) * k
        · have HPT := Lib.hid (show P k = true from by rw [HPK.out]; exact decide_eq_true hq)
          go_wp2_with fail
          go_ret
          exact ⟨ret_int (by
            rw [HR.out]
            exact (firstI_at (m := k) (fun j hj => by
              by_cases h1 : 1 ≤ j
              · simp [HNO.out j h1 hj]
              · simp [h1]) (by simp [hk1, HPT.out]) 21 hlt).symm), H1.out.below⟩
        · have HPF := Lib.hid (show P k = false from by rw [HPK.out]; exact decide_eq_false hq)
          go_wp2_with fail
          exact ⟨⟨k + 1, by omega, by omega, by go_num, fun j h1 h2 => by
            by_cases e : j = k
            · rw [e]; exact HPF.out
            · exact HNO.out j h1 (by omega), trivial⟩, by simp [intOf]; omega⟩
      · obtain rfl : k = 21 := by omega
        go_wp2_with fail
        go_ret
        exact ⟨ret_int (by
          rw [HR.out]
          exact (firstI_none 21 (fun j hj => by
            by_cases h1 : 1 ≤ j
            · simp [HNO.out j h1 hj]
            · simp [h1])).symm), H1.out.below⟩
  · rw [show loadW ns ls f p = -1 from if_neg ho] at HA
    have HX := Lib.hid (show thkW ns ls f p = -1 from by
      rw [HR.out]
      exact firstI_none 21 fun j hj => by
        unfold bearB
        rw [show okL ns ls f p = false by simpa using ho]
        simp)
    clear ho HR
    generalize thkW ns ls f p = res at *
    go_enter Tryz.func33, Tryz.ntmps33
    go_wp2_with fail
    refine (HA.out _ (HN.out.step H0.out.below) (HL.out.step H0.out.below)).mono ?_
    rintro e w1 ⟨rfl, hb⟩
    have H1 := Lib.hid (H0.out.step hb); clear hb H0
    go_wp2_with fail
    go_loopw [8] (fun i wr => i = .int .i64 1 ∧ wr = w1) (fun i _ => 0)
    case atStart => exact ⟨rfl, rfl⟩
    case round =>
      obtain ⟨rfl, rfl⟩ := hrel
      go_wp2_with fail
      go_ret
      exact ⟨ret_int HX.out.symm, H1.out.below⟩
end Go.Proofs.YtfckgidilbjokaaGreat
