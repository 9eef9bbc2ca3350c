/-
  The weight of the glass, of the model and of the program.
-/
import Derived.Test.YtfckgidilbjokaaGreatBear
namespace Go.Proofs.YtfckgidilbjokaaGreat
open Go.RowKit
set_option linter.unusedVariables false
set_option linter.unusedSimpArgs false

noncomputable def gwW (ns ls : List Nd) (t : Int) : Int := if wholeB ns ls && inB t 1 20 then totalW ns ls * t else -1
theorem total_bd (ns ls : List Nd) : -1 ≤ totalW ns ls ∧ totalW ns ls ≤ 16000 := by
  unfold totalW
  by_cases h : idxB (wF ns ls).length (outW ns ls) = true
  · have := area_nn h
    omega
  · rw [g_noarea (by simpa using h)]
    omega
theorem gw_wrap {a t : Int} (h1 : -1 ≤ a) (h2 : a ≤ 16000) (h3 : 1 ≤ t) (h4 : t ≤ 20) : IntKind.i64.wrap (a * t) = a * t ∧ -20 ≤ a * t ∧ a * t ≤ 320000 := by
  have p1 : (a + 1) * t ≤ 16001 * 20 := Int.mul_le_mul (by omega) h4 (by omega) (by omega)
  have p2 : 0 ≤ (a + 1) * t := Int.mul_nonneg (by omega) (by omega)
  have e : (a + 1) * t = a * t + t := by rw [Int.add_mul, Int.one_mul]
  have e2 : -20 ≤ a * t ∧ a * t ≤ 320000 := by
    have q : a * t ≤ 16000 * t := Int.mul_le_mul_of_nonneg_right h2 (by omega)
    omega
  exact ⟨IntWalk.i64_in _ (by omega), e2⟩

set_option maxRecDepth 100000 in
theorem implGlw (ns ls : List Nd) (vn vl : Value) (t : Int) (w : World) (hn : Prs w vn ns) (hl : Prs w vl ls) :
    Calls Tryz.prog 38 #[.agg #[vn, vl], .int .i64 t] w (IntIs (gwW ns ls t) w) := by
  have HA := Lib.hid (fun w h1 h2 => implWhole ns ls vn vl w h1 h2)
  have HB := Lib.hid (implThick t)
  have HC := Lib.hid (fun w h1 h2 => implTotal ns ls vn vl w h1 h2)
  have HN := Lib.hid hn
  have HL := Lib.hid hl
  obtain ⟨A, c, rfl⟩ := prs_form2 hn
  obtain ⟨A2, c2, rfl⟩ := prs_form2 hl
  clear hn hl
  have HR := Lib.hid (show gwW ns ls t = if wholeB ns ls && inB t 1 20 then totalW ns ls * t else -1 from rfl)
  have H0 := Lib.hid (held_pair w (.slice A ns.length c) (.slice A2 ls.length c2) 32)
  have hbd := total_bd ns ls
  have HT := Lib.hid (fun (h : inB t 1 20 = true) => gw_wrap hbd.1 hbd.2 ((inB_iff _ _ _).1 h).1 ((inB_iff _ _ _).1 h).2)
  generalize gwW ns ls t = r at *
  generalize totalW ns ls = a at *
  generalize wholeB ns ls = b1 at *
  generalize inB t 1 20 = b2 at *
  by_cases hb : (b1 && b2) = true
  · obtain ⟨rfl, rfl⟩ : b1 = true ∧ b2 = true := by simpa [Bool.and_eq_true] using hb
    clear hb
    have hw := (HT.out rfl).1
    go_enter Tryz.func38, Tryz.ntmps38
    go_wp2_with fail
    repeat' (first | ((first | (with_reducible refine (HA.out _ (HN.out.step H0.out.below) (HL.out.step H0.out.below)).mono ?_) | (with_reducible refine (HB.out _).mono ?_) | (with_reducible refine (HC.out _ (HN.out.step H0.out.below) (HL.out.step H0.out.below)).mono ?_) | fail); rintro e wn ⟨rfl, hb⟩; have H0 := Lib.hid (H0.out.step hb); clear hb; (try clear x0 x1); obtain ⟨x0, x1, _⟩ := H0.out.1; go_wp2_with fail) | fail)
    go_ret
    exact ⟨ret_int (by rw [HR.out]; rfl), H0.out.below⟩
  · have HQ := Lib.hid hb; clear hb
    cases b1 <;> cases b2
    all_goals first | (exact absurd (by rfl) HQ.out) | skip
    all_goals
      go_enter Tryz.func38, Tryz.ntmps38
      go_wp2_with fail
      repeat' (first | ((first | (with_reducible refine (HA.out _ (HN.out.step H0.out.below) (HL.out.step H0.out.below)).mono ?_) | (with_reducible refine (HB.out _).mono ?_) | (with_reducible refine (HC.out _ (HN.out.step H0.out.below) (HL.out.step H0.out.below)).mono ?_) | fail); rintro e wn ⟨rfl, hb⟩; have H0 := Lib.hid (H0.out.step hb); clear hb; (try clear x0 x1); obtain ⟨x0, x1, _⟩ := H0.out.1; go_wp2_with fail) | fail)
      go_ret
      exact ⟨ret_int (by rw [HR.out]; simp), H0.out.below⟩

set_option maxRecDepth 100000 in
theorem specGlw (ns ls : List Nd) (vn vl : Value) (t : Int) (w : World) (hn : Prs w vn ns) (hl : Prs w vl ls) :
    Calls Tryz.prog 37 #[.agg #[vn, vl], .int .i64 t] w (IntIs (gwW ns ls t) w) := by
  have HA := Lib.hid (fun w h1 h2 => specWhole ns ls vn vl w h1 h2)
  have HB := Lib.hid (specInB t 1 20)
  have HC := Lib.hid (fun w h1 h2 => specTotal ns ls vn vl w h1 h2)
  have HN := Lib.hid hn
  have HL := Lib.hid hl
  obtain ⟨A, c, rfl⟩ := prs_form2 hn
  obtain ⟨A2, c2, rfl⟩ := prs_form2 hl
  clear hn hl
  have HR := Lib.hid (show gwW ns ls t = if wholeB ns ls && inB t 1 20 then totalW ns ls * t else -1 from rfl)
  have H0 := Lib.hid (held_pair w (.slice A ns.length c) (.slice A2 ls.length c2) 32)
  have hbd := total_bd ns ls
  have HT := Lib.hid (fun (h : inB t 1 20 = true) => gw_wrap hbd.1 hbd.2 ((inB_iff _ _ _).1 h).1 ((inB_iff _ _ _).1 h).2)
  generalize gwW ns ls t = r at *
  generalize totalW ns ls = a at *
  generalize wholeB ns ls = b1 at *
  generalize inB t 1 20 = b2 at *
  by_cases hb : (b1 && b2) = true
  · obtain ⟨rfl, rfl⟩ : b1 = true ∧ b2 = true := by simpa [Bool.and_eq_true] using hb
    clear hb
    have hw := (HT.out rfl).1
    go_enter Tryz.func37, Tryz.ntmps37
    go_wp2_with fail
    repeat' (first | ((first | (with_reducible refine (HA.out _ (HN.out.step H0.out.below) (HL.out.step H0.out.below)).mono ?_) | (with_reducible refine (HB.out _).mono ?_) | (with_reducible refine (HC.out _ (HN.out.step H0.out.below) (HL.out.step H0.out.below)).mono ?_) | fail); rintro e wn ⟨rfl, hb⟩; have H0 := Lib.hid (H0.out.step hb); clear hb; (try clear x0 x1); obtain ⟨x0, x1, _⟩ := H0.out.1; go_wp2_with fail) | fail)
    go_ret
    exact ⟨ret_int (by rw [HR.out]; rfl), H0.out.below⟩
  · have HQ := Lib.hid hb; clear hb
    cases b1 <;> cases b2
    all_goals first | (exact absurd (by rfl) HQ.out) | skip
    all_goals
      go_enter Tryz.func37, Tryz.ntmps37
      go_wp2_with fail
      repeat' (first | ((first | (with_reducible refine (HA.out _ (HN.out.step H0.out.below) (HL.out.step H0.out.below)).mono ?_) | (with_reducible refine (HB.out _).mono ?_) | (with_reducible refine (HC.out _ (HN.out.step H0.out.below) (HL.out.step H0.out.below)).mono ?_) | fail); rintro e wn ⟨rfl, hb⟩; have H0 := Lib.hid (H0.out.step hb); clear hb; (try clear x0 x1); obtain ⟨x0, x1, _⟩ := H0.out.1; go_wp2_with fail) | fail)
      go_ret
      exact ⟨ret_int (by rw [HR.out]; simp), H0.out.below⟩
end Go.Proofs.YtfckgidilbjokaaGreat
