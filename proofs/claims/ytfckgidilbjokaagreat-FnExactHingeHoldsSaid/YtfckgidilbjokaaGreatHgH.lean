/-
  Whether the hinges hold, of the program and of the model.
-/
import Derived.Test.YtfckgidilbjokaaGreatHngS
namespace Go.Proofs.YtfckgidilbjokaaGreat
open Go.RowKit
set_option linter.unusedVariables false
set_option linter.unusedSimpArgs false

set_option maxRecDepth 100000 in
set_option maxHeartbeats 2000000 in
theorem implHgHold (ns ls : List Nd) (vn vl : Value) (t s a l : Int) (w : World) (hn : Prs w vn ns) (hl : Prs w vl ls) :
    Calls Tryz.prog 42 #[.agg #[vn, vl], .int .i64 t, .int .i64 s, .int .i64 a, .int .i64 l] w (BoolIs (hngB ns ls t s a l) w) := by
  have HH := Lib.hid (fun w h1 h2 => implHng ns ls vn vl t s a w h1 h2)
  have HIN := Lib.hid (fun (w : World) => True.intro)
  unfold TwoIs at HH
  have HN := Lib.hid hn
  have HL := Lib.hid hl
  obtain ⟨A, c, rfl⟩ := prs_form2 hn
  obtain ⟨A2, c2, rfl⟩ := prs_form2 hl
  clear hn hl
  have H0 := Lib.hid (held_pair w (.slice A ns.length c) (.slice A2 ls.length c2) 32)
  have HR := Lib.hid (show hngB ns ls t s a l = (decide (0 < hngU ns ls t s a) && (inB l 0 1000000 && decide (hngF ns ls t s a ≤ l * hngU ns ls t s a))) from rfl)
  obtain ⟨u1, u2⟩ := hngU_bd ns ls t s a
  generalize hngB ns ls t s a l = res at *
  generalize hngU ns ls t s a = u at *
  generalize hngF ns ls t s a = f at *
  by_cases hu : 0 < u
  · have hub : (u == 0) = false := by simp; omega
    by_cases hlb : inB l 0 1000000 = true
    · obtain ⟨l1, l2⟩ := (inB_iff _ _ _).1 hlb
      have p1 : 0 ≤ l * u := Int.mul_nonneg l1 u1
      have p2 : l * u ≤ 1000000 * 1920000 := Int.mul_le_mul l2 u2 u1 (by omega)
      have hw : IntKind.i64.wrap (l * u) = l * u := IntWalk.i64_in _ (by omega)
      try rw [hlb] at HIN
      replace HR := Lib.hid (show res = decide (f ≤ l * u) from by rw [HR.out, decide_eq_true hu, hlb]; rfl)
      clear hlb
      by_cases hf : f ≤ l * u
      · replace HR := Lib.hid (show res = true from by rw [HR.out]; exact decide_eq_true hf)
        go_enter Tryz.func42, Tryz.ntmps42
        go_wp2_with fail
        refine (HH.out _ (HN.out.step H0.out.below) (HL.out.step H0.out.below)).mono ?_
        rintro e w1_ ⟨rfl, hb⟩
        have H1 := Lib.hid (H0.out.step hb); clear hb
        go_wp2_with fail
        all_goals first | (exfalso; omega) | (have hx : _ := HR.out; subst hx; go_ret; exact ⟨ret_bool rfl, H1.out.below⟩) | (have hx : decide (f ≤ l * u) = false := decide_eq_false (by omega); go_ret; exact ⟨ret_bool (hx.trans HR.out.symm), H1.out.below⟩) | (have hx : decide (f ≤ l * u) = true := decide_eq_true (by omega); go_ret; exact ⟨ret_bool (hx.trans HR.out.symm), H1.out.below⟩) | fail
      · replace HR := Lib.hid (show res = false from by rw [HR.out]; exact decide_eq_false hf)
        go_enter Tryz.func42, Tryz.ntmps42
        go_wp2_with fail
        refine (HH.out _ (HN.out.step H0.out.below) (HL.out.step H0.out.below)).mono ?_
        rintro e w1_ ⟨rfl, hb⟩
        have H1 := Lib.hid (H0.out.step hb); clear hb
        go_wp2_with fail
        all_goals first | (exfalso; omega) | (have hx : _ := HR.out; subst hx; go_ret; exact ⟨ret_bool rfl, H1.out.below⟩) | (have hx : decide (f ≤ l * u) = false := decide_eq_false (by omega); go_ret; exact ⟨ret_bool (hx.trans HR.out.symm), H1.out.below⟩) | (have hx : decide (f ≤ l * u) = true := decide_eq_true (by omega); go_ret; exact ⟨ret_bool (hx.trans HR.out.symm), H1.out.below⟩) | fail
    · have hlb2 : inB l 0 1000000 = false := by simpa using hlb
      try rw [hlb2] at HIN
      replace HR := Lib.hid (show res = false from by rw [HR.out, hlb2]; simp)
      by_cases l1 : l < 0
      · clear hlb hlb2
        go_enter Tryz.func42, Tryz.ntmps42
        go_wp2_with fail
        refine (HH.out _ (HN.out.step H0.out.below) (HL.out.step H0.out.below)).mono ?_
        rintro e w1_ ⟨rfl, hb⟩
        have H1 := Lib.hid (H0.out.step hb); clear hb
        go_wp2_with fail
        all_goals first | (exfalso; omega) | (have hx : _ := HR.out; subst hx; go_ret; exact ⟨ret_bool rfl, H1.out.below⟩) | (have hx : decide (f ≤ l * u) = false := decide_eq_false (by omega); go_ret; exact ⟨ret_bool (hx.trans HR.out.symm), H1.out.below⟩) | (have hx : decide (f ≤ l * u) = true := decide_eq_true (by omega); go_ret; exact ⟨ret_bool (hx.trans HR.out.symm), H1.out.below⟩) | fail
      · have l2 : 1000000 < l := by
          have : ¬ (0 ≤ l ∧ l ≤ 1000000) := fun h => hlb ((inB_iff _ _ _).2 h)
          omega
        clear hlb hlb2
        go_enter Tryz.func42, Tryz.ntmps42
        go_wp2_with fail
        refine (HH.out _ (HN.out.step H0.out.below) (HL.out.step H0.out.below)).mono ?_
        rintro e w1_ ⟨rfl, hb⟩
        have H1 := Lib.hid (H0.out.step hb); clear hb
        go_wp2_with fail
        all_goals first | (exfalso; omega) | (have hx : _ := HR.out; subst hx; go_ret; exact ⟨ret_bool rfl, H1.out.below⟩) | (have hx : decide (f ≤ l * u) = false := decide_eq_false (by omega); go_ret; exact ⟨ret_bool (hx.trans HR.out.symm), H1.out.below⟩) | (have hx : decide (f ≤ l * u) = true := decide_eq_true (by omega); go_ret; exact ⟨ret_bool (hx.trans HR.out.symm), H1.out.below⟩) | fail
  · obtain rfl : u = 0 := by omega
    replace HR := Lib.hid (show res = false from by rw [HR.out]; rfl)
    clear HIN
    have HIN := Lib.hid (fun (w : World) => True.intro)
    go_enter Tryz.func42, Tryz.ntmps42
    go_wp2_with fail
    refine (HH.out _ (HN.out.step H0.out.below) (HL.out.step H0.out.below)).mono ?_
    rintro e w1_ ⟨rfl, hb⟩
    have H1 := Lib.hid (H0.out.step hb); clear hb
    go_wp2_with fail
    all_goals first | (exfalso; omega) | (have hx : _ := HR.out; subst hx; go_ret; exact ⟨ret_bool rfl, H1.out.below⟩) | (have hx : decide (f ≤ l * u) = false := decide_eq_false (by omega); go_ret; exact ⟨ret_bool (hx.trans HR.out.symm), H1.out.below⟩) | (have hx : decide (f ≤ l * u) = true := decide_eq_true (by omega); go_ret; exact ⟨ret_bool (hx.trans HR.out.symm), H1.out.below⟩) | fail
set_option maxRecDepth 100000 in
set_option maxHeartbeats 2000000 in
theorem specHgHold (ns ls : List Nd) (vn vl : Value) (t s a l : Int) (w : World) (hn : Prs w vn ns) (hl : Prs w vl ls) :
    Calls Tryz.prog 41 #[.agg #[vn, vl], .int .i64 t, .int .i64 s, .int .i64 a, .int .i64 l] w (BoolIs (hngB ns ls t s a l) w) := by
  have HH := Lib.hid (fun w h1 h2 => specHng ns ls vn vl t s a w h1 h2)
  have HIN := Lib.hid (fun w => specInB l 0 1000000 w)
  unfold TwoIs at HH
  unfold BoolIs at HIN
  have HN := Lib.hid hn
  have HL := Lib.hid hl
  obtain ⟨A, c, rfl⟩ := prs_form2 hn
  obtain ⟨A2, c2, rfl⟩ := prs_form2 hl
  clear hn hl
  have H0 := Lib.hid (held_pair w (.slice A ns.length c) (.slice A2 ls.length c2) 32)
  have HR := Lib.hid (show hngB ns ls t s a l = (decide (0 < hngU ns ls t s a) && (inB l 0 1000000 && decide (hngF ns ls t s a ≤ l * hngU ns ls t s a))) from rfl)
  obtain ⟨u1, u2⟩ := hngU_bd ns ls t s a
  generalize hngB ns ls t s a l = res at *
  generalize hngU ns ls t s a = u at *
  generalize hngF ns ls t s a = f at *
  by_cases hu : 0 < u
  · have hub : (u == 0) = false := by simp; omega
    by_cases hlb : inB l 0 1000000 = true
    · obtain ⟨l1, l2⟩ := (inB_iff _ _ _).1 hlb
      have p1 : 0 ≤ l * u := Int.mul_nonneg l1 u1
      have p2 : l * u ≤ 1000000 * 1920000 := Int.mul_le_mul l2 u2 u1 (by omega)
      have hw : IntKind.i64.wrap (l * u) = l * u := IntWalk.i64_in _ (by omega)
      try rw [hlb] at HIN
      replace HR := Lib.hid (show res = decide (f ≤ l * u) from by rw [HR.out, decide_eq_true hu, hlb]; rfl)
      clear hlb
      by_cases hf : f ≤ l * u
      · replace HR := Lib.hid (show res = true from by rw [HR.out]; exact decide_eq_true hf)
        go_enter Tryz.func41, Tryz.ntmps41
        go_wp2_with fail
        refine (HH.out _ (HN.out.step H0.out.below) (HL.out.step H0.out.below)).mono ?_
        rintro e w1_ ⟨rfl, hb⟩
        have H1 := Lib.hid (H0.out.step hb); clear hb
        go_wp2_with fail
        repeat' (first | ((first | (with_reducible refine (HIN.out _).mono ?_) | fail); rintro e wn ⟨rfl, hb⟩; have H1 := Lib.hid (H1.out.step hb); clear hb; go_wp2_with fail) | fail)
        all_goals first | (exfalso; omega) | (have hx : _ := HR.out; subst hx; go_ret; exact ⟨ret_bool rfl, H1.out.below⟩) | (have hx : decide (f ≤ l * u) = false := decide_eq_false (by omega); go_ret; exact ⟨ret_bool (hx.trans HR.out.symm), H1.out.below⟩) | (have hx : decide (f ≤ l * u) = true := decide_eq_true (by omega); go_ret; exact ⟨ret_bool (hx.trans HR.out.symm), H1.out.below⟩) | fail
      · replace HR := Lib.hid (show res = false from by rw [HR.out]; exact decide_eq_false hf)
        go_enter Tryz.func41, Tryz.ntmps41
        go_wp2_with fail
        refine (HH.out _ (HN.out.step H0.out.below) (HL.out.step H0.out.below)).mono ?_
        rintro e w1_ ⟨rfl, hb⟩
        have H1 := Lib.hid (H0.out.step hb); clear hb
        go_wp2_with fail
        repeat' (first | ((first | (with_reducible refine (HIN.out _).mono ?_) | fail); rintro e wn ⟨rfl, hb⟩; have H1 := Lib.hid (H1.out.step hb); clear hb; go_wp2_with fail) | fail)
        all_goals first | (exfalso; omega) | (have hx : _ := HR.out; subst hx; go_ret; exact ⟨ret_bool rfl, H1.out.below⟩) | (have hx : decide (f ≤ l * u) = false := decide_eq_false (by omega); go_ret; exact ⟨ret_bool (hx.trans HR.out.symm), H1.out.below⟩) | (have hx : decide (f ≤ l * u) = true := decide_eq_true (by omega); go_ret; exact ⟨ret_bool (hx.trans HR.out.symm), H1.out.below⟩) | fail
    · have hlb2 : inB l 0 1000000 = false := by simpa using hlb
      try rw [hlb2] at HIN
      replace HR := Lib.hid (show res = false from by rw [HR.out, hlb2]; simp)
      by_cases l1 : l < 0
      · clear hlb hlb2
        go_enter Tryz.func41, Tryz.ntmps41
        go_wp2_with fail
        refine (HH.out _ (HN.out.step H0.out.below) (HL.out.step H0.out.below)).mono ?_
        rintro e w1_ ⟨rfl, hb⟩
        have H1 := Lib.hid (H0.out.step hb); clear hb
        go_wp2_with fail
        repeat' (first | ((first | (with_reducible refine (HIN.out _).mono ?_) | fail); rintro e wn ⟨rfl, hb⟩; have H1 := Lib.hid (H1.out.step hb); clear hb; go_wp2_with fail) | fail)
        all_goals first | (exfalso; omega) | (have hx : _ := HR.out; subst hx; go_ret; exact ⟨ret_bool rfl, H1.out.below⟩) | (have hx : decide (f ≤ l * u) = false := decide_eq_false (by omega); go_ret; exact ⟨ret_bool (hx.trans HR.out.symm), H1.out.below⟩) | (have hx : decide (f ≤ l * u) = true := decide_eq_true (by omega); go_ret; exact ⟨ret_bool (hx.trans HR.out.symm), H1.out.below⟩) | fail
      · have l2 : 1000000 < l := by
          have : ¬ (0 ≤ l ∧ l ≤ 1000000) := fun h => hlb ((inB_iff _ _ _).2 h)
          omega
        clear hlb hlb2
        go_enter Tryz.func41, Tryz.ntmps41
        go_wp2_with fail
        refine (HH.out _ (HN.out.step H0.out.below) (HL.out.step H0.out.below)).mono ?_
        rintro e w1_ ⟨rfl, hb⟩
        have H1 := Lib.hid (H0.out.step hb); clear hb
        go_wp2_with fail
        repeat' (first | ((first | (with_reducible refine (HIN.out _).mono ?_) | fail); rintro e wn ⟨rfl, hb⟩; have H1 := Lib.hid (H1.out.step hb); clear hb; go_wp2_with fail) | fail)
        all_goals first | (exfalso; omega) | (have hx : _ := HR.out; subst hx; go_ret; exact ⟨ret_bool rfl, H1.out.below⟩) | (have hx : decide (f ≤ l * u) = false := decide_eq_false (by omega); go_ret; exact ⟨ret_bool (hx.trans HR.out.symm), H1.out.below⟩) | (have hx : decide (f ≤ l * u) = true := decide_eq_true (by omega); go_ret; exact ⟨ret_bool (hx.trans HR.out.symm), H1.out.below⟩) | fail
  · obtain rfl : u = 0 := by omega
    replace HR := Lib.hid (show res = false from by rw [HR.out]; rfl)
    clear HIN
    have HIN := Lib.hid (fun (w : World) => True.intro)
    go_enter Tryz.func41, Tryz.ntmps41
    go_wp2_with fail
    refine (HH.out _ (HN.out.step H0.out.below) (HL.out.step H0.out.below)).mono ?_
    rintro e w1_ ⟨rfl, hb⟩
    have H1 := Lib.hid (H0.out.step hb); clear hb
    go_wp2_with fail
    repeat' (first | ((first | (with_reducible refine (HIN.out _).mono ?_) | fail); rintro e wn ⟨rfl, hb⟩; have H1 := Lib.hid (H1.out.step hb); clear hb; go_wp2_with fail) | fail)
    all_goals first | (exfalso; omega) | (have hx : _ := HR.out; subst hx; go_ret; exact ⟨ret_bool rfl, H1.out.below⟩) | (have hx : decide (f ≤ l * u) = false := decide_eq_false (by omega); go_ret; exact ⟨ret_bool (hx.trans HR.out.symm), H1.out.below⟩) | (have hx : decide (f ≤ l * u) = true := decide_eq_true (by omega); go_ret; exact ⟨ret_bool (hx.trans HR.out.symm), H1.out.below⟩) | fail
end Go.Proofs.YtfckgidilbjokaaGreat
