/-
  The area of a spot of light, of the model and of the program.
-/
import Derived.Test.YtfckgidilbjokaaGreatBear
import Derived.Test.YtfckgidilbjokaaGreatSun
import Derived.Test.YtfckgidilbjokaaGreatSpot
namespace Go.Proofs.YtfckgidilbjokaaGreat
open Go.RowKit
set_option linter.unusedVariables false
set_option linter.unusedSimpArgs false

/-- Two ints and a bool are returned. -/
def TwoBIs (a b : Int) (k : Bool) (w : World) (e : Ending) (w' : World) : Prop := e = .returned (.tuple #[.int .i64 a, .int .i64 b, .bool k]) ∧ Below w.heap.size w w'
noncomputable def spaB (ns ls : List Nd) (f k : Int) (s : Tr) : Bool := decide (0 ≤ areaW ns ls f) && (sunB s && inB k 0 1000)
noncomputable def spaA (ns ls : List Nd) (f k : Int) (s : Tr) : Int := if spaB ns ls f k s = true then areaW ns ls f * s.z else 0
noncomputable def spaF (ns ls : List Nd) (f k : Int) (s : Tr) : Int := if spaB ns ls f k s = true then s.y else 0
theorem spa_bd {ns ls : List Nd} {f : Int} (h : 0 ≤ areaW ns ls f) : areaW ns ls f ≤ 16000 := by
  by_cases hf : idxB (wF ns ls).length f = true
  · exact (area_nn hf).2
  · rw [g_noarea (by simpa using hf)]
    omega
theorem spa_wrap {ns ls : List Nd} {f k : Int} {s : Tr} (h : spaB ns ls f k s = true) : IntKind.i64.wrap (areaW ns ls f * s.z) = areaW ns ls f * s.z := by
  unfold spaB sunB at h
  simp only [Bool.and_eq_true, decide_eq_true_eq, triB_iff] at h
  have h2 := spa_bd h.1
  have p : areaW ns ls f * s.z ≤ 16000 * 100 := Int.mul_le_mul h2 h.2.1.2.2.2 (by omega) (by omega)
  have q : 0 ≤ areaW ns ls f * s.z := Int.mul_nonneg h.1 (by omega)
  exact IntWalk.i64_in _ (by omega)

set_option maxRecDepth 100000 in
theorem implSpa (ns ls : List Nd) (vn vl : Value) (f k : Int) (s : Tr) (w : World) (hn : Prs w vn ns) (hl : Prs w vl ls) :
    Calls Tryz.prog 45 #[.agg #[vn, vl], .int .i64 f, .int .i64 k, s.val] w (TwoBIs (spaA ns ls f k s) (spaF ns ls f k s) (spaB ns ls f k s) w) := by
  have HA := Lib.hid (fun w h1 h2 => implAreaOf ns ls vn vl f w h1 h2)
  have HB := Lib.hid (implSun s)
  have HC := Lib.hid (implSill k)
  have HN := Lib.hid hn
  have HL := Lib.hid hl
  obtain ⟨A, c, rfl⟩ := prs_form2 hn
  obtain ⟨A2, c2, rfl⟩ := prs_form2 hl
  clear hn hl
  have HW := Lib.hid (fun h => spa_wrap (ns := ns) (ls := ls) (f := f) (k := k) (s := s) h)
  have HRA := Lib.hid (show spaA ns ls f k s = if spaB ns ls f k s = true then areaW ns ls f * s.z else 0 from rfl)
  have HRF := Lib.hid (show spaF ns ls f k s = if spaB ns ls f k s = true then s.y else 0 from rfl)
  have HRB := Lib.hid (show spaB ns ls f k s = (decide (0 ≤ areaW ns ls f) && (sunB s && inB k 0 1000)) from rfl)
  have H0 := Lib.hid ((held_pair w (.slice A ns.length c) (.slice A2 ls.length c2) 32).new2 (w.heap.size + 1) (by simp) [.int .i64 s.x, .int .i64 s.y, .int .i64 s.z] 55)
  simp only [newFs, List.cons_append, List.nil_append, List.append_nil] at H0
  generalize spaA ns ls f k s = ra at *
  generalize spaF ns ls f k s = rf at *
  generalize spaB ns ls f k s = rb at *
  generalize areaW ns ls f = a at *
  generalize sunB s = b2 at *
  generalize inB k 0 1000 = b3 at *
  obtain ⟨x, y, z⟩ := s
  unfold Tr.val at *
  simp only at H0 HA HB HC HRA HRF HW
  by_cases ha : 0 ≤ a
  · have hnl : ¬ (a < 0) := by omega
    rw [decide_eq_true ha, Bool.true_and] at HRB
    cases b2
    · replace HRB := Lib.hid (show rb = false from by rw [HRB.out]; rfl)
      rw [HRB.out] at HRA HRF
      replace HRA := Lib.hid (show ra = 0 from by rw [HRA.out]; rfl)
      replace HRF := Lib.hid (show rf = 0 from by rw [HRF.out]; rfl)
      clear HW
      go_enter Tryz.func45, Tryz.ntmps45
      go_wp2_with fail
      repeat' (first | ((first | (with_reducible refine (HA.out _ (HN.out.step H0.out.below) (HL.out.step H0.out.below)).mono ?_) | (with_reducible refine (HB.out _).mono ?_) | (with_reducible refine (HC.out _).mono ?_) | fail); rintro e wn ⟨rfl, hb⟩; have H0 := Lib.hid (H0.out.step hb); clear hb; (try clear x0 x1 x2 x3 x4); obtain ⟨x0, x1, x2, x3, x4, _⟩ := H0.out.1; go_wp2_with fail) | fail)
      all_goals refine bodyPost_ret (v := .tuple #[.int .i64 0, .int .i64 0, .bool false]) (by simp [results, Tryz.results45, go_sem]) rfl ⟨by rw [HRA.out, HRF.out, HRB.out], H0.out.below⟩
    · cases b3
      · replace HRB := Lib.hid (show rb = false from by rw [HRB.out]; rfl)
        rw [HRB.out] at HRA HRF
        replace HRA := Lib.hid (show ra = 0 from by rw [HRA.out]; rfl)
        replace HRF := Lib.hid (show rf = 0 from by rw [HRF.out]; rfl)
        clear HW
        go_enter Tryz.func45, Tryz.ntmps45
        go_wp2_with fail
        repeat' (first | ((first | (with_reducible refine (HA.out _ (HN.out.step H0.out.below) (HL.out.step H0.out.below)).mono ?_) | (with_reducible refine (HB.out _).mono ?_) | (with_reducible refine (HC.out _).mono ?_) | fail); rintro e wn ⟨rfl, hb⟩; have H0 := Lib.hid (H0.out.step hb); clear hb; (try clear x0 x1 x2 x3 x4); obtain ⟨x0, x1, x2, x3, x4, _⟩ := H0.out.1; go_wp2_with fail) | fail)
        all_goals refine bodyPost_ret (v := .tuple #[.int .i64 0, .int .i64 0, .bool false]) (by simp [results, Tryz.results45, go_sem]) rfl ⟨by rw [HRA.out, HRF.out, HRB.out], H0.out.below⟩
      · replace HRB := Lib.hid (show rb = true from by rw [HRB.out]; rfl)
        rw [HRB.out] at HRA HRF HW
        replace HRA := Lib.hid (show ra = a * z from by rw [HRA.out]; rfl)
        replace HRF := Lib.hid (show rf = y from by rw [HRF.out]; rfl)
        have hw := HW.out rfl
        clear HW
        go_enter Tryz.func45, Tryz.ntmps45
        go_wp2_with fail
        repeat' (first | ((first | (with_reducible refine (HA.out _ (HN.out.step H0.out.below) (HL.out.step H0.out.below)).mono ?_) | (with_reducible refine (HB.out _).mono ?_) | (with_reducible refine (HC.out _).mono ?_) | fail); rintro e wn ⟨rfl, hb⟩; have H0 := Lib.hid (H0.out.step hb); clear hb; (try clear x0 x1 x2 x3 x4); obtain ⟨x0, x1, x2, x3, x4, _⟩ := H0.out.1; go_wp2_with fail) | fail)
        all_goals first | (exfalso; omega) | (go_quiet (fail); go_wp2_with fail; refine bodyPost_ret (v := .tuple #[.int .i64 (a * z), .int .i64 y, .bool true]) (by simp [results, Tryz.results45, go_sem]) rfl ⟨by rw [HRA.out, HRF.out, HRB.out], below_drewN H0.out.below _⟩)
  · have hneg : a < 0 := by omega
    rw [decide_eq_false ha, Bool.false_and] at HRB
    rw [HRB.out] at HRA HRF
    replace HRA := Lib.hid (show ra = 0 from by rw [HRA.out]; rfl)
    replace HRF := Lib.hid (show rf = 0 from by rw [HRF.out]; rfl)
    clear HW
    go_enter Tryz.func45, Tryz.ntmps45
    go_wp2_with fail
    repeat' (first | ((first | (with_reducible refine (HA.out _ (HN.out.step H0.out.below) (HL.out.step H0.out.below)).mono ?_) | (with_reducible refine (HB.out _).mono ?_) | (with_reducible refine (HC.out _).mono ?_) | fail); rintro e wn ⟨rfl, hb⟩; have H0 := Lib.hid (H0.out.step hb); clear hb; (try clear x0 x1 x2 x3 x4); obtain ⟨x0, x1, x2, x3, x4, _⟩ := H0.out.1; go_wp2_with fail) | fail)
    all_goals refine bodyPost_ret (v := .tuple #[.int .i64 0, .int .i64 0, .bool false]) (by simp [results, Tryz.results45, go_sem]) rfl ⟨by rw [HRA.out, HRF.out, HRB.out], H0.out.below⟩
set_option maxRecDepth 100000 in
theorem specSpa (ns ls : List Nd) (vn vl : Value) (f k : Int) (s : Tr) (w : World) (hn : Prs w vn ns) (hl : Prs w vl ls) :
    Calls Tryz.prog 43 #[.agg #[vn, vl], .int .i64 f, .int .i64 k, s.val] w (TwoBIs (spaA ns ls f k s) (spaF ns ls f k s) (spaB ns ls f k s) w) := by
  have HA := Lib.hid (fun w h1 h2 => specAreaOf ns ls vn vl f w h1 h2)
  have HB := Lib.hid (specSunOk s)
  have HC := Lib.hid (specInB k 0 1000)
  have HN := Lib.hid hn
  have HL := Lib.hid hl
  obtain ⟨A, c, rfl⟩ := prs_form2 hn
  obtain ⟨A2, c2, rfl⟩ := prs_form2 hl
  clear hn hl
  have HW := Lib.hid (fun h => spa_wrap (ns := ns) (ls := ls) (f := f) (k := k) (s := s) h)
  have HRA := Lib.hid (show spaA ns ls f k s = if spaB ns ls f k s = true then areaW ns ls f * s.z else 0 from rfl)
  have HRF := Lib.hid (show spaF ns ls f k s = if spaB ns ls f k s = true then s.y else 0 from rfl)
  have HRB := Lib.hid (show spaB ns ls f k s = (decide (0 ≤ areaW ns ls f) && (sunB s && inB k 0 1000)) from rfl)
  have H0 := Lib.hid ((held_pair w (.slice A ns.length c) (.slice A2 ls.length c2) 32).new2 (w.heap.size + 1) (by simp) [.int .i64 s.x, .int .i64 s.y, .int .i64 s.z] 55)
  simp only [newFs, List.cons_append, List.nil_append, List.append_nil] at H0
  generalize spaA ns ls f k s = ra at *
  generalize spaF ns ls f k s = rf at *
  generalize spaB ns ls f k s = rb at *
  generalize areaW ns ls f = a at *
  generalize sunB s = b2 at *
  generalize inB k 0 1000 = b3 at *
  obtain ⟨x, y, z⟩ := s
  unfold Tr.val at *
  simp only at H0 HA HB HC HRA HRF HW
  by_cases ha : 0 ≤ a
  · have hnl : ¬ (a < 0) := by omega
    rw [decide_eq_true ha, Bool.true_and] at HRB
    cases b2
    · replace HRB := Lib.hid (show rb = false from by rw [HRB.out]; rfl)
      rw [HRB.out] at HRA HRF
      replace HRA := Lib.hid (show ra = 0 from by rw [HRA.out]; rfl)
      replace HRF := Lib.hid (show rf = 0 from by rw [HRF.out]; rfl)
      clear HW
      go_enter Tryz.func43, Tryz.ntmps43
      go_wp2_with fail
      repeat' (first | ((first | (with_reducible refine (HA.out _ (HN.out.step H0.out.below) (HL.out.step H0.out.below)).mono ?_) | (with_reducible refine (HB.out _).mono ?_) | (with_reducible refine (HC.out _).mono ?_) | fail); rintro e wn ⟨rfl, hb⟩; have H0 := Lib.hid (H0.out.step hb); clear hb; (try clear x0 x1 x2 x3 x4); obtain ⟨x0, x1, x2, x3, x4, _⟩ := H0.out.1; go_wp2_with fail) | fail)
      all_goals refine bodyPost_ret (v := .tuple #[.int .i64 0, .int .i64 0, .bool false]) (by simp [results, Tryz.results43, go_sem]) rfl ⟨by rw [HRA.out, HRF.out, HRB.out], H0.out.below⟩
    · cases b3
      · replace HRB := Lib.hid (show rb = false from by rw [HRB.out]; rfl)
        rw [HRB.out] at HRA HRF
        replace HRA := Lib.hid (show ra = 0 from by rw [HRA.out]; rfl)
        replace HRF := Lib.hid (show rf = 0 from by rw [HRF.out]; rfl)
        clear HW
        go_enter Tryz.func43, Tryz.ntmps43
        go_wp2_with fail
        repeat' (first | ((first | (with_reducible refine (HA.out _ (HN.out.step H0.out.below) (HL.out.step H0.out.below)).mono ?_) | (with_reducible refine (HB.out _).mono ?_) | (with_reducible refine (HC.out _).mono ?_) | fail); rintro e wn ⟨rfl, hb⟩; have H0 := Lib.hid (H0.out.step hb); clear hb; (try clear x0 x1 x2 x3 x4); obtain ⟨x0, x1, x2, x3, x4, _⟩ := H0.out.1; go_wp2_with fail) | fail)
        all_goals refine bodyPost_ret (v := .tuple #[.int .i64 0, .int .i64 0, .bool false]) (by simp [results, Tryz.results43, go_sem]) rfl ⟨by rw [HRA.out, HRF.out, HRB.out], H0.out.below⟩
      · replace HRB := Lib.hid (show rb = true from by rw [HRB.out]; rfl)
        rw [HRB.out] at HRA HRF HW
        replace HRA := Lib.hid (show ra = a * z from by rw [HRA.out]; rfl)
        replace HRF := Lib.hid (show rf = y from by rw [HRF.out]; rfl)
        have hw := HW.out rfl
        clear HW
        go_enter Tryz.func43, Tryz.ntmps43
        go_wp2_with fail
        repeat' (first | ((first | (with_reducible refine (HA.out _ (HN.out.step H0.out.below) (HL.out.step H0.out.below)).mono ?_) | (with_reducible refine (HB.out _).mono ?_) | (with_reducible refine (HC.out _).mono ?_) | fail); rintro e wn ⟨rfl, hb⟩; have H0 := Lib.hid (H0.out.step hb); clear hb; (try clear x0 x1 x2 x3 x4); obtain ⟨x0, x1, x2, x3, x4, _⟩ := H0.out.1; go_wp2_with fail) | fail)
        all_goals first | (exfalso; omega) | (go_quiet (fail); go_wp2_with fail; refine bodyPost_ret (v := .tuple #[.int .i64 (a * z), .int .i64 y, .bool true]) (by simp [results, Tryz.results43, go_sem]) rfl ⟨by rw [HRA.out, HRF.out, HRB.out], below_drewN H0.out.below _⟩)
  · have hneg : a < 0 := by omega
    rw [decide_eq_false ha, Bool.false_and] at HRB
    rw [HRB.out] at HRA HRF
    replace HRA := Lib.hid (show ra = 0 from by rw [HRA.out]; rfl)
    replace HRF := Lib.hid (show rf = 0 from by rw [HRF.out]; rfl)
    clear HW
    go_enter Tryz.func43, Tryz.ntmps43
    go_wp2_with fail
    repeat' (first | ((first | (with_reducible refine (HA.out _ (HN.out.step H0.out.below) (HL.out.step H0.out.below)).mono ?_) | (with_reducible refine (HB.out _).mono ?_) | (with_reducible refine (HC.out _).mono ?_) | fail); rintro e wn ⟨rfl, hb⟩; have H0 := Lib.hid (H0.out.step hb); clear hb; (try clear x0 x1 x2 x3 x4); obtain ⟨x0, x1, x2, x3, x4, _⟩ := H0.out.1; go_wp2_with fail) | fail)
    all_goals refine bodyPost_ret (v := .tuple #[.int .i64 0, .int .i64 0, .bool false]) (by simp [results, Tryz.results43, go_sem]) rfl ⟨by rw [HRA.out, HRF.out, HRB.out], H0.out.below⟩
end Go.Proofs.YtfckgidilbjokaaGreat
