/-
  May a face be replaced, of the program and of the model.
-/
import Derived.Test.YtepacoacalhdcaaGreatG38
namespace Go.Proofs.YtepacoacalhdcaaGreat
open Go.RowKit
set_option linter.unusedVariables false
set_option linter.unusedSimpArgs false

noncomputable def mayG (ns ls : List Nd) (xs : List Int) (f s : Int) : Bool := (idxB (wF ns ls).length f && !(f == outW ns ls)) && (inB s 0 100 && (!(atZ xs f.toNat == 0) || decide (s * totalW ns ls ≤ 100 * (orgF ns ls xs (wF ns ls).length - areaW ns ls f))))

noncomputable def mayB (ns ls : List Nd) (xs : List Int) (f s : Int) : Bool := listB ns ls 0 3000 xs && mayG ns ls xs f s

theorem may_arith {ns ls : List Nd} {xs : List Int} {s : Int} {k : Nat} (hh : wholeB ns ls = true) (hk : k < (wF ns ls).length) (hs : inB s 0 100 = true) :
    IntKind.i64.wrap (orgF ns ls xs (wF ns ls).length - areaW ns ls (k : Int)) = orgF ns ls xs (wF ns ls).length - areaW ns ls (k : Int) ∧ IntKind.i64.wrap (100 * (orgF ns ls xs (wF ns ls).length - areaW ns ls (k : Int))) = 100 * (orgF ns ls xs (wF ns ls).length - areaW ns ls (k : Int)) ∧ IntKind.i64.wrap (s * totalW ns ls) = s * totalW ns ls := by
  have h1 := orgF_bd (ns := ns) (ls := ls) (hs := xs) (Nat.le_refl (wF ns ls).length)
  have h2 := area_nnB (ns := ns) (ls := ls) ((idxB_iff _ _).2 (show 0 ≤ (k : Int) ∧ (k : Int) < ((wF ns ls).length : Int) by omega))
  have h3 := totalW_nn hh
  have h4 := (inB_iff _ _ _).1 hs
  have h5 : 0 ≤ s * totalW ns ls := Int.mul_nonneg h4.1 h3.1
  have h6 : s * totalW ns ls ≤ 100 * 16000 := Int.mul_le_mul h4.2 h3.2 h3.1 (by omega)
  exact ⟨IntWalk.i64_in _ (by omega), IntWalk.i64_in _ (by omega), IntWalk.i64_in _ (by omega)⟩

set_option maxRecDepth 100000 in
set_option maxHeartbeats 4000000 in
theorem implMayG (ns ls : List Nd) (xs : List Int) (v1 v2 v3 v4 vx : Value) (B : Nat) (f s : Int) (w : World) (g1 : Prs w v1 (gN ns ls)) (g2 : Prs w v2 (gL ns ls)) (g3 : Faces w B v3 (wF ns ls)) (g4 : Ints w B v4 (gA ns ls)) (hv : Seq w vx xs) (hh : wholeB ns ls = true) (hxl : xs.length = (wF ns ls).length) :
    Calls Tryz.prog 88 #[.agg #[v1, v2, v3, v4], vx, .int .i64 f, .int .i64 s] w (BoolIs (mayG ns ls xs f s) w) := by
  have h40 := wF_len (ns := ns) (ls := ls)
  have HH := Lib.hid (fun (A1 A2 A3 A4 : Option Addr) (n1 c1 n2 c2 c3 n4 c4 : Nat) w => implHasFace A1 A2 A3 A4 n1 c1 n2 c2 (wF ns ls).length c3 n4 c4 f w (by omega))
  unfold BoolIs at HH
  have HO := Lib.hid (fun v1 v2 v3 v4 B w h1 h2 h3 h4 => (show Calls Tryz.prog 91 #[.agg #[v1, v2, v3, v4]] w (IntIs (outW ns ls) w) from by
    have := implOuter (gN ns ls) (gL ns ls) v1 v2 v3 v4 (wF ns ls) (gA ns ls) B w h1 h2 h3 h4 (g_ok ns ls)
    rw [g_outer] at this
    exact this))
  unfold IntIs at HO
  have HF1 := Lib.hid (fun v1 v2 v3 v4 B w h1 h2 h3 h4 hv => implFirst ns ls xs v1 v2 v3 v4 vx B w h1 h2 h3 h4 hv hxl)
  unfold IntIs at HF1
  rw [org_inn hh] at HF1
  have HV := Lib.hid hv
  have HG1 := Lib.hid g1
  have HG2 := Lib.hid g2
  have HG3 := Lib.hid g3
  have HG4 := Lib.hid g4
  obtain ⟨A, c1, rfl⟩ := prs_form2 g1
  obtain ⟨A2, c2, rfl⟩ := prs_form2 g2
  obtain ⟨A3, c3, rfl⟩ := faces_form g3
  obtain ⟨A4, c4, rfl⟩ := ints_form g4
  obtain ⟨A5, c5, rfl⟩ := seq_form2 hv
  clear g1 g2 g3 g4 hv
  have H0 := Lib.hid (heldG w (.slice A (gN ns ls).length c1) (.slice A2 (gL ns ls).length c2) (.slice A3 (wF ns ls).length c3) (.slice A4 (gA ns ls).length c4) 98)
  by_cases hf : idxB (wF ns ls).length f = true
  · obtain ⟨k, rfl, hk⟩ := idx_nat hf
    obtain ⟨o, ho, hol⟩ := outW_is hh
    have HAR := Lib.hid (fun v1 v2 v3 v4 B w h1 h2 h3 h4 => implAreaG ns ls k hk v1 v2 v3 v4 B w h1 h2 h3 h4)
    have HAO := Lib.hid (fun v1 v2 v3 v4 B w h1 h2 h3 h4 => implAreaG ns ls o hol v1 v2 v3 v4 B w h1 h2 h3 h4)
    rw [show areaW ns ls (o : Int) = totalW ns ls from by unfold totalW; rw [ho]] at HAO
    unfold IntIs at HAR HAO
    have HAT := Lib.hid (fun h => may_arith (xs := xs) (s := s) hh hk h)
    have HR := Lib.hid (show mayG ns ls xs (k : Int) s = ((!((k : Int) == (o : Int))) && (inB s 0 100 && (!(atZ xs k == 0) || decide (s * totalW ns ls ≤ 100 * (orgF ns ls xs (wF ns ls).length - areaW ns ls (k : Int)))))) from by
      unfold mayG
      rw [hf, ho, Int.toNat_natCast, Bool.true_and])
    have HSI := Lib.hid (inB_iff s 0 100)
    obtain ⟨bx, ox, rfl, hbx, hcx⟩ := seq_at HV.out k (by rw [hxl]; exact hk)
    have HXC := Lib.hid (fun W (hb : Below w.heap.size w W) => (hb.cell (p := ⟨bx, ox + k, none⟩) hbx).trans (hcx k (by rw [hxl]; exact hk)))
    have z1 : (k : Int) < (xs.length : Int) := by omega
    have z0 : (0 : Int) ≤ k := by omega
    rw [hf] at HH
    rw [ho] at HO
    clear hf hbx hcx hh hxl ho hk hol
    generalize mayG ns ls xs (k : Int) s = res at *
    generalize areaW ns ls (k : Int) = ar at *
    generalize orgF ns ls xs (wF ns ls).length = og at *
    generalize totalW ns ls = tt at *
    generalize gN ns ls = ns' at *
    generalize gL ns ls = ls' at *
    generalize gA ns ls = ds at *
    generalize wF ns ls = rs at *
    generalize atZ xs k = y at *
    by_cases hko : k = o
    · subst hko
      have HX := Lib.hid (show res = false from by rw [HR.out]; simp)
      go_enter Tryz.func88, Tryz.ntmps88
      obtain ⟨x0, x1, x2, x3, _⟩ := H0.out.1
      go_wp2_with fail
      refine (HH.out _ _ _ _ _ _ _ _ _ _ _ _).mono ?_
      rintro e w1 ⟨rfl, hb⟩
      have H1 := Lib.hid (H0.out.step hb); clear hb x0 x1 x2 x3 H0
      obtain ⟨x0, x1, x2, x3, _⟩ := H1.out.1
      go_wp2_with fail
      refine (HO.out _ _ _ _ _ _ (HG1.out.step H1.out.below) (HG2.out.step H1.out.below) (HG3.out.step H1.out.below) (HG4.out.step H1.out.below)).mono ?_
      rintro e w2 ⟨rfl, hb⟩
      have H2 := Lib.hid (H1.out.step hb); clear hb x0 x1 x2 x3 H1
      obtain ⟨x0, x1, x2, x3, _⟩ := H2.out.1
      go_wp2_with fail
      go_ret
      exact ⟨ret_bool HX.out.symm, H2.out.below⟩
    · have e1 : ((k : Int) == (o : Int)) = false := by rw [beq_eq_false_iff_ne]; omega
      rw [e1] at HR
      by_cases hs0 : s < 0
      · have HX := Lib.hid (show res = false from by rw [HR.out, show inB s 0 100 = false from by rw [← Bool.not_eq_true, HSI.out]; omega]; rfl)
        go_enter Tryz.func88, Tryz.ntmps88
        obtain ⟨x0, x1, x2, x3, _⟩ := H0.out.1
        go_wp2_with fail
        refine (HH.out _ _ _ _ _ _ _ _ _ _ _ _).mono ?_
        rintro e w1 ⟨rfl, hb⟩
        have H1 := Lib.hid (H0.out.step hb); clear hb x0 x1 x2 x3 H0
        obtain ⟨x0, x1, x2, x3, _⟩ := H1.out.1
        go_wp2_with fail
        refine (HO.out _ _ _ _ _ _ (HG1.out.step H1.out.below) (HG2.out.step H1.out.below) (HG3.out.step H1.out.below) (HG4.out.step H1.out.below)).mono ?_
        rintro e w2 ⟨rfl, hb⟩
        have H2 := Lib.hid (H1.out.step hb); clear hb x0 x1 x2 x3 H1
        obtain ⟨x0, x1, x2, x3, _⟩ := H2.out.1
        go_wp2_with fail
        go_ret
        exact ⟨ret_bool HX.out.symm, H2.out.below⟩
      · by_cases hs1 : 100 < s
        · have HX := Lib.hid (show res = false from by rw [HR.out, show inB s 0 100 = false from by rw [← Bool.not_eq_true, HSI.out]; omega]; rfl)
          go_enter Tryz.func88, Tryz.ntmps88
          obtain ⟨x0, x1, x2, x3, _⟩ := H0.out.1
          go_wp2_with fail
          refine (HH.out _ _ _ _ _ _ _ _ _ _ _ _).mono ?_
          rintro e w1 ⟨rfl, hb⟩
          have H1 := Lib.hid (H0.out.step hb); clear hb x0 x1 x2 x3 H0
          obtain ⟨x0, x1, x2, x3, _⟩ := H1.out.1
          go_wp2_with fail
          refine (HO.out _ _ _ _ _ _ (HG1.out.step H1.out.below) (HG2.out.step H1.out.below) (HG3.out.step H1.out.below) (HG4.out.step H1.out.below)).mono ?_
          rintro e w2 ⟨rfl, hb⟩
          have H2 := Lib.hid (H1.out.step hb); clear hb x0 x1 x2 x3 H1
          obtain ⟨x0, x1, x2, x3, _⟩ := H2.out.1
          go_wp2_with fail
          go_ret
          exact ⟨ret_bool HX.out.symm, H2.out.below⟩
        · have hin : inB s 0 100 = true := HSI.out.2 (by omega)
          have d1 : decide (s < 0) = false := decide_eq_false hs0
          have d2 : decide (100 < s) = false := decide_eq_false hs1
          have d3 : decide (s > 100) = false := decide_eq_false hs1
          obtain ⟨m1, m2, m3⟩ := HAT.out hin
          rw [hin] at HR
          by_cases hy : y = 0
          · subst hy
            have HX := Lib.hid (show res = decide (s * tt ≤ 100 * (og - ar)) from by rw [HR.out]; simp)
            clear HR hin
            go_enter Tryz.func88, Tryz.ntmps88
            obtain ⟨x0, x1, x2, x3, _⟩ := H0.out.1
            go_wp2_with fail
            refine (HH.out _ _ _ _ _ _ _ _ _ _ _ _).mono ?_
            rintro e w1 ⟨rfl, hb⟩
            have H1 := Lib.hid (H0.out.step hb); clear hb x0 x1 x2 x3 H0
            obtain ⟨x0, x1, x2, x3, _⟩ := H1.out.1
            go_wp2_with fail
            refine (HO.out _ _ _ _ _ _ (HG1.out.step H1.out.below) (HG2.out.step H1.out.below) (HG3.out.step H1.out.below) (HG4.out.step H1.out.below)).mono ?_
            rintro e w2 ⟨rfl, hb⟩
            have H2 := Lib.hid (H1.out.step hb); clear hb x0 x1 x2 x3 H1
            obtain ⟨x0, x1, x2, x3, _⟩ := H2.out.1
            have x4 := HXC.out _ H2.out.below
            go_wp2_with fail
            refine regionD (S := fun W => Held _ W [(w.heap.size, 0, .slice A ns'.length c1), (w.heap.size, 1, .slice A2 ls'.length c2), (w.heap.size, 2, .slice A3 rs.length c3), (w.heap.size, 3, .slice A4 ds.length c4)]) (by kernel_rfl) H2.out.drew ?_
            iterate 16 (refine takeT (v := ?_) rfl (by kernel_rfl) (by kernel_rfl) (by kernel_rfl) ?_ ?_; rotate_left; (first | (refine Or.inr ⟨by rfl, ?_⟩; with_reducible rfl) | (refine Or.inl ⟨by rfl, fun W hS => detRes_value (w' := W) ?_ hS⟩; obtain ⟨x0, x1, x2, x3, _⟩ := hS.1; go_simp; first | done | with_reducible rfl) | (refine Or.inl ⟨by rfl, fun W hS => ?_⟩; refine detRes_call (w' := W) (f := ?_) (args := ?_) ?_ ?_; rotate_left 2; (go_simp; (refine ⟨?_, ?_⟩ <;> with_reducible rfl)); (first | (with_reducible refine (HF1.out _ _ _ _ _ _ (HG1.out.step hS.below) (HG2.out.step hS.below) (HG3.out.step hS.below) (HG4.out.step hS.below) (HV.out.step hS.below)).mono ?_) | (with_reducible refine (HAR.out _ _ _ _ _ _ (HG1.out.step hS.below) (HG2.out.step hS.below) (HG3.out.step hS.below) (HG4.out.step hS.below)).mono ?_) | (with_reducible refine (HAO.out _ _ _ _ _ _ (HG1.out.step hS.below) (HG2.out.step hS.below) (HG3.out.step hS.below) (HG4.out.step hS.below)).mono ?_) | (with_reducible refine (HO.out _ _ _ _ _ _ (HG1.out.step hS.below) (HG2.out.step hS.below) (HG3.out.step hS.below) (HG4.out.step hS.below)).mono ?_) | fail); (first | (rintro e wn ⟨rfl, hb⟩; refine ⟨?_, hS.step hb⟩; with_reducible rfl) | (rintro e wn ⟨rfl, rfl⟩; refine ⟨?_, hS⟩; with_reducible rfl) | fail)) | fail); (simp only [Act.put, List.setIfInBounds_toArray, List.set_cons_zero, List.set_cons_succ]))
            refine doneD (by kernel_rfl) fun wH3 HS => ?_
            have H3 := Lib.hid HS; clear HS
            try clear x0 x1 x2 x3
            obtain ⟨x0, x1, x2, x3, _⟩ := H3.out.1
            go_wp2_with fail
            go_ret
            exact ⟨ret_bool (by first | exact HX.out.symm | (rw [m3, m2]; exact HX.out.symm)), H3.out.below⟩
          · have e2 : (y == 0) = false := by simpa using hy
            have e3 : (y != 0) = true := by simpa using hy
            have HX := Lib.hid (show res = true from by rw [HR.out, e2]; simp)
            clear HR hin hy
            go_enter Tryz.func88, Tryz.ntmps88
            obtain ⟨x0, x1, x2, x3, _⟩ := H0.out.1
            go_wp2_with fail
            refine (HH.out _ _ _ _ _ _ _ _ _ _ _ _).mono ?_
            rintro e w1 ⟨rfl, hb⟩
            have H1 := Lib.hid (H0.out.step hb); clear hb x0 x1 x2 x3 H0
            obtain ⟨x0, x1, x2, x3, _⟩ := H1.out.1
            go_wp2_with fail
            refine (HO.out _ _ _ _ _ _ (HG1.out.step H1.out.below) (HG2.out.step H1.out.below) (HG3.out.step H1.out.below) (HG4.out.step H1.out.below)).mono ?_
            rintro e w2 ⟨rfl, hb⟩
            have H2 := Lib.hid (H1.out.step hb); clear hb x0 x1 x2 x3 H1
            obtain ⟨x0, x1, x2, x3, _⟩ := H2.out.1
            have x4 := HXC.out _ H2.out.below
            go_wp2_with fail
            go_ret
            exact ⟨ret_bool HX.out.symm, H2.out.below⟩
  · rw [show idxB (wF ns ls).length f = false by simpa using hf] at HH
    have HX := Lib.hid (show mayG ns ls xs f s = false from by unfold mayG; rw [show idxB (wF ns ls).length f = false by simpa using hf]; rfl)
    clear hf hh hxl HF1 HO
    generalize mayG ns ls xs f s = res at *
    generalize gN ns ls = ns' at *
    generalize gL ns ls = ls' at *
    generalize gA ns ls = ds at *
    generalize wF ns ls = rs at *
    go_enter Tryz.func88, Tryz.ntmps88
    obtain ⟨x0, x1, x2, x3, _⟩ := H0.out.1
    go_wp2_with fail
    refine (HH.out _ _ _ _ _ _ _ _ _ _ _ _).mono ?_
    rintro e w1 ⟨rfl, hb⟩
    have H1 := Lib.hid (H0.out.step hb); clear hb x0 x1 x2 x3 H0
    obtain ⟨x0, x1, x2, x3, _⟩ := H1.out.1
    go_wp2_with fail
    go_ret
    exact ⟨ret_bool HX.out.symm, H1.out.below⟩

set_option maxRecDepth 100000 in
set_option maxHeartbeats 1000000 in
theorem implMay (ns ls : List Nd) (xs : List Int) (vn vl v : Value) (f s : Int) (w : World) (hn : Prs w vn ns) (hl : Prs w vl ls) (hv : Seq w v xs) :
    Calls Tryz.prog 33 #[.agg #[vn, vl], v, .int .i64 f, .int .i64 s] w (BoolIs (mayB ns ls xs f s) w) := by
  have HG := Lib.hid (fun w h1 h2 h3 => implHistG ns ls xs vn vl v w h1 h2 h3)
  unfold GlassL at HG
  have HFI := Lib.hid (fun (h : listB ns ls 0 3000 xs = true) v1 v2 v3 v4 B w h1 h2 h3 h4 hv => (show Calls Tryz.prog 88 #[.agg #[v1, v2, v3, v4], v, .int .i64 f, .int .i64 s] w (BoolIs (mayB ns ls xs f s) w) from by
    have := implMayG ns ls xs v1 v2 v3 v4 v B f s w h1 h2 h3 h4 hv (listB_parts h).1 (listB_parts h).2.1
    unfold mayB
    rw [h, Bool.true_and]
    exact this))
  unfold BoolIs at HFI
  have HNO := Lib.hid (fun (h : listB ns ls 0 3000 xs = false) => (show mayB ns ls xs f s = false from by unfold mayB; rw [h]; rfl))
  have HN := Lib.hid hn
  have HL := Lib.hid hl
  have HV := Lib.hid hv
  have H0 := Lib.hid (held_pair w vn vl 32)
  obtain ⟨A, c, rfl⟩ := prs_form2 hn
  obtain ⟨A2, c2, rfl⟩ := prs_form2 hl
  obtain ⟨A3, c3, rfl⟩ := seq_form2 hv
  clear hn hl hv
  generalize gN ns ls = ns' at *
  generalize gL ns ls = ls' at *
  generalize gA ns ls = ds at *
  generalize wF ns ls = rs at *
  generalize mayB ns ls xs f s = res at *
  generalize listB ns ls 0 3000 xs = lb at *
  go_enter Tryz.func33, Tryz.ntmps33
  go_wp2_with fail
  refine (HG.out _ (HN.out.step H0.out.below) (HL.out.step H0.out.below) (HV.out.step H0.out.below)).mono ?_
  rintro e w1 ⟨v1, v2, v3, v4, rfl, g1, g2, g3, g4, hb⟩
  have H1 := Lib.hid (H0.out.step hb)
  have G0 := Lib.hid (heldG w1 v1 v2 v3 v4 98)
  have B1 := Lib.hid (H1.out.below.trans (G0.out.below.mono H1.out.below.size))
  have G1 := Lib.hid (g1.step G0.out.below)
  have G2 := Lib.hid (g2.step G0.out.below)
  have G3 := Lib.hid (g3.step G0.out.below)
  have G4 := Lib.hid (g4.step G0.out.below)
  obtain ⟨A5, c5, rfl⟩ := prs_form2 g1
  obtain ⟨A6, c6, rfl⟩ := prs_form2 g2
  obtain ⟨A7, c7, rfl⟩ := faces_form g3
  obtain ⟨A8, c8, rfl⟩ := ints_form g4
  clear hb g1 g2 g3 g4
  obtain ⟨y0, y1, y2, y3, _⟩ := G0.out.1
  cases lb
  · go_wp2_with fail
    go_ret
    exact ⟨ret_bool (HNO.out (by first | rfl | trivial)).symm, B1.out⟩
  · have HFJ := Lib.hid (HFI.out (by first | rfl | trivial))
    go_wp2_with fail
    refine (HFJ.out _ _ _ _ _ _ G1.out G2.out G3.out G4.out (HV.out.step B1.out)).mono ?_
    rintro e w2 ⟨rfl, hb⟩
    go_wp2_with fail
    go_ret
    exact ⟨rfl, B1.out.trans (hb.mono B1.out.size)⟩

set_option maxRecDepth 100000 in
set_option maxHeartbeats 4000000 in
theorem specMay (ns ls : List Nd) (xs : List Int) (vn vl v : Value) (f s : Int) (w : World) (hn : Prs w vn ns) (hl : Prs w vl ls) (hv : Seq w v xs) :
    Calls Tryz.prog 32 #[.agg #[vn, vl], v, .int .i64 f, .int .i64 s] w (BoolIs (mayB ns ls xs f s) w) := by
  have HG := Lib.hid (fun w h1 h2 h3 => specHistOk ns ls xs vn vl v w h1 h2 h3)
  have HI1 := Lib.hid (fun w => specIn f 0 ((xs.length : Int) - 1) w)
  have HI2 := Lib.hid (fun w => specIn s 0 100 w)
  have HO := Lib.hid (fun w h1 h2 => specOuterFace ns ls vn vl w h1 h2)
  have HOR := Lib.hid (fun w h1 h2 h3 => specOrg ns ls xs vn vl v w h1 h2 h3)
  have HAR := Lib.hid (fun w h1 h2 => specAreaOf ns ls vn vl f w h1 h2)
  have HTO := Lib.hid (fun w h1 h2 => specTotal ns ls vn vl w h1 h2)
  unfold BoolIs at HG
  unfold IntIs at HO HOR HAR HTO
  have hxm := hv.len
  have HN := Lib.hid hn
  have HL := Lib.hid hl
  have HV := Lib.hid hv
  have H0 := Lib.hid (held_pair w vn vl 32)
  have hw1 : IntKind.i64.wrap ((xs.length : Int) - 1) = (xs.length : Int) - 1 := IntWalk.i64_in _ (by omega)
  obtain ⟨A, c, rfl⟩ := prs_form2 hn
  obtain ⟨A2, c2, rfl⟩ := prs_form2 hl
  obtain ⟨A3, c3, rfl⟩ := seq_form2 hv
  clear hn hl hv
  cases hlb : listB ns ls 0 3000 xs
  · have HX := Lib.hid (show mayB ns ls xs f s = false from by unfold mayB; rw [hlb]; rfl)
    rw [hlb] at HG
    clear hlb
    generalize mayB ns ls xs f s = res at *
    go_enter Tryz.func32, Tryz.ntmps32
    go_wp2_with fail
    refine (HG.out _ (HN.out.step H0.out.below) (HL.out.step H0.out.below) (HV.out.step H0.out.below)).mono ?_
    rintro e w1 ⟨rfl, hb⟩
    have H1 := Lib.hid (H0.out.step hb); clear hb H0
    go_wp2_with fail
    go_ret
    exact ⟨ret_bool HX.out.symm, H1.out.below⟩
  · obtain ⟨hh, hxl, -⟩ := listB_parts hlb
    have HM := Lib.hid (show mayB ns ls xs f s = mayG ns ls xs f s from by unfold mayB; rw [hlb]; rfl)
    rw [show orgW ns ls xs = orgF ns ls xs (wF ns ls).length from if_pos hlb] at HOR
    rw [hlb] at HG
    have hii : inB f 0 ((xs.length : Int) - 1) = idxB (wF ns ls).length f := by rw [Bool.eq_iff_iff, inB_iff, idxB_iff, hxl]; omega
    rw [hii] at HI1
    clear hlb
    by_cases hf : idxB (wF ns ls).length f = true
    · obtain ⟨k, rfl, hk⟩ := idx_nat hf
      obtain ⟨o, ho, hol⟩ := outW_is hh
      have HAT := Lib.hid (fun h => may_arith (xs := xs) (s := s) hh hk h)
      have HR := Lib.hid (show mayB ns ls xs (k : Int) s = ((!((k : Int) == (o : Int))) && (inB s 0 100 && (!(atZ xs k == 0) || decide (s * totalW ns ls ≤ 100 * (orgF ns ls xs (wF ns ls).length - areaW ns ls (k : Int)))))) from by
        rw [HM.out]
        unfold mayG
        rw [hf, ho, Int.toNat_natCast, Bool.true_and])
      obtain ⟨bx, ox, rfl, hbx, hcx⟩ := seq_at HV.out k (by rw [hxl]; exact hk)
      have HXC := Lib.hid (fun W (hb : Below w.heap.size w W) => (hb.cell (p := ⟨bx, ox + k, none⟩) hbx).trans (hcx k (by rw [hxl]; exact hk)))
      have HBX := Lib.hid hbx
      have z1 : (k : Int) < (xs.length : Int) := by omega
      have z0 : (0 : Int) ≤ k := by omega
      rw [hf] at HI1
      rw [ho] at HO
      clear hf hbx hcx hh hxl ho hk hol HM hii
      generalize mayB ns ls xs (k : Int) s = res at *
      generalize areaW ns ls (k : Int) = ar at *
      generalize orgF ns ls xs (wF ns ls).length = og at *
      generalize totalW ns ls = tt at *
      generalize atZ xs k = y at *
      by_cases hko : k = o
      · subst hko
        have HX := Lib.hid (show res = false from by rw [HR.out]; simp)
        go_enter Tryz.func32, Tryz.ntmps32
        go_wp2_with fail
        refine (HG.out _ (HN.out.step H0.out.below) (HL.out.step H0.out.below) (HV.out.step H0.out.below)).mono ?_
        rintro e w1 ⟨rfl, hb⟩
        have H1 := Lib.hid (H0.out.step hb); clear hb H0
        go_wp2_with fail
        refine (HI1.out _).mono ?_
        rintro e w2 ⟨rfl, rfl⟩
        obtain ⟨x0, x1, _⟩ := H1.out.1
        go_wp2_with fail
        refine (HO.out _ (HN.out.step H1.out.below) (HL.out.step H1.out.below)).mono ?_
        rintro e w3 ⟨rfl, hb⟩
        have H3 := Lib.hid (H1.out.step hb); clear hb H1 x0 x1
        go_wp2_with fail
        go_ret
        exact ⟨ret_bool HX.out.symm, H3.out.below⟩
      · have e1 : ((k : Int) == (o : Int)) = false := by rw [beq_eq_false_iff_ne]; omega
        rw [e1] at HR
        cases hin : inB s 0 100
        · have HX := Lib.hid (show res = false from by rw [HR.out, hin]; rfl)
          rw [hin] at HI2
          clear hin
          go_enter Tryz.func32, Tryz.ntmps32
          go_wp2_with fail
          refine (HG.out _ (HN.out.step H0.out.below) (HL.out.step H0.out.below) (HV.out.step H0.out.below)).mono ?_
          rintro e w1 ⟨rfl, hb⟩
          have H1 := Lib.hid (H0.out.step hb); clear hb H0
          go_wp2_with fail
          refine (HI1.out _).mono ?_
          rintro e w2 ⟨rfl, rfl⟩
          obtain ⟨x0, x1, _⟩ := H1.out.1
          go_wp2_with fail
          refine (HO.out _ (HN.out.step H1.out.below) (HL.out.step H1.out.below)).mono ?_
          rintro e w3 ⟨rfl, hb⟩
          have H3 := Lib.hid (H1.out.step hb); clear hb H1 x0 x1
          go_wp2_with fail
          refine (HI2.out _).mono ?_
          rintro e w4 ⟨rfl, rfl⟩
          go_wp2_with fail
          go_ret
          exact ⟨ret_bool HX.out.symm, H3.out.below⟩
        · obtain ⟨m1, m2, m3⟩ := HAT.out hin
          rw [hin] at HR HI2
          by_cases hy : y = 0
          · subst hy
            have HX := Lib.hid (show res = decide (s * tt ≤ 100 * (og - ar)) from by rw [HR.out]; simp)
            clear HR hin
            go_enter Tryz.func32, Tryz.ntmps32
            go_wp2_with fail
            refine (HG.out _ (HN.out.step H0.out.below) (HL.out.step H0.out.below) (HV.out.step H0.out.below)).mono ?_
            rintro e w1 ⟨rfl, hb⟩
            have H1 := Lib.hid (H0.out.step hb); clear hb H0
            go_wp2_with fail
            refine (HI1.out _).mono ?_
            rintro e w2 ⟨rfl, rfl⟩
            obtain ⟨x0, x1, _⟩ := H1.out.1
            go_wp2_with fail
            refine (HO.out _ (HN.out.step H1.out.below) (HL.out.step H1.out.below)).mono ?_
            rintro e w3 ⟨rfl, hb⟩
            have H3 := Lib.hid (H1.out.step hb); clear hb H1 x0 x1
            go_wp2_with fail
            refine (HI2.out _).mono ?_
            rintro e w4 ⟨rfl, rfl⟩
            have x3 := HXC.out _ H3.out.below
            have H4 := Lib.hid (Held.start (w := w3) (fs := [(w.heap.size, 0, .slice A ns.length c), (w.heap.size, 1, .slice A2 ls.length c2), (bx, ox + k, .int .i64 (0 : Int))]) ⟨H3.out.1.1, H3.out.1.2.1, x3, trivial⟩ ⟨H3.out.2.1.1, H3.out.2.1.1, Nat.lt_of_lt_of_le HBX.out H3.out.below.size, trivial⟩)
            obtain ⟨x0, x1, x2, _⟩ := H4.out.1
            go_wp2_with fail
            refine regionD (S := fun W => Held _ W [(w.heap.size, 0, .slice A ns.length c), (w.heap.size, 1, .slice A2 ls.length c2), (bx, ox + k, .int .i64 (0))]) (by kernel_rfl) H4.out.drew ?_
            iterate 21 (refine takeT (v := ?_) rfl (by kernel_rfl) (by kernel_rfl) (by kernel_rfl) ?_ ?_; rotate_left; (first | (refine Or.inr ⟨by rfl, ?_⟩; with_reducible rfl) | (refine Or.inl ⟨by rfl, fun W hS => detRes_value (w' := W) ?_ hS⟩; obtain ⟨x0, x1, x2, _⟩ := hS.1; go_simp; first | done | with_reducible rfl) | (refine Or.inl ⟨by rfl, fun W hS => ?_⟩; refine detRes_call (w' := W) (f := ?_) (args := ?_) ?_ ?_; rotate_left 2; (go_simp; (refine ⟨?_, ?_⟩ <;> with_reducible rfl)); (first | (with_reducible refine (HOR.out _ ((HN.out.step H3.out.below).step hS.below) ((HL.out.step H3.out.below).step hS.below) ((HV.out.step H3.out.below).step hS.below)).mono ?_) | (with_reducible refine (HAR.out _ ((HN.out.step H3.out.below).step hS.below) ((HL.out.step H3.out.below).step hS.below)).mono ?_) | (with_reducible refine (HTO.out _ ((HN.out.step H3.out.below).step hS.below) ((HL.out.step H3.out.below).step hS.below)).mono ?_) | fail); (first | (rintro e wn ⟨rfl, hb⟩; refine ⟨?_, hS.step hb⟩; with_reducible rfl) | (rintro e wn ⟨rfl, rfl⟩; refine ⟨?_, hS⟩; with_reducible rfl) | fail)) | fail); (simp only [Act.put, List.setIfInBounds_toArray, List.set_cons_zero, List.set_cons_succ]))
            refine doneD (by kernel_rfl) fun wH5 HS => ?_
            have H5 := Lib.hid HS; clear HS
            try clear x0 x1 x2
            obtain ⟨x0, x1, x2, _⟩ := H5.out.1
            go_wp2_with fail
            go_ret
            exact ⟨ret_bool (by first | exact HX.out.symm | (rw [m3, m2]; exact HX.out.symm)), H3.out.below.trans (H5.out.below.mono H3.out.below.size)⟩
          · have e2 : (y == 0) = false := by simpa using hy
            have e3 : (y != 0) = true := by simpa using hy
            have HX := Lib.hid (show res = true from by rw [HR.out, e2]; simp)
            clear HR hin hy
            go_enter Tryz.func32, Tryz.ntmps32
            go_wp2_with fail
            refine (HG.out _ (HN.out.step H0.out.below) (HL.out.step H0.out.below) (HV.out.step H0.out.below)).mono ?_
            rintro e w1 ⟨rfl, hb⟩
            have H1 := Lib.hid (H0.out.step hb); clear hb H0
            go_wp2_with fail
            refine (HI1.out _).mono ?_
            rintro e w2 ⟨rfl, rfl⟩
            obtain ⟨x0, x1, _⟩ := H1.out.1
            go_wp2_with fail
            refine (HO.out _ (HN.out.step H1.out.below) (HL.out.step H1.out.below)).mono ?_
            rintro e w3 ⟨rfl, hb⟩
            have H3 := Lib.hid (H1.out.step hb); clear hb H1 x0 x1
            go_wp2_with fail
            refine (HI2.out _).mono ?_
            rintro e w4 ⟨rfl, rfl⟩
            have x3 := HXC.out _ H3.out.below
            have H4 := Lib.hid (Held.start (w := w3) (fs := [(w.heap.size, 0, .slice A ns.length c), (w.heap.size, 1, .slice A2 ls.length c2), (bx, ox + k, .int .i64 y)]) ⟨H3.out.1.1, H3.out.1.2.1, x3, trivial⟩ ⟨H3.out.2.1.1, H3.out.2.1.1, Nat.lt_of_lt_of_le HBX.out H3.out.below.size, trivial⟩)
            obtain ⟨x0, x1, x2, _⟩ := H4.out.1
            go_wp2_with fail
            refine regionD (S := fun W => Held _ W [(w.heap.size, 0, .slice A ns.length c), (w.heap.size, 1, .slice A2 ls.length c2), (bx, ox + k, .int .i64 (y))]) (by kernel_rfl) H4.out.drew ?_
            iterate 21 (refine takeT (v := ?_) rfl (by kernel_rfl) (by kernel_rfl) (by kernel_rfl) ?_ ?_; rotate_left; (first | (refine Or.inr ⟨by rfl, ?_⟩; with_reducible rfl) | (refine Or.inl ⟨by rfl, fun W hS => detRes_value (w' := W) ?_ hS⟩; obtain ⟨x0, x1, x2, _⟩ := hS.1; go_simp; first | done | with_reducible rfl) | (refine Or.inl ⟨by rfl, fun W hS => ?_⟩; refine detRes_call (w' := W) (f := ?_) (args := ?_) ?_ ?_; rotate_left 2; (go_simp; (refine ⟨?_, ?_⟩ <;> with_reducible rfl)); (first | (with_reducible refine (HOR.out _ ((HN.out.step H3.out.below).step hS.below) ((HL.out.step H3.out.below).step hS.below) ((HV.out.step H3.out.below).step hS.below)).mono ?_) | (with_reducible refine (HAR.out _ ((HN.out.step H3.out.below).step hS.below) ((HL.out.step H3.out.below).step hS.below)).mono ?_) | (with_reducible refine (HTO.out _ ((HN.out.step H3.out.below).step hS.below) ((HL.out.step H3.out.below).step hS.below)).mono ?_) | fail); (first | (rintro e wn ⟨rfl, hb⟩; refine ⟨?_, hS.step hb⟩; with_reducible rfl) | (rintro e wn ⟨rfl, rfl⟩; refine ⟨?_, hS⟩; with_reducible rfl) | fail)) | fail); (simp only [Act.put, List.setIfInBounds_toArray, List.set_cons_zero, List.set_cons_succ]))
            refine doneD (by kernel_rfl) fun wH5 HS => ?_
            have H5 := Lib.hid HS; clear HS
            try clear x0 x1 x2
            obtain ⟨x0, x1, x2, _⟩ := H5.out.1
            go_wp2_with fail
            go_ret
            exact ⟨ret_bool HX.out.symm, H3.out.below.trans (H5.out.below.mono H3.out.below.size)⟩
    · rw [show idxB (wF ns ls).length f = false by simpa using hf] at HI1
      have HX := Lib.hid (show mayB ns ls xs f s = false from by rw [HM.out]; unfold mayG; rw [show idxB (wF ns ls).length f = false by simpa using hf]; rfl)
      clear hf hii hh hxl HM
      generalize mayB ns ls xs f s = res at *
      go_enter Tryz.func32, Tryz.ntmps32
      go_wp2_with fail
      refine (HG.out _ (HN.out.step H0.out.below) (HL.out.step H0.out.below) (HV.out.step H0.out.below)).mono ?_
      rintro e w1 ⟨rfl, hb⟩
      have H1 := Lib.hid (H0.out.step hb); clear hb H0
      go_wp2_with fail
      refine (HI1.out _).mono ?_
      rintro e w2 ⟨rfl, rfl⟩
      go_wp2_with fail
      go_ret
      exact ⟨ret_bool HX.out.symm, H1.out.below⟩
end Go.Proofs.YtepacoacalhdcaaGreat
