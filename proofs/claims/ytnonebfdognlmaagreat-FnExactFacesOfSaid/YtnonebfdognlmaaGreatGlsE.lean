/-
  FaceAt, AreaOf, TotalArea, FaceDegrees, of the program.
-/
import Derived.Test.YtnonebfdognlmaaGreatGlsI
namespace Go.Proofs.YtnonebfdognlmaaGreat
open Go.RowKit
set_option linter.unusedVariables false
set_option linter.unusedSimpArgs false

theorem g_area {ns ls : List Nd} {k : Nat} (h : k < (wF ns ls).length) : absR (gN ns ls) (gL ns ls) (atR (wF ns ls) k) = areaW ns ls k := by
  unfold areaW absR
  rw [g_areaR h, if_pos ((idxB_iff _ _).2 (by omega))]
  rfl
theorem g_noarea {ns ls : List Nd} {f : Int} (h : idxB (wF ns ls).length f = false) : areaW ns ls f = -1 := by
  unfold areaW
  rw [if_neg (by rw [h]; simp)]
theorem idx_nat {n : Nat} {f : Int} (h : idxB n f = true) : ∃ k : Nat, f = k ∧ k < n := by
  have := (idxB_iff n f).1 h
  exact ⟨f.toNat, by omega, by omega⟩
set_option maxRecDepth 100000 in
theorem implAreaOf (ns ls : List Nd) (vn vl : Value) (f : Int) (w : World) (hn : Prs w vn ns) (hl : Prs w vl ls) :
    Calls Tryz.prog 29 #[.agg #[vn, vl], .int .i64 f] w (IntIs (areaW ns ls f) w) := by
  have HH := Lib.hid (fun (A1 A2 A3 A4 : Option Addr) (n1 c1 n2 c2 c3 n4 c4 : Nat) w => implHasFace A1 A2 A3 A4 n1 c1 n2 c2 (wF ns ls).length c3 n4 c4 f w (by have := wF_len (ns := ns) (ls := ls); omega))
  unfold BoolIs at HH
  by_cases hf : idxB (wF ns ls).length f = true
  · obtain ⟨k, rfl, hk⟩ := idx_nat hf
    have HA := Lib.hid (fun v1 v2 v3 v4 B w h1 h2 h3 h4 => implArea (gN ns ls) (gL ns ls) v1 v2 v3 v4 (wF ns ls) (gA ns ls) B k w h1 h2 h3 h4 (g_ok ns ls) hk)
    rw [g_area hk] at HA
    unfold IntIs at HA
    rw [hf] at HH
    clear hf hk
    have HN := Lib.hid hn
    have HL := Lib.hid hl
    have HGL := Lib.hid (fun w h1 h2 => implGlass ns ls vn vl w h1 h2)
    unfold GlassNew at HGL
    have H0 := Lib.hid (held_pair w vn vl 32)
    obtain ⟨A, c, rfl⟩ := prs_form2 hn
    obtain ⟨A2, c2, rfl⟩ := prs_form2 hl
    clear hn hl
    generalize areaW ns ls (k : Int) = res at *
    generalize gN ns ls = ns' at *
    generalize gL ns ls = ls' at *
    generalize gA ns ls = ds at *
    generalize wF ns ls = rs at *
    generalize wholeB ns ls = ok at *
    go_enter Tryz.func29, Tryz.ntmps29
    go_wp2_with fail
    refine (HGL.out _ (HN.out.step H0.out.below) (HL.out.step H0.out.below)).mono ?_
    rintro e w1 ⟨v1, v2, v3, v4, rfl, g1, g2, g3, g4, hb⟩
    have H1 := Lib.hid (H0.out.step hb)
    have G0 := Lib.hid (heldG w1 v1 v2 v3 v4 61)
    have B1 := Lib.hid (H1.out.below.trans (G0.out.below.mono H1.out.below.size))
    have G1 := Lib.hid (g1.step G0.out.below)
    have G2 := Lib.hid (g2.step G0.out.below)
    have G3 := Lib.hid (g3.step G0.out.below)
    have G4 := Lib.hid (g4.step G0.out.below)
    obtain ⟨A5, c5, rfl⟩ := prs_form2 g1
    obtain ⟨A6, c6, rfl⟩ := prs_form2 g2
    obtain ⟨A7, c7, rfl⟩ := faces_form g3
    obtain ⟨A8, c8, rfl⟩ := ints_form g4
    clear hb g1 g2 g3 g4
    obtain ⟨x0, x1, _⟩ := H1.out.1
    obtain ⟨y0, y1, y2, y3, _⟩ := G0.out.1
    go_wp2_with fail
    refine (HH.out _ _ _ _ _ _ _ _ _ _ _ _).mono ?_
    rintro e w2 ⟨rfl, hb⟩
    have B2 := Lib.hid (B1.out.trans (hb.mono B1.out.size))
    have G5 := Lib.hid (G1.out.step hb)
    have G6 := Lib.hid (G2.out.step hb)
    have G7 := Lib.hid (G3.out.step hb)
    have G8 := Lib.hid (G4.out.step hb)
    have G9 := Lib.hid (G0.out.step hb)
    clear hb x0 x1 y0 y1 y2 y3
    obtain ⟨y0, y1, y2, y3, _⟩ := G9.out.1
    go_wp2_with fail
    refine (HA.out _ _ _ _ _ _ G5.out G6.out G7.out G8.out).mono ?_
    rintro e w3 ⟨rfl, hb⟩
    have B3 := Lib.hid (B2.out.trans (hb.mono B2.out.size)); clear hb
    go_wp2_with fail
    go_ret
    exact ⟨rfl, B3.out⟩
  · have hff : idxB (wF ns ls).length f = false := by simpa using hf
    have HR := Lib.hid (g_noarea hff)
    rw [hff] at HH
    clear hf hff
    have HN := Lib.hid hn
    have HL := Lib.hid hl
    have HGL := Lib.hid (fun w h1 h2 => implGlass ns ls vn vl w h1 h2)
    unfold GlassNew at HGL
    have H0 := Lib.hid (held_pair w vn vl 32)
    obtain ⟨A, c, rfl⟩ := prs_form2 hn
    obtain ⟨A2, c2, rfl⟩ := prs_form2 hl
    clear hn hl
    generalize areaW ns ls f = res at *
    generalize gN ns ls = ns' at *
    generalize gL ns ls = ls' at *
    generalize gA ns ls = ds at *
    generalize wF ns ls = rs at *
    generalize wholeB ns ls = ok at *
    go_enter Tryz.func29, Tryz.ntmps29
    go_wp2_with fail
    refine (HGL.out _ (HN.out.step H0.out.below) (HL.out.step H0.out.below)).mono ?_
    rintro e w1 ⟨v1, v2, v3, v4, rfl, g1, g2, g3, g4, hb⟩
    have H1 := Lib.hid (H0.out.step hb)
    have G0 := Lib.hid (heldG w1 v1 v2 v3 v4 61)
    have B1 := Lib.hid (H1.out.below.trans (G0.out.below.mono H1.out.below.size))
    have G1 := Lib.hid (g1.step G0.out.below)
    have G2 := Lib.hid (g2.step G0.out.below)
    have G3 := Lib.hid (g3.step G0.out.below)
    have G4 := Lib.hid (g4.step G0.out.below)
    obtain ⟨A5, c5, rfl⟩ := prs_form2 g1
    obtain ⟨A6, c6, rfl⟩ := prs_form2 g2
    obtain ⟨A7, c7, rfl⟩ := faces_form g3
    obtain ⟨A8, c8, rfl⟩ := ints_form g4
    clear hb g1 g2 g3 g4
    obtain ⟨x0, x1, _⟩ := H1.out.1
    obtain ⟨y0, y1, y2, y3, _⟩ := G0.out.1
    go_wp2_with fail
    refine (HH.out _ _ _ _ _ _ _ _ _ _ _ _).mono ?_
    rintro e w2 ⟨rfl, hb⟩
    have B2 := Lib.hid (B1.out.trans (hb.mono B1.out.size))
    clear hb x0 x1 y0 y1 y2 y3
    go_wp2_with fail
    go_ret
    exact ⟨ret_int HR.out.symm, B2.out⟩

noncomputable def totalW (ns ls : List Nd) : Int := areaW ns ls (outW ns ls)
set_option maxRecDepth 100000 in
theorem implTotal (ns ls : List Nd) (vn vl : Value) (w : World) (hn : Prs w vn ns) (hl : Prs w vl ls) :
    Calls Tryz.prog 31 #[.agg #[vn, vl]] w (IntIs (totalW ns ls) w) := by
  have HN := Lib.hid hn
  have HL := Lib.hid hl
  have HO := Lib.hid (fun w h1 h2 => implOuterFace ns ls vn vl w h1 h2)
  have HA := Lib.hid (fun w h1 h2 => implAreaOf ns ls vn vl (outW ns ls) w h1 h2)
  unfold IntIs at HO HA
  have H0 := Lib.hid (held_pair w vn vl 32)
  obtain ⟨A, c, rfl⟩ := prs_form2 hn
  obtain ⟨A2, c2, rfl⟩ := prs_form2 hl
  clear hn hl
  have HR := Lib.hid (show totalW ns ls = areaW ns ls (outW ns ls) from rfl)
  generalize totalW ns ls = res at *
  generalize outW ns ls = o at *
  generalize areaW ns ls o = ar at *
  go_enter Tryz.func31, Tryz.ntmps31
  go_wp2_with fail
  refine regionD (S := fun W => Held _ W [(w.heap.size, 0, .slice A ns.length c), (w.heap.size, 1, .slice A2 ls.length c2)]) (by kernel_rfl) H0.out.drew ?_
  iterate 5 (refine takeT (v := ?_) rfl (by kernel_rfl) (by kernel_rfl) (by kernel_rfl) ?_ ?_; rotate_left; (first | (refine Or.inr ⟨by rfl, ?_⟩; with_reducible rfl) | (refine Or.inl ⟨by rfl, fun W hS => detRes_value (w' := W) ?_ hS⟩; obtain ⟨x0, x1, _⟩ := hS.1; go_simp; first | done | with_reducible rfl) | (refine Or.inl ⟨by rfl, fun W hS => ?_⟩; refine detRes_call (w' := W) (f := ?_) (args := ?_) ?_ ?_; rotate_left 2; (go_simp; (refine ⟨?_, ?_⟩ <;> with_reducible rfl)); (first | (with_reducible refine (HO.out _ (HN.out.step hS.below) (HL.out.step hS.below)).mono ?_) | (with_reducible refine (HA.out _ (HN.out.step hS.below) (HL.out.step hS.below)).mono ?_) | fail); (first | (rintro e wn ⟨rfl, hb⟩; refine ⟨?_, hS.step hb⟩; with_reducible rfl) | (rintro e wn ⟨rfl, rfl⟩; refine ⟨?_, hS⟩; with_reducible rfl) | fail)) | fail); (simp only [Act.put, List.setIfInBounds_toArray, List.set_cons_zero, List.set_cons_succ]))
  refine doneD (by kernel_rfl) fun wH1 HS => ?_
  have H1 := Lib.hid HS; clear HS
  try clear x0 x1
  obtain ⟨x0, x1, _⟩ := H1.out.1
  go_wp2_with fail
  go_ret
  exact ⟨ret_int HR.out.symm, H1.out.below⟩

/-- The face to the left of a dart. -/
noncomputable def faceW (ns ls : List Nd) (d : Int) : Int := faceI (wF ns ls) d
theorem faceW_in {ns ls : List Nd} {d : Nat} (hh : wholeB ns ls = true) (hd : d < 2 * ls.length) : faceW ns ls d = atZ (atW ns ls) d := by
  unfold faceW wF
  rw [if_pos hh]
  exact (atW_face (whole_win hh).1 hd).1.symm
theorem faceW_out {ns ls : List Nd} {d : Int} (h : ¬ (wholeB ns ls = true ∧ idxB (2 * ls.length) d = true)) : faceW ns ls d = -1 := by
  refine faceI_unseen ?_
  rw [Bool.eq_false_iff]
  intro hs
  obtain ⟨hh, q, rfl, hq⟩ := wF_dart hs
  exact h ⟨hh, (idxB_iff _ _).2 (by omega)⟩
set_option maxRecDepth 100000 in
theorem implFaceAt (ns ls : List Nd) (vn vl : Value) (d : Int) (w : World) (hn : Prs w vn ns) (hl : Prs w vl ls) :
    Calls Tryz.prog 25 #[.agg #[vn, vl], .int .i64 d] w (IntIs (faceW ns ls d) w) := by
  by_cases hh : wholeB ns ls = true
  · obtain ⟨hw, hl0, h20, h12⟩ := whole_win hh
    have HD := Lib.hid (fun (A1 A2 : Option Addr) (n1 c1 c2 : Nat) w => dHas A1 A2 n1 c1 ls.length c2 d w (by omega))
    unfold BoolIs at HD
    have e1 : gN ns ls = ns := if_pos hh
    have e2 : gL ns ls = ls := if_pos hh
    have e3 : gA ns ls = atW ns ls := if_pos hh
    by_cases hi : idxB (2 * ls.length) d = true
    · obtain ⟨q, rfl, hq⟩ := idx_nat hi
      have HR := Lib.hid (faceW_in hh hq)
      have HAL := Lib.hid (atW_len ns ls)
      rw [hi] at HD
      clear hi
      have HN := Lib.hid hn
      have HL := Lib.hid hl
      have HGL := Lib.hid (fun w h1 h2 => implGlass ns ls vn vl w h1 h2)
      unfold GlassNew at HGL
      have H0 := Lib.hid (held_pair w vn vl 32)
      obtain ⟨A, c, rfl⟩ := prs_form2 hn
      obtain ⟨A2, c2, rfl⟩ := prs_form2 hl
      clear hn hl
      rw [hh, e1, e2, e3] at HGL
      clear hh e1 e2 e3 hw
      generalize faceW ns ls (q : Int) = res at *
      generalize wF ns ls = rs at *
      generalize atW ns ls = ds at *
      go_enter Tryz.func25, Tryz.ntmps25
      go_wp2_with fail
      refine (HGL.out _ (HN.out.step H0.out.below) (HL.out.step H0.out.below)).mono ?_
      rintro e w1 ⟨v1, v2, v3, v4, rfl, g1, g2, g3, g4, hb⟩
      have H1 := Lib.hid (H0.out.step hb)
      have G0 := Lib.hid (heldG w1 v1 v2 v3 v4 61)
      have B1 := Lib.hid (H1.out.below.trans (G0.out.below.mono H1.out.below.size))
      have G1 := Lib.hid (g1.step G0.out.below)
      have G2 := Lib.hid (g2.step G0.out.below)
      have G3 := Lib.hid (g3.step G0.out.below)
      have G4 := Lib.hid (g4.step G0.out.below)
      obtain ⟨A5, c5, rfl⟩ := prs_form2 g1
      obtain ⟨A6, c6, rfl⟩ := prs_form2 g2
      obtain ⟨A7, c7, rfl⟩ := faces_form g3
      obtain ⟨A8, c8, rfl⟩ := ints_form g4
      clear hb g1 g2 g3 g4
      obtain ⟨x0, x1, _⟩ := H1.out.1
      obtain ⟨y0, y1, y2, y3, _⟩ := G0.out.1
      go_wp2_with fail
      refine (HD.out _ _ _ _ _ _).mono ?_
      rintro e w2 ⟨rfl, hb⟩
      have B2 := Lib.hid (B1.out.trans (hb.mono B1.out.size))
      have G8 := Lib.hid (G4.out.step hb)
      have G9 := Lib.hid (G0.out.step hb)
      clear hb x0 x1 y0 y1 y2 y3
      obtain ⟨y0, y1, y2, y3, _⟩ := G9.out.1
      have hq2 : (q : Int) < (ds.length : Int) := by have := HAL.out; omega
      have hq0 : (0 : Int) ≤ q := by omega
      obtain ⟨gd, cd, hgd⟩ := G8.out.some_ (by have := HAL.out; omega)
      injection hgd with ea eb ec
      subst ea
      clear eb ec
      obtain ⟨k0, -, -, -, -⟩ := G8.out.at_ (j := q) (by have := HAL.out; omega)
      generalize atZ ds q = z at *
      go_wp2_with fail
      go_ret
      exact ⟨ret_int HR.out.symm, B2.out⟩
    · have HR := Lib.hid (faceW_out (ns := ns) (ls := ls) (d := d) (fun h => hi h.2))
      rw [show idxB (2 * ls.length) d = false by simpa using hi] at HD
      clear hi
      have HN := Lib.hid hn
      have HL := Lib.hid hl
      have HGL := Lib.hid (fun w h1 h2 => implGlass ns ls vn vl w h1 h2)
      unfold GlassNew at HGL
      have H0 := Lib.hid (held_pair w vn vl 32)
      obtain ⟨A, c, rfl⟩ := prs_form2 hn
      obtain ⟨A2, c2, rfl⟩ := prs_form2 hl
      clear hn hl
      rw [hh, e1, e2, e3] at HGL
      clear hh e1 e2 e3 hw
      generalize faceW ns ls d = res at *
      generalize wF ns ls = rs at *
      generalize atW ns ls = ds at *
      go_enter Tryz.func25, Tryz.ntmps25
      go_wp2_with fail
      refine (HGL.out _ (HN.out.step H0.out.below) (HL.out.step H0.out.below)).mono ?_
      rintro e w1 ⟨v1, v2, v3, v4, rfl, g1, g2, g3, g4, hb⟩
      have H1 := Lib.hid (H0.out.step hb)
      have G0 := Lib.hid (heldG w1 v1 v2 v3 v4 61)
      have B1 := Lib.hid (H1.out.below.trans (G0.out.below.mono H1.out.below.size))
      have G1 := Lib.hid (g1.step G0.out.below)
      have G2 := Lib.hid (g2.step G0.out.below)
      have G3 := Lib.hid (g3.step G0.out.below)
      have G4 := Lib.hid (g4.step G0.out.below)
      obtain ⟨A5, c5, rfl⟩ := prs_form2 g1
      obtain ⟨A6, c6, rfl⟩ := prs_form2 g2
      obtain ⟨A7, c7, rfl⟩ := faces_form g3
      obtain ⟨A8, c8, rfl⟩ := ints_form g4
      clear hb g1 g2 g3 g4
      obtain ⟨x0, x1, _⟩ := H1.out.1
      obtain ⟨y0, y1, y2, y3, _⟩ := G0.out.1
      go_wp2_with fail
      refine (HD.out _ _ _ _ _ _).mono ?_
      rintro e w2 ⟨rfl, hb⟩
      have B2 := Lib.hid (B1.out.trans (hb.mono B1.out.size))
      clear hb x0 x1 y0 y1 y2 y3
      go_wp2_with fail
      go_ret
      exact ⟨ret_int HR.out.symm, B2.out⟩
  · have HR := Lib.hid (faceW_out (ns := ns) (ls := ls) (d := d) (fun h => hh h.1))
    have HN := Lib.hid hn
    have HL := Lib.hid hl
    have HGL := Lib.hid (fun w h1 h2 => implGlass ns ls vn vl w h1 h2)
    unfold GlassNew at HGL
    have H0 := Lib.hid (held_pair w vn vl 32)
    obtain ⟨A, c, rfl⟩ := prs_form2 hn
    obtain ⟨A2, c2, rfl⟩ := prs_form2 hl
    clear hn hl
    rw [show wholeB ns ls = false by simpa using hh] at HGL
    clear hh
    generalize faceW ns ls d = res at *
    generalize gN ns ls = ns' at *
    generalize gL ns ls = ls' at *
    generalize gA ns ls = ds at *
    generalize wF ns ls = rs at *
    go_enter Tryz.func25, Tryz.ntmps25
    go_wp2_with fail
    refine (HGL.out _ (HN.out.step H0.out.below) (HL.out.step H0.out.below)).mono ?_
    rintro e w1 ⟨v1, v2, v3, v4, rfl, g1, g2, g3, g4, hb⟩
    have H1 := Lib.hid (H0.out.step hb)
    have G0 := Lib.hid (heldG w1 v1 v2 v3 v4 61)
    have B1 := Lib.hid (H1.out.below.trans (G0.out.below.mono H1.out.below.size))
    have G1 := Lib.hid (g1.step G0.out.below)
    have G2 := Lib.hid (g2.step G0.out.below)
    have G3 := Lib.hid (g3.step G0.out.below)
    have G4 := Lib.hid (g4.step G0.out.below)
    obtain ⟨A5, c5, rfl⟩ := prs_form2 g1
    obtain ⟨A6, c6, rfl⟩ := prs_form2 g2
    obtain ⟨A7, c7, rfl⟩ := faces_form g3
    obtain ⟨A8, c8, rfl⟩ := ints_form g4
    clear hb g1 g2 g3 g4
    obtain ⟨x0, x1, _⟩ := H1.out.1
    obtain ⟨y0, y1, y2, y3, _⟩ := G0.out.1
    go_wp2_with fail
    go_ret
    exact ⟨ret_int HR.out.symm, B1.out⟩

set_option maxRecDepth 100000 in
theorem implFacesL (ns ls : List Nd) (vn vl : Value) (w : World) (hn : Prs w vn ns) (hl : Prs w vl ls) :
    Calls Tryz.prog 18 #[.agg #[vn, vl]] w (FacesNew (wF ns ls) w) := by
  have HN := Lib.hid hn
  have HL := Lib.hid hl
  have HGL := Lib.hid (fun w h1 h2 => implGlass ns ls vn vl w h1 h2)
  unfold GlassNew at HGL
  have H0 := Lib.hid (held_pair w vn vl 32)
  obtain ⟨A, c, rfl⟩ := prs_form2 hn
  obtain ⟨A2, c2, rfl⟩ := prs_form2 hl
  clear hn hl
  generalize gN ns ls = ns' at *
  generalize gL ns ls = ls' at *
  generalize gA ns ls = ds at *
  generalize wF ns ls = rs at *
  generalize wholeB ns ls = ok at *
  go_enter Tryz.func18, Tryz.ntmps18
  go_wp2_with fail
  refine (HGL.out _ (HN.out.step H0.out.below) (HL.out.step H0.out.below)).mono ?_
  rintro e w1 ⟨v1, v2, v3, v4, rfl, g1, g2, g3, g4, hb⟩
  have H1 := Lib.hid (H0.out.step hb)
  have G0 := Lib.hid (heldG w1 v1 v2 v3 v4 61)
  have B1 := Lib.hid (H1.out.below.trans (G0.out.below.mono H1.out.below.size))
  have G1 := Lib.hid (g1.step G0.out.below)
  have G2 := Lib.hid (g2.step G0.out.below)
  have G3 := Lib.hid (g3.step G0.out.below)
  have G4 := Lib.hid (g4.step G0.out.below)
  obtain ⟨A5, c5, rfl⟩ := prs_form2 g1
  obtain ⟨A6, c6, rfl⟩ := prs_form2 g2
  obtain ⟨A7, c7, rfl⟩ := faces_form g3
  obtain ⟨A8, c8, rfl⟩ := ints_form g4
  clear hb g1 g2 g3 g4
  obtain ⟨x0, x1, _⟩ := H1.out.1
  obtain ⟨y0, y1, y2, y3, _⟩ := G0.out.1
  go_wp2_with fail
  go_ret
  exact ⟨_, rfl, G3.out.mono H0.out.below.size, B1.out⟩
end Go.Proofs.YtnonebfdognlmaaGreat
