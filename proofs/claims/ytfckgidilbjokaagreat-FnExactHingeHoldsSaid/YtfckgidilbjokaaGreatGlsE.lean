/-
  FaceAt, AreaOf, TotalArea, FaceDegrees, of the program.
-/
import Derived.Test.YtfckgidilbjokaaGreatGlsI
namespace Go.Proofs.YtfckgidilbjokaaGreat
open Go.RowKit
set_option linter.unusedVariables false
set_option linter.unusedSimpArgs false

theorem g_area {ns ls : List Nd} {k : Nat} (h : k < (wF ns ls).length) : absR (gN ns ls) (gL ns ls) (atR (wF ns ls) k) = areaW ns ls k := by
  unfold areaW absR
  rw [g_areaR h, if_pos ((idxB_iff _ _).2 (by omega))]
  rfl
theorem g_noarea {ns ls : List Nd} {f : Int} (h : idxB (wF ns ls).length f = false) : areaW ns ls f = -1 := by
  unfold areaW
  rw [if_neg (by rw [h]; simp)]
theorem idx_nat {n : Nat} {f : Int} (h : idxB n f = true) : ∃ k : Nat, f = k ∧ k < n := by
  have := (idxB_iff n f).1 h
  exact ⟨f.toNat, by omega, by omega⟩
set_option maxRecDepth 100000 in
theorem implAreaOf (ns ls : List Nd) (vn vl : Value) (f : Int) (w : World) (hn : Prs w vn ns) (hl : Prs w vl ls) :
    Calls Tryz.prog 82 #[.agg #[vn, vl], .int .i64 f] w (IntIs (areaW ns ls f) w) := by
  have HH := Lib.hid (fun (A1 A2 A3 A4 : Option Addr) (n1 c1 n2 c2 c3 n4 c4 : Nat) w => implHasFace A1 A2 A3 A4 n1 c1 n2 c2 (wF ns ls).length c3 n4 c4 f w (by have := wF_len (ns := ns) (ls := ls); omega))
  unfold BoolIs at HH
  by_cases hf : idxB (wF ns ls).length f = true
  · obtain ⟨k, rfl, hk⟩ := idx_nat hf
    have HA := Lib.hid (fun v1 v2 v3 v4 B w h1 h2 h3 h4 => implArea (gN ns ls) (gL ns ls) v1 v2 v3 v4 (wF ns ls) (gA ns ls) B k w h1 h2 h3 h4 (g_ok ns ls) hk)
    rw [g_area hk] at HA
    unfold IntIs at HA
    rw [hf] at HH
    clear hf hk
    have HN := Lib.hid hn
    have HL := Lib.hid hl
    have HGL := Lib.hid (fun w h1 h2 => implGlass ns ls vn vl w h1 h2)
    unfold GlassNew at HGL
    have H0 := Lib.hid (held_pair w vn vl 32)
    obtain ⟨A, c, rfl⟩ := prs_form2 hn
    obtain ⟨A2, c2, rfl⟩ := prs_form2 hl
    clear hn hl
    generalize areaW ns ls (k : Int) = res at *
    generalize gN ns ls = ns' at *
    generalize gL ns ls = ls' at *
    generalize gA ns ls = ds at *
    generalize wF ns ls = rs at *
    generalize wholeB ns ls = ok at *
    go_enter Tryz.func82, Tryz.ntmps82
    go_wp2_with fail
    refine (HGL.out _ (HN.out.step H0.out.below) (HL.out.step H0.out.below)).mono ?_
    rintro e w1 ⟨v1, v2, v3, v4, rfl, g1, g2, g3, g4, hb⟩
    have H1 := Lib.hid (H0.out.step hb)
    have G0 := Lib.hid (heldG w1 v1 v2 v3 v4 72)
    have B1 := Lib.hid (H1.out.below.trans (G0.out.below.mono H1.out.below.size))
    have G1 := Lib.hid (g1.step G0.out.below)
    have G2 := Lib.hid (g2.step G0.out.below)
    have G3 := Lib.hid (g3.step G0.out.below)
    have G4 := Lib.hid (g4.step G0.out.below)
    obtain ⟨A5, c5, rfl⟩ := prs_form2 g1
    obtain ⟨A6, c6, rfl⟩ := prs_form2 g2
    obtain ⟨A7, c7, rfl⟩ := faces_form g3
    obtain ⟨A8, c8, rfl⟩ := ints_form g4
    clear hb g1 g2 g3 g4
    obtain ⟨x0, x1, _⟩ := H1.out.1
    obtain ⟨y0, y1, y2, y3, _⟩ := G0.out.1
    go_wp2_with fail
    refine (HH.out _ _ _ _ _ _ _ _ _ _ _ _).mono ?_
    rintro e w2 ⟨rfl, hb⟩
    have B2 := Lib.hid (B1.out.trans (hb.mono B1.out.size))
    have G5 := Lib.hid (G1.out.step hb)
    have G6 := Lib.hid (G2.out.step hb)
    have G7 := Lib.hid (G3.out.step hb)
    have G8 := Lib.hid (G4.out.step hb)
    have G9 := Lib.hid (G0.out.step hb)
    clear hb x0 x1 y0 y1 y2 y3
    obtain ⟨y0, y1, y2, y3, _⟩ := G9.out.1
    go_wp2_with fail
    refine (HA.out _ _ _ _ _ _ G5.out G6.out G7.out G8.out).mono ?_
    rintro e w3 ⟨rfl, hb⟩
    have B3 := Lib.hid (B2.out.trans (hb.mono B2.out.size)); clear hb
    go_wp2_with fail
    go_ret
    exact ⟨rfl, B3.out⟩
  · have hff : idxB (wF ns ls).length f = false := by simpa using hf
    have HR := Lib.hid (g_noarea hff)
    rw [hff] at HH
    clear hf hff
    have HN := Lib.hid hn
    have HL := Lib.hid hl
    have HGL := Lib.hid (fun w h1 h2 => implGlass ns ls vn vl w h1 h2)
    unfold GlassNew at HGL
    have H0 := Lib.hid (held_pair w vn vl 32)
    obtain ⟨A, c, rfl⟩ := prs_form2 hn
    obtain ⟨A2, c2, rfl⟩ := prs_form2 hl
    clear hn hl
    generalize areaW ns ls f = res at *
    generalize gN ns ls = ns' at *
    generalize gL ns ls = ls' at *
    generalize gA ns ls = ds at *
    generalize wF ns ls = rs at *
    generalize wholeB ns ls = ok at *
    go_enter Tryz.func82, Tryz.ntmps82
    go_wp2_with fail
    refine (HGL.out _ (HN.out.step H0.out.below) (HL.out.step H0.out.below)).mono ?_
    rintro e w1 ⟨v1, v2, v3, v4, rfl, g1, g2, g3, g4, hb⟩
    have H1 := Lib.hid (H0.out.step hb)
    have G0 := Lib.hid (heldG w1 v1 v2 v3 v4 72)
    have B1 := Lib.hid (H1.out.below.trans (G0.out.below.mono H1.out.below.size))
    have G1 := Lib.hid (g1.step G0.out.below)
    have G2 := Lib.hid (g2.step G0.out.below)
    have G3 := Lib.hid (g3.step G0.out.below)
    have G4 := Lib.hid (g4.step G0.out.below)
    obtain ⟨A5, c5, rfl⟩ := prs_form2 g1
    obtain ⟨A6, c6, rfl⟩ := prs_form2 g2
    obtain ⟨A7, c7, rfl⟩ := faces_form g3
    obtain ⟨A8, c8, rfl⟩ := ints_form g4
    clear hb g1 g2 g3 g4
    obtain ⟨x0, x1, _⟩ := H1.out.1
    obtain ⟨y0, y1, y2, y3, _⟩ := G0.out.1
    go_wp2_with fail
    refine (HH.out _ _ _ _ _ _ _ _ _ _ _ _).mono ?_
    rintro e w2 ⟨rfl, hb⟩
    have B2 := Lib.hid (B1.out.trans (hb.mono B1.out.size))
    clear hb x0 x1 y0 y1 y2 y3
    go_wp2_with fail
    go_ret
    exact ⟨ret_int HR.out.symm, B2.out⟩

noncomputable def totalW (ns ls : List Nd) : Int := areaW ns ls (outW ns ls)
set_option maxRecDepth 100000 in
theorem implTotal (ns ls : List Nd) (vn vl : Value) (w : World) (hn : Prs w vn ns) (hl : Prs w vl ls) :
    Calls Tryz.prog 77 #[.agg #[vn, vl]] w (IntIs (totalW ns ls) w) := by
  have HN := Lib.hid hn
  have HL := Lib.hid hl
  have HO := Lib.hid (fun w h1 h2 => implOuterFace ns ls vn vl w h1 h2)
  have HA := Lib.hid (fun w h1 h2 => implAreaOf ns ls vn vl (outW ns ls) w h1 h2)
  unfold IntIs at HO HA
  have H0 := Lib.hid (held_pair w vn vl 32)
  obtain ⟨A, c, rfl⟩ := prs_form2 hn
  obtain ⟨A2, c2, rfl⟩ := prs_form2 hl
  clear hn hl
  have HR := Lib.hid (show totalW ns ls = areaW ns ls (outW ns ls) from rfl)
  generalize totalW ns ls = res at *
  generalize outW ns ls = o at *
  generalize areaW ns ls o = ar at *
  go_enter Tryz.func77, Tryz.ntmps77
  go_wp2_with fail
  refine regionD (S := fun W => Held _ W [(w.heap.size, 0, .slice A ns.length c), (w.heap.size, 1, .slice A2 ls.length c2)]) (by kernel_rfl) H0.out.drew ?_
  iterate 5 (refine takeT (v := ?_) rfl (by kernel_rfl) (by kernel_rfl) (by kernel_rfl) ?_ ?_; rotate_left; (first | (refine Or.inr ⟨by rfl, ?_⟩; with_reducible rfl) | (refine Or.inl ⟨by rfl, fun W hS => detRes_value (w' := W) ?_ hS⟩; obtain ⟨x0, x1, _⟩ := hS.1; go_simp; first | done | with_reducible rfl) | (refine Or.inl ⟨by rfl, fun W hS => ?_⟩; refine detRes_call (w' := W) (f := ?_) (args := ?_) ?_ ?_; rotate_left 2; (go_simp; (refine ⟨?_, ?_⟩ <;> with_reducible rfl)); (first | (with_reducible refine (HO.out _ (HN.out.step hS.below) (HL.out.step hS.below)).mono ?_) | (with_reducible refine (HA.out _ (HN.out.step hS.below) (HL.out.step hS.below)).mono ?_) | fail); (first | (rintro e wn ⟨rfl, hb⟩; refine ⟨?_, hS.step hb⟩; with_reducible rfl) | (rintro e wn ⟨rfl, rfl⟩; refine ⟨?_, hS⟩; with_reducible rfl) | fail)) | fail); (simp only [Act.put, List.setIfInBounds_toArray, List.set_cons_zero, List.set_cons_succ]))
  refine doneD (by kernel_rfl) fun wH1 HS => ?_
  have H1 := Lib.hid HS; clear HS
  try clear x0 x1
  obtain ⟨x0, x1, _⟩ := H1.out.1
  go_wp2_with fail
  go_ret
  exact ⟨ret_int HR.out.symm, H1.out.below⟩

end Go.Proofs.YtfckgidilbjokaaGreat
