/-
  FaceAt, OuterFace, AreaOf, TotalArea, of the model.
-/
import Derived.Test.YtepacoacalhdcaaGreatG15
import Derived.Test.YtepacoacalhdcaaGreatWalkS
namespace Go.Proofs.YtepacoacalhdcaaGreat
open Go.RowKit
set_option linter.unusedVariables false
set_option linter.unusedSimpArgs false

set_option maxRecDepth 100000 in
theorem specOuterFace (ns ls : List Nd) (vn vl : Value) (w : World) (hn : Prs w vn ns) (hl : Prs w vl ls) :
    Calls Tryz.prog 85 #[.agg #[vn, vl]] w (IntIs (outW ns ls) w) := by
  have HOK := Lib.hid (wF_ok ns ls).2
  have HAL := Lib.hid (fun l vx w (hx : Seq w vx l) hn hl hw hd h4 => specAlong ns ls vn vl vx l w hn hl hx hw hd h4)
  unfold IntIs at HAL
  have HN := Lib.hid hn
  have HL := Lib.hid hl
  have HF := Lib.hid (fun w h1 h2 => specFacesL ns ls vn vl w h1 h2)
  unfold FacesNew at HF
  have H0 := Lib.hid (held_pair w vn vl 32)
  obtain ⟨A, c, rfl⟩ := prs_form2 hn
  obtain ⟨A2, c2, rfl⟩ := prs_form2 hl
  clear hn hl
  have h40 := wF_len (ns := ns) (ls := ls)
  have HNO := Lib.hid (fun h => firstI_none (p := outP ns ls (wF ns ls)) (wF ns ls).length h)
  have HYE := Lib.hid (fun m (hm : m < (wF ns ls).length) h1 h2 => firstI_at (p := outP ns ls (wF ns ls)) (m := m) h1 h2 (wF ns ls).length hm)
  have HR := Lib.hid (show outW ns ls = firstI (outP ns ls (wF ns ls)) (wF ns ls).length from rfl)
  have HP := Lib.hid (fun k => show outP ns ls (wF ns ls) k = decide (areaL ns ls (atR (wF ns ls) k) (atR (wF ns ls) k).length ≤ 0) from rfl)
  generalize outW ns ls = res at *
  generalize outP ns ls (wF ns ls) = p at *
  generalize wF ns ls = rs at *
  go_enter Tryz.func85, Tryz.ntmps85
  go_wp2_with fail
  refine (HF.out _ (HN.out.step H0.out.below) (HL.out.step H0.out.below)).mono ?_
  rintro e w1 ⟨vf, rfl, hf, hb⟩
  have H1 := Lib.hid (H0.out.step hb); clear hb
  obtain ⟨a, c3, rfl, hmax, hro⟩ := hf.open_
  have HRO := Lib.hid hro; clear hro hf H0
  go_wp2_with fail
  go_loopw [4] (fun i wr => ∃ m : Nat, m ≤ rs.length ∧ i = .int .i64 m ∧ (∀ j, j < m → p j = false) ∧ Held w wr [(w.heap.size, 0, .slice A ns.length c), (w.heap.size, 1, .slice A2 ls.length c2)] ∧ Below w1.heap.size w1 wr) (fun i _ => rs.length - (intOf i).toNat)
  case atStart => exact ⟨0, Nat.zero_le _, rfl, fun j hj => by omega, H1.out, Below.refl _ _⟩
  case round =>
    clear H1
    obtain ⟨m, hm, rfl, hz, hh, hbb⟩ := hrel
    have HZ := Lib.hid hz; clear hz
    have H1 := Lib.hid hh; clear hh
    have B1 := Lib.hid hbb; clear hbb
    by_cases hlt : m < rs.length
    · obtain ⟨g3, rfl, hg3, hrw⟩ := HRO.out m hlt
      obtain ⟨A4, c4, k0, hsq⟩ := hrw wr B1.out
      obtain ⟨hw, hd, h4⟩ := HOK.out m hlt
      have HSQ := Lib.hid hsq
      have HA := Lib.hid (fun w hn hl (hx : Seq w (.slice A4 (atR rs m).length c4) (atR rs m)) => HAL.out (atR rs m) (.slice A4 (atR rs m).length c4) w hx hn hl hw hd h4)
      have HPM := HP.out m
      have H5 := Lib.hid (Held.start (w := wr) (fs := [(w.heap.size, 0, .slice A ns.length c), (w.heap.size, 1, .slice A2 ls.length c2), (g3, m, .slice A4 (atR rs m).length c4)]) ⟨H1.out.1.1, H1.out.1.2.1, k0, trivial⟩ ⟨H1.out.2.1.1, H1.out.2.1.1, Nat.lt_of_lt_of_le hg3 B1.out.size, trivial⟩)
      clear hsq hrw hw hd k0
      have q1 : (0 : Int) ≤ m := by omega
      have q2 : (m : Int) < (rs.length : Int) := by omega
      generalize areaL ns ls (atR rs m) (atR rs m).length = ar at *
      generalize (atR rs m).length = rl at *
      obtain ⟨x0, x1, x2, _⟩ := H5.out.1
      by_cases hp : ar ≤ 0
      · have HPT := Lib.hid (show p m = true from by rw [HPM]; simpa using hp)
        clear HPM
        go_wp2_with fail
        refine regionD (S := fun W => Held _ W [(w.heap.size, 0, .slice A ns.length c), (w.heap.size, 1, .slice A2 ls.length c2), (g3, m, .slice A4 rl c4)]) (by kernel_rfl) H5.out.drew ?_
        iterate 7 (refine takeT (v := ?_) rfl (by kernel_rfl) (by kernel_rfl) (by kernel_rfl) ?_ ?_; rotate_left; (first | (refine Or.inr ⟨by rfl, ?_⟩; with_reducible rfl) | (refine Or.inl ⟨by rfl, fun W hS => detRes_value (w' := W) ?_ hS⟩; obtain ⟨x0, x1, x2, _⟩ := hS.1; go_simp; first | done | with_reducible rfl) | (refine Or.inl ⟨by rfl, fun W hS => ?_⟩; refine detRes_call (w' := W) (f := ?_) (args := ?_) ?_ ?_; rotate_left 2; (go_simp; (refine ⟨?_, ?_⟩ <;> with_reducible rfl)); (first | (with_reducible refine (HA.out _ ((HN.out.step H1.out.below).step hS.below) ((HL.out.step H1.out.below).step hS.below) (HSQ.out.step hS.below)).mono ?_) | fail); (first | (rintro e wn ⟨rfl, hb⟩; refine ⟨?_, hS.step hb⟩; with_reducible rfl) | (rintro e wn ⟨rfl, rfl⟩; refine ⟨?_, hS⟩; with_reducible rfl) | fail)) | fail); (simp only [Act.put, List.setIfInBounds_toArray, List.set_cons_zero, List.set_cons_succ]))
        refine doneD (by kernel_rfl) fun wH6 HS => ?_
        have H6 := Lib.hid HS; clear HS
        try clear x0 x1 x2
        obtain ⟨x0, x1, x2, _⟩ := H6.out.1
        go_wp2_with fail
        go_ret
        exact ⟨ret_int (by rw [HR.out]; exact (HYE.out m hlt HZ.out HPT.out).symm), H1.out.below.trans (H6.out.below.mono H1.out.below.size)⟩
      · have HPT := Lib.hid (show p m = false from by rw [HPM]; simpa using hp)
        clear HPM
        go_wp2_with fail
        refine regionD (S := fun W => Held _ W [(w.heap.size, 0, .slice A ns.length c), (w.heap.size, 1, .slice A2 ls.length c2), (g3, m, .slice A4 rl c4)]) (by kernel_rfl) H5.out.drew ?_
        iterate 7 (refine takeT (v := ?_) rfl (by kernel_rfl) (by kernel_rfl) (by kernel_rfl) ?_ ?_; rotate_left; (first | (refine Or.inr ⟨by rfl, ?_⟩; with_reducible rfl) | (refine Or.inl ⟨by rfl, fun W hS => detRes_value (w' := W) ?_ hS⟩; obtain ⟨x0, x1, x2, _⟩ := hS.1; go_simp; first | done | with_reducible rfl) | (refine Or.inl ⟨by rfl, fun W hS => ?_⟩; refine detRes_call (w' := W) (f := ?_) (args := ?_) ?_ ?_; rotate_left 2; (go_simp; (refine ⟨?_, ?_⟩ <;> with_reducible rfl)); (first | (with_reducible refine (HA.out _ ((HN.out.step H1.out.below).step hS.below) ((HL.out.step H1.out.below).step hS.below) (HSQ.out.step hS.below)).mono ?_) | fail); (first | (rintro e wn ⟨rfl, hb⟩; refine ⟨?_, hS.step hb⟩; with_reducible rfl) | (rintro e wn ⟨rfl, rfl⟩; refine ⟨?_, hS⟩; with_reducible rfl) | fail)) | fail); (simp only [Act.put, List.setIfInBounds_toArray, List.set_cons_zero, List.set_cons_succ]))
        refine doneD (by kernel_rfl) fun wH6 HS => ?_
        have H6 := Lib.hid HS; clear HS
        try clear x0 x1 x2
        obtain ⟨x0, x1, x2, _⟩ := H6.out.1
        go_wp2_with fail
        exact ⟨⟨m + 1, by omega, by go_num, fun j hj => by
          by_cases e : j = m
          · subst e; exact HPT.out
          · exact HZ.out j (by omega), H1.out.step H6.out.below, B1.out.trans (H6.out.below.mono B1.out.size)⟩, by simp [intOf]; omega⟩
    · obtain rfl : m = rs.length := by omega
      go_wp2_with fail
      go_ret
      exact ⟨ret_int (by rw [HR.out]; exact (HNO.out HZ.out).symm), H1.out.below⟩

set_option maxRecDepth 100000 in
set_option maxHeartbeats 1000000 in
theorem specAreaOf (ns ls : List Nd) (vn vl : Value) (f : Int) (w : World) (hn : Prs w vn ns) (hl : Prs w vl ls) :
    Calls Tryz.prog 86 #[.agg #[vn, vl], .int .i64 f] w (IntIs (areaW ns ls f) w) := by
  have HIN := Lib.hid (fun w => specIn f 0 (((wF ns ls).length : Int) - 1) w)
  have h40 := wF_len (ns := ns) (ls := ls)
  by_cases hf : idxB (wF ns ls).length f = true
  · obtain ⟨k, rfl, hk⟩ := idx_nat hf
    obtain ⟨hw, hd, h4⟩ := (wF_ok ns ls).2 k hk
    have hbd := areaR_bd (wF_ok ns ls) hk
    have HAL := Lib.hid (fun vx w (hx : Seq w vx (atR (wF ns ls) k)) hn hl => specAlong ns ls vn vl vx (atR (wF ns ls) k) w hn hl hx hw hd h4)
    unfold IntIs at HAL
    unfold areaR at hbd
    rw [show inB (k : Int) 0 (((wF ns ls).length : Int) - 1) = true by simp [inB]; omega] at HIN
    have HR := Lib.hid (show areaW ns ls k = max (areaL ns ls (atR (wF ns ls) k) (atR (wF ns ls) k).length) (-(areaL ns ls (atR (wF ns ls) k) (atR (wF ns ls) k).length)) from by unfold areaW absR; rw [if_pos hf]; rfl)
    clear hf hw hd
    have HN := Lib.hid hn
    have HL := Lib.hid hl
    have HF := Lib.hid (fun w h1 h2 => specFacesL ns ls vn vl w h1 h2)
    unfold FacesNew at HF
    have H0 := Lib.hid (held_pair w vn vl 32)
    obtain ⟨A, c, rfl⟩ := prs_form2 hn
    obtain ⟨A2, c2, rfl⟩ := prs_form2 hl
    clear hn hl
    generalize areaW ns ls (k : Int) = res at *
    generalize wF ns ls = rs at *
    go_enter Tryz.func86, Tryz.ntmps86
    go_wp2_with fail
    refine (HF.out _ (HN.out.step H0.out.below) (HL.out.step H0.out.below)).mono ?_
    rintro e w1 ⟨vf, rfl, hf, hb⟩
    have H1 := Lib.hid (H0.out.step hb); clear hb
    obtain ⟨a, c3, rfl, hmax, hro⟩ := hf.open_
    have HRO := Lib.hid hro; clear hro hf H0
    obtain ⟨g3, rfl, hg3, hrw⟩ := HRO.out k hk
    obtain ⟨A4, c4, k0, hsq⟩ := hrw w1 (Below.refl _ _)
    have HSQ := Lib.hid hsq
    have HA := Lib.hid (fun w (hx : Seq w (.slice A4 (atR rs k).length c4) (atR rs k)) hn hl => HAL.out (.slice A4 (atR rs k).length c4) w hx hn hl)
    have H5 := Lib.hid (Held.start (w := w1) (fs := [(w.heap.size, 0, .slice A ns.length c), (w.heap.size, 1, .slice A2 ls.length c2), (g3, k, .slice A4 (atR rs k).length c4)]) ⟨H1.out.1.1, H1.out.1.2.1, k0, trivial⟩ ⟨H1.out.2.1.1, H1.out.2.1.1, hg3, trivial⟩)
    clear hsq hrw k0 HAL
    have q1 : (0 : Int) ≤ k := by omega
    have q2 : (k : Int) < (rs.length : Int) := by omega
    generalize areaL ns ls (atR rs k) (atR rs k).length = ar at *
    generalize (atR rs k).length = rl at *
    go_wp2_with fail
    refine (HIN.out _).mono ?_
    rintro e w2 ⟨rfl, rfl⟩
    obtain ⟨x0, x1, x2, _⟩ := H5.out.1
    go_wp2_with fail
    refine regionD (S := fun W => Held _ W [(w.heap.size, 0, .slice A ns.length c), (w.heap.size, 1, .slice A2 ls.length c2), (g3, k, .slice A4 rl c4)]) (by kernel_rfl) H5.out.drew ?_
    iterate 7 (refine takeT (v := ?_) rfl (by kernel_rfl) (by kernel_rfl) (by kernel_rfl) ?_ ?_; rotate_left; (first | (refine Or.inr ⟨by rfl, ?_⟩; with_reducible rfl) | (refine Or.inl ⟨by rfl, fun W hS => detRes_value (w' := W) ?_ hS⟩; obtain ⟨x0, x1, x2, _⟩ := hS.1; go_simp; first | done | with_reducible rfl) | (refine Or.inl ⟨by rfl, fun W hS => ?_⟩; refine detRes_call (w' := W) (f := ?_) (args := ?_) ?_ ?_; rotate_left 2; (go_simp; (refine ⟨?_, ?_⟩ <;> with_reducible rfl)); (first | (with_reducible refine (HA.out _ (HSQ.out.step hS.below) ((HN.out.step H1.out.below).step hS.below) ((HL.out.step H1.out.below).step hS.below)).mono ?_) | fail); (first | (rintro e wn ⟨rfl, hb⟩; refine ⟨?_, hS.step hb⟩; with_reducible rfl) | (rintro e wn ⟨rfl, rfl⟩; refine ⟨?_, hS⟩; with_reducible rfl) | fail)) | fail); (simp only [Act.put, List.setIfInBounds_toArray, List.set_cons_zero, List.set_cons_succ]))
    refine doneD (by kernel_rfl) fun wH6 HS => ?_
    have H6 := Lib.hid HS; clear HS
    try clear x0 x1 x2
    obtain ⟨x0, x1, x2, _⟩ := H6.out.1
    go_wp2_with fail
    go_ret
    exact ⟨ret_int HR.out.symm, H1.out.below.trans (H6.out.below.mono H1.out.below.size)⟩
  · have hff : idxB (wF ns ls).length f = false := by simpa using hf
    have HR := Lib.hid (g_noarea hff)
    rw [show inB f 0 (((wF ns ls).length : Int) - 1) = false from by
      rw [Bool.eq_false_iff]
      intro h
      simp [inB] at h
      exact hf ((idxB_iff _ _).2 (by omega))] at HIN
    clear hf hff
    have HN := Lib.hid hn
    have HL := Lib.hid hl
    have HF := Lib.hid (fun w h1 h2 => specFacesL ns ls vn vl w h1 h2)
    unfold FacesNew at HF
    have H0 := Lib.hid (held_pair w vn vl 32)
    obtain ⟨A, c, rfl⟩ := prs_form2 hn
    obtain ⟨A2, c2, rfl⟩ := prs_form2 hl
    clear hn hl
    generalize areaW ns ls f = res at *
    generalize wF ns ls = rs at *
    go_enter Tryz.func86, Tryz.ntmps86
    go_wp2_with fail
    refine (HF.out _ (HN.out.step H0.out.below) (HL.out.step H0.out.below)).mono ?_
    rintro e w1 ⟨vf, rfl, hf, hb⟩
    have H1 := Lib.hid (H0.out.step hb); clear hb
    obtain ⟨a, c3, rfl, hmax, hro⟩ := hf.open_
    have HRO := Lib.hid hro; clear hro hf H0
    go_wp2_with fail
    refine (HIN.out _).mono ?_
    rintro e w2 ⟨rfl, rfl⟩
    go_wp2_with fail
    go_ret
    exact ⟨ret_int HR.out.symm, H1.out.below⟩

set_option maxRecDepth 100000 in
theorem specTotal (ns ls : List Nd) (vn vl : Value) (w : World) (hn : Prs w vn ns) (hl : Prs w vl ls) :
    Calls Tryz.prog 87 #[.agg #[vn, vl]] w (IntIs (totalW ns ls) w) := by
  have HN := Lib.hid hn
  have HL := Lib.hid hl
  have HO := Lib.hid (fun w h1 h2 => specOuterFace ns ls vn vl w h1 h2)
  have HA := Lib.hid (fun w h1 h2 => specAreaOf ns ls vn vl (outW ns ls) w h1 h2)
  unfold IntIs at HO HA
  have H0 := Lib.hid (held_pair w vn vl 32)
  obtain ⟨A, c, rfl⟩ := prs_form2 hn
  obtain ⟨A2, c2, rfl⟩ := prs_form2 hl
  clear hn hl
  have HR := Lib.hid (show totalW ns ls = areaW ns ls (outW ns ls) from rfl)
  generalize totalW ns ls = res at *
  generalize outW ns ls = o at *
  generalize areaW ns ls o = ar at *
  go_enter Tryz.func87, Tryz.ntmps87
  go_wp2_with fail
  refine regionD (S := fun W => Held _ W [(w.heap.size, 0, .slice A ns.length c), (w.heap.size, 1, .slice A2 ls.length c2)]) (by kernel_rfl) H0.out.drew ?_
  iterate 5 (refine takeT (v := ?_) rfl (by kernel_rfl) (by kernel_rfl) (by kernel_rfl) ?_ ?_; rotate_left; (first | (refine Or.inr ⟨by rfl, ?_⟩; with_reducible rfl) | (refine Or.inl ⟨by rfl, fun W hS => detRes_value (w' := W) ?_ hS⟩; obtain ⟨x0, x1, _⟩ := hS.1; go_simp; first | done | with_reducible rfl) | (refine Or.inl ⟨by rfl, fun W hS => ?_⟩; refine detRes_call (w' := W) (f := ?_) (args := ?_) ?_ ?_; rotate_left 2; (go_simp; (refine ⟨?_, ?_⟩ <;> with_reducible rfl)); (first | (with_reducible refine (HO.out _ (HN.out.step hS.below) (HL.out.step hS.below)).mono ?_) | (with_reducible refine (HA.out _ (HN.out.step hS.below) (HL.out.step hS.below)).mono ?_) | fail); (first | (rintro e wn ⟨rfl, hb⟩; refine ⟨?_, hS.step hb⟩; with_reducible rfl) | (rintro e wn ⟨rfl, rfl⟩; refine ⟨?_, hS⟩; with_reducible rfl) | fail)) | fail); (simp only [Act.put, List.setIfInBounds_toArray, List.set_cons_zero, List.set_cons_succ]))
  refine doneD (by kernel_rfl) fun wH1 HS => ?_
  have H1 := Lib.hid HS; clear HS
  try clear x0 x1
  obtain ⟨x0, x1, _⟩ := H1.out.1
  go_wp2_with fail
  go_ret
  exact ⟨ret_int HR.out.symm, H1.out.below⟩
end Go.Proofs.YtepacoacalhdcaaGreat
