/-
  The middle of the glass and the force on the hinges, of the program and of the model.
-/
import Derived.Test.YtepacoacalhdcaaGreatMid
import Derived.Test.YtepacoacalhdcaaGreatGlw
import Derived.Laws.EntriesVeiled
namespace Go.Proofs.YtepacoacalhdcaaGreat
open Go.RowKit
set_option linter.unusedVariables false
set_option linter.unusedSimpArgs false

noncomputable def rowO (ns ls : List Nd) : List Int := atR (wF ns ls) (outW ns ls).toNat

noncomputable def mX (ns ls : List Nd) : Int := if wholeB ns ls = true then momL Nd.x ns ls (rowO ns ls) (rowO ns ls).length else 0

noncomputable def mY (ns ls : List Nd) : Int := if wholeB ns ls = true then momL Nd.y ns ls (rowO ns ls) (rowO ns ls).length else 0

noncomputable def mU (ns ls : List Nd) : Int := if wholeB ns ls = true then 3 * totalW ns ls else 0

/-- What is known of the wall around. -/
theorem outW_facts {ns ls : List Nd} (hh : wholeB ns ls = true) : ∃ o : Nat, outW ns ls = (o : Int) ∧ o < (wF ns ls).length ∧ rowO ns ls = atR (wF ns ls) o ∧ winB ns ls = true ∧ DartsOf ls (rowO ns ls) ∧ (rowO ns ls).length ≤ 40 ∧ totalW ns ls = absR ns ls (rowO ns ls) := by
  obtain ⟨o, h1, h2⟩ := outW_is hh
  have e : rowO ns ls = atR (wF ns ls) o := by unfold rowO; rw [h1]; rfl
  obtain ⟨a, b, c⟩ := (wF_ok ns ls).2 o h2
  refine ⟨o, h1, h2, e, a, by rw [e]; exact b, by rw [e]; exact c, ?_⟩
  unfold totalW areaW
  rw [h1, if_pos ((idxB_iff _ _).2 (by omega)), e]
  rfl

theorem total_nn {ns ls : List Nd} (hh : wholeB ns ls = true) : 0 ≤ totalW ns ls ∧ totalW ns ls ≤ 16000 := by
  obtain ⟨o, h1, h2, -⟩ := outW_facts hh
  unfold totalW
  exact area_nn (by rw [h1]; exact (idxB_iff _ _).2 (by omega))

theorem mX_bd (ns ls : List Nd) : -640000 ≤ mX ns ls ∧ mX ns ls ≤ 640000 := by
  unfold mX
  split
  · rename_i hh
    obtain ⟨o, -, -, -, hw, hd, h40, -⟩ := outW_facts hh
    have := mom_bd axisX hw hd _ (Nat.le_refl _)
    omega
  · omega

set_option maxRecDepth 100000 in
set_option maxHeartbeats 4000000 in
theorem implMid (ns ls : List Nd) (vn vl : Value) (w : World) (hn : Prs w vn ns) (hl : Prs w vl ls) :
    Calls Tryz.prog 37 #[.agg #[vn, vl]] w (ThreeIs (mX ns ls) (mY ns ls) (mU ns ls) w) := by
  have HN := Lib.hid hn
  have HL := Lib.hid hl
  have H0 := Lib.hid (held_pair w vn vl 32)
  by_cases hh : wholeB ns ls = true
  · have HGY := Lib.hid (fun w h1 h2 => implGlassYes ns ls vn vl w h1 h2 hh)
    unfold GlassYes at HGY
    have hWF : wF ns ls = facesL ns ls := if_pos hh
    rw [← hWF] at HGY
    obtain ⟨o, ho1, ho2, hro, hw, hd, h40, htot⟩ := outW_facts hh
    have hok := wF_ok ns ls
    have hfl := wF_len (ns := ns) (ls := ls)
    have HO := Lib.hid (fun v1 v2 v3 v4 ds B w h1 h2 h3 h4 => (show Calls Tryz.prog 91 #[.agg #[v1, v2, v3, v4]] w (IntIs (o : Int) w) from by
      have := implOuter ns ls v1 v2 v3 v4 (wF ns ls) ds B w h1 h2 h3 h4 hok
      rw [← ho1]
      exact this))
    have HAR := Lib.hid (fun v1 v2 v3 v4 ds B w h1 h2 h3 h4 => (show Calls Tryz.prog 81 #[.agg #[v1, v2, v3, v4], .int .i64 (o : Int)] w (IntIs (totalW ns ls) w) from by
      have := implArea ns ls v1 v2 v3 v4 (wF ns ls) ds B o w h1 h2 h3 h4 hok ho2
      rw [htot, hro]
      exact this))
    have HSX := Lib.hid (fun v1 v2 vx w h1 h2 h3 => implSumX ns ls v1 v2 vx (rowO ns ls) w h1 h2 h3 hw hd h40)
    have HSY := Lib.hid (fun v1 v2 vx w h1 h2 h3 => implSumY ns ls v1 v2 vx (rowO ns ls) w h1 h2 h3 hw hd h40)
    have HRX := Lib.hid (show mX ns ls = momL Nd.x ns ls (rowO ns ls) (rowO ns ls).length from if_pos hh)
    have HRY := Lib.hid (show mY ns ls = momL Nd.y ns ls (rowO ns ls) (rowO ns ls).length from if_pos hh)
    have HRU := Lib.hid (show mU ns ls = 3 * totalW ns ls from if_pos hh)
    have htb := total_nn hh
    unfold IntIs at HO HAR HSX HSY
    rw [← HRX.out] at HSX
    rw [← HRY.out] at HSY
    clear hWF hd hw hok htot HRX HRY hh
    generalize mX ns ls = mx at *
    generalize mY ns ls = my at *
    generalize mU ns ls = mu at *
    generalize totalW ns ls = tt at *
    have hro2 := Lib.hid hro; clear hro ho1
    generalize rowO ns ls = r at *
    generalize wF ns ls = rs at *
    generalize atW ns ls = ds at *
    obtain ⟨A, c, rfl⟩ := prs_form2 hn
    obtain ⟨A2, c2, rfl⟩ := prs_form2 hl
    clear hn hl
    have q1 : (0 : Int) ≤ o := by omega
    have q2 : (o : Int) < (rs.length : Int) := by omega
    have u1 : IntKind.i64.wrap (3 * tt) = 3 * tt := IntWalk.i64_in _ (by omega)
    go_enter Tryz.func37, Tryz.ntmps37
    go_wp2_with fail
    refine (HGY.out _ (HN.out.step H0.out.below) (HL.out.step H0.out.below)).mono ?_
    rintro e w1 ⟨vf, va, rfl, g3, g4, hb⟩
    have H1 := Lib.hid (H0.out.step hb)
    obtain ⟨A7, c7, rfl⟩ := faces_form g3
    obtain ⟨A8, c8, rfl⟩ := ints_form g4
    have G0 := Lib.hid (heldG w1 (.slice A ns.length c) (.slice A2 ls.length c2) (.slice A7 rs.length c7) (.slice A8 ds.length c8) 98)
    have B1 := Lib.hid (H1.out.below.trans (G0.out.below.mono H1.out.below.size))
    have G3 := Lib.hid (g3.step G0.out.below)
    have G4 := Lib.hid (g4.step G0.out.below)
    clear hb g3 g4
    obtain ⟨y0, y1, y2, y3, _⟩ := G0.out.1
    go_wp2_with fail
    refine (HO.out _ _ _ _ _ _ _ (HN.out.step B1.out) (HL.out.step B1.out) G3.out G4.out).mono ?_
    rintro e w2 ⟨rfl, hb⟩
    have H2 := Lib.hid (G0.out.step hb)
    have B2 := Lib.hid (B1.out.trans (hb.mono B1.out.size))
    replace G3 := Lib.hid (G3.out.step hb)
    replace G4 := Lib.hid (G4.out.step hb)
    clear hb y0 y1 y2 y3
    go_wp2_with fail
    have H3 := Lib.hid ((H2.out.new2 w2.heap.size rfl [.func (.func 92) #[] #[]] 119).new2 (w2.heap.size + 1) (by simp) [.func (.func 93) #[] #[]] 119)
    simp only [newFs, List.cons_append, List.nil_append, List.append_nil] at H3
    have bx := below2 w2 (.cells #[.func (.func 92) #[] #[]] 119) (.cells #[.func (.func 93) #[] #[]] 119)
    have B3 := Lib.hid (B2.out.trans (bx.mono B2.out.size))
    replace G3 := Lib.hid (G3.out.step bx)
    replace G4 := Lib.hid (G4.out.step bx)
    clear bx
    generalize (w2.alloc (.cells #[.func (.func 92) #[] #[]] 119)).alloc (.cells #[.func (.func 93) #[] #[]] 119) = W at *
    obtain ⟨a, c3, ef, hmax, hrw⟩ := G3.out.open_
    simp only [Value.slice.injEq] at ef
    obtain ⟨rfl, -, rfl⟩ := ef
    obtain ⟨g, rfl, hg, hrw⟩ := hrw o ho2
    obtain ⟨A5, c5, k0, hsq⟩ := hrw W (Below.refl _ _)
    rw [← hro2.out] at k0 hsq
    have HX := Lib.hid hsq
    clear hrw hsq
    have S3 := Lib.hid (Held.start H3.out.1 H3.out.2.1)
    have H4 := Lib.hid (held_plus S3.out (gs := [(g, o, .slice A5 r.length c5)]) ⟨k0, trivial⟩ ⟨hg, trivial⟩)
    clear k0 S3
    simp only [List.cons_append, List.nil_append] at H4
    refine regionD (S := fun W => Held _ W [(w2.heap.size + 1, 0, .func (.func 93) #[] #[]), (w2.heap.size, 0, .func (.func 92) #[] #[]), (w1.heap.size, 0, .slice A ns.length c), (w1.heap.size, 1, .slice A2 ls.length c2), (w1.heap.size, 2, .slice (some ⟨g, 0, none⟩) rs.length c7), (w1.heap.size, 3, .slice A8 ds.length c8), (g, o, .slice A5 r.length c5)]) (by kernel_rfl) H4.out.drew ?_
    iterate 25 (refine takeT (v := ?_) rfl (by kernel_rfl) (by kernel_rfl) (by kernel_rfl) ?_ ?_; rotate_left; (first | (refine Or.inr ⟨by rfl, ?_⟩; with_reducible rfl) | (refine Or.inl ⟨by rfl, fun W hS => detRes_value (w' := W) ?_ hS⟩; obtain ⟨x0, x1, x2, x3, x4, x5, x6, _⟩ := hS.1; go_simp; first | done | with_reducible rfl) | (refine Or.inl ⟨by rfl, fun W hS => ?_⟩; refine detRes_call (w' := W) (f := ?_) (args := ?_) ?_ ?_; rotate_left 2; (go_simp; (refine ⟨?_, ?_⟩ <;> with_reducible rfl)); (first | (with_reducible refine (HSX.out _ _ _ _ (HN.out.step (B3.out.trans (hS.below.mono B3.out.size))) (HL.out.step (B3.out.trans (hS.below.mono B3.out.size))) (HX.out.step hS.below)).mono ?_) | (with_reducible refine (HSY.out _ _ _ _ (HN.out.step (B3.out.trans (hS.below.mono B3.out.size))) (HL.out.step (B3.out.trans (hS.below.mono B3.out.size))) (HX.out.step hS.below)).mono ?_) | (with_reducible refine (HAR.out _ _ _ _ _ _ _ (HN.out.step (B3.out.trans (hS.below.mono B3.out.size))) (HL.out.step (B3.out.trans (hS.below.mono B3.out.size))) (G3.out.step hS.below) (G4.out.step hS.below)).mono ?_) | fail); (first | (rintro e wn ⟨rfl, hb⟩; refine ⟨?_, hS.step hb⟩; with_reducible rfl) | (rintro e wn ⟨rfl, rfl⟩; refine ⟨?_, hS⟩; with_reducible rfl) | fail)) | fail); (simp only [Act.put, List.setIfInBounds_toArray, List.set_cons_zero, List.set_cons_succ]))
    refine doneD (by kernel_rfl) fun wH5 HS => ?_
    have H5 := Lib.hid HS; clear HS
    try clear x0 x1 x2 x3 x4 x5 x6
    obtain ⟨x0, x1, x2, x3, x4, x5, x6, _⟩ := H5.out.1
    go_wp2_with fail
    refine bodyPost_ret (v := .tuple #[.int .i64 mx, .int .i64 my, .int .i64 (3 * tt)]) (by simp [results, Tryz.results37, go_sem]) rfl ⟨by rw [HRU.out], B3.out.trans (H5.out.below.mono B3.out.size)⟩
  · have HGY := Lib.hid (fun w h1 h2 => implGlassNo ns ls vn vl w h1 h2 (by simpa using hh))
    unfold GlassNo at HGY
    have HRX := Lib.hid (show mX ns ls = 0 from if_neg hh)
    have HRY := Lib.hid (show mY ns ls = 0 from if_neg hh)
    have HRU := Lib.hid (show mU ns ls = 0 from if_neg hh)
    clear hh
    generalize mX ns ls = mx at *
    generalize mY ns ls = my at *
    generalize mU ns ls = mu at *
    obtain ⟨A, c, rfl⟩ := prs_form2 hn
    obtain ⟨A2, c2, rfl⟩ := prs_form2 hl
    clear hn hl
    go_enter Tryz.func37, Tryz.ntmps37
    go_wp2_with fail
    refine (HGY.out _ (HN.out.step H0.out.below) (HL.out.step H0.out.below)).mono ?_
    rintro e w1 ⟨rfl, hb⟩
    have H1 := Lib.hid (H0.out.step hb); clear hb
    go_wp2_with fail
    refine bodyPost_ret (v := .tuple #[.int .i64 0, .int .i64 0, .int .i64 0]) (by simp [results, Tryz.results37, go_sem]) rfl ⟨by rw [HRX.out, HRY.out, HRU.out], H1.out.below.trans ((below_alloc _ _).mono H1.out.below.size)⟩

/-- What the model's MiddleOf returns. -/
noncomputable def sX (ns ls : List Nd) : Int := if mU ns ls = 0 then 0 else mX ns ls

noncomputable def sY (ns ls : List Nd) : Int := if mU ns ls = 0 then 0 else mY ns ls

set_option maxRecDepth 100000 in
set_option maxHeartbeats 4000000 in
theorem specMid (ns ls : List Nd) (vn vl : Value) (w : World) (hn : Prs w vn ns) (hl : Prs w vl ls) :
    Calls Tryz.prog 36 #[.agg #[vn, vl]] w (ThreeIs (sX ns ls) (sY ns ls) (mU ns ls) w) := by
  have HN := Lib.hid hn
  have HL := Lib.hid hl
  have H0 := Lib.hid (held_pair w vn vl 32)
  have HO := Lib.hid (fun w h1 h2 => specOuterFace ns ls vn vl w h1 h2)
  have HT0 := Lib.hid (fun w h1 h2 => specTotal ns ls vn vl w h1 h2)
  have HF := Lib.hid (fun w h1 h2 => specFacesL ns ls vn vl w h1 h2)
  unfold IntIs at HO HT0
  unfold FacesNew at HF
  by_cases hh : wholeB ns ls = true
  · obtain ⟨o, ho1, ho2, hro, hw, hd, h40, htot⟩ := outW_facts hh
    have htb := total_nn hh
    have HRU := Lib.hid (show mU ns ls = 3 * totalW ns ls from if_pos hh)
    rw [ho1] at HO
    by_cases hz : totalW ns ls = 0
    · have HRX := Lib.hid (show sX ns ls = 0 from if_pos (by rw [HRU.out, hz]; rfl))
      have HRY := Lib.hid (show sY ns ls = 0 from if_pos (by rw [HRU.out, hz]; rfl))
      replace HRU := Lib.hid (show mU ns ls = 0 from by rw [HRU.out, hz]; rfl)
      rw [hz] at HT0
      clear hz hh hw hd hro htot htb ho1
      generalize sX ns ls = mx at *
      generalize sY ns ls = my at *
      generalize mU ns ls = mu at *
      obtain ⟨A, c, rfl⟩ := prs_form2 hn
      obtain ⟨A2, c2, rfl⟩ := prs_form2 hl
      clear hn hl
      have q1 : (0 : Int) ≤ o := by omega
      go_enter Tryz.func36, Tryz.ntmps36
      go_wp2_with fail
      refine (HO.out _ (HN.out.step H0.out.below) (HL.out.step H0.out.below)).mono ?_
      rintro e w1 ⟨rfl, hb⟩
      have H1 := Lib.hid (H0.out.step hb); clear hb
      obtain ⟨x0, x1, _⟩ := H1.out.1
      go_wp2_with fail
      refine (HT0.out _ (HN.out.step H1.out.below) (HL.out.step H1.out.below)).mono ?_
      rintro e w2 ⟨rfl, hb⟩
      have H2 := Lib.hid (H1.out.step hb); clear hb x0 x1
      go_wp2_with fail
      refine bodyPost_ret (v := .tuple #[.int .i64 0, .int .i64 0, .int .i64 0]) (by simp [results, Tryz.results36, go_sem]) rfl ⟨by rw [HRX.out, HRY.out, HRU.out], H2.out.below⟩
    · have HRX := Lib.hid (show sX ns ls = momL Nd.x ns ls (rowO ns ls) (rowO ns ls).length from by unfold sX; rw [if_neg (by rw [HRU.out]; omega)]; exact if_pos hh)
      have HRY := Lib.hid (show sY ns ls = momL Nd.y ns ls (rowO ns ls) (rowO ns ls).length from by unfold sY; rw [if_neg (by rw [HRU.out]; omega)]; exact if_pos hh)
      have h20 := ((winB_iff ns ls).1 hw).1.2
      have HSTX := Lib.hid (fun m (h : m < (rowO ns ls).length) => mom_step (g := Nd.x) hw hd h)
      have HSTY := Lib.hid (fun m q a b (h : m < (rowO ns ls).length) (hq : atZ (rowO ns ls) m = ((q : Nat) : Int)) (ha : dF ls q = ((a : Nat) : Int)) (hb : dT ls q = ((b : Nat) : Int)) => (show momL Nd.y ns ls (rowO ns ls) (m + 1) = momL Nd.y ns ls (rowO ns ls) m - ((atN ns a).y + (atN ns b).y) * ((atN ns a).x * (atN ns b).y - (atN ns a).y * (atN ns b).x) from by
        rw [momL, hq, Int.toNat_natCast, ha, hb]
        rfl))
      have HBX := Lib.hid (fun m (h : m ≤ (rowO ns ls).length) => mom_bd axisX hw hd m h)
      have HBY := Lib.hid (fun m (h : m ≤ (rowO ns ls).length) => mom_bd axisY hw hd m h)
      have HZX := Lib.hid (show momL Nd.x ns ls (rowO ns ls) 0 = 0 from rfl)
      have HZY := Lib.hid (show momL Nd.y ns ls (rowO ns ls) 0 = 0 from rfl)
      have hro2 := Lib.hid hro
      clear hro hw hd htot hh ho1
      generalize momL Nd.x ns ls (rowO ns ls) = S at *
      generalize momL Nd.y ns ls (rowO ns ls) = T at *
      generalize sX ns ls = mx at *
      generalize sY ns ls = my at *
      generalize mU ns ls = mu at *
      generalize totalW ns ls = tt at *
      generalize rowO ns ls = r at *
      generalize wF ns ls = rs at *
      obtain ⟨A, c, rfl⟩ := prs_form2 hn
      obtain ⟨A2, c2, rfl⟩ := prs_form2 hl
      clear hn hl
      have HE := Lib.hid (fun (q : Nat) w h (hq : q < 2 * ls.length) => sEnds ls (.slice A ns.length c) (.slice A2 ls.length c2) q w h hq h20)
      unfold TwoIs at HE
      have q1 : (0 : Int) ≤ o := by omega
      have q2 : (o : Int) < (rs.length : Int) := by omega
      have u1 : IntKind.i64.wrap (3 * tt) = 3 * tt := IntWalk.i64_in _ (by omega)
      have HZ := Lib.hid hz
      have hzb : (tt == 0) = false := by simpa using hz
      clear hz
      go_enter Tryz.func36, Tryz.ntmps36
      go_wp2_with fail
      refine (HO.out _ (HN.out.step H0.out.below) (HL.out.step H0.out.below)).mono ?_
      rintro e w1 ⟨rfl, hb⟩
      have H1 := Lib.hid (H0.out.step hb); clear hb
      obtain ⟨x0, x1, _⟩ := H1.out.1
      go_wp2_with fail
      refine (HT0.out _ (HN.out.step H1.out.below) (HL.out.step H1.out.below)).mono ?_
      rintro e w2 ⟨rfl, hb⟩
      have H2 := Lib.hid (H1.out.step hb); clear hb x0 x1
      obtain ⟨x0, x1, _⟩ := H2.out.1
      go_wp2_with fail
      refine (HF.out _ (HN.out.step H2.out.below) (HL.out.step H2.out.below)).mono ?_
      rintro e w3 ⟨vf, rfl, hf, hb⟩
      have H3 := Lib.hid (H2.out.step hb); clear hb x0 x1
      obtain ⟨a, c3, rfl, hmax, hrw⟩ := hf.open_
      obtain ⟨g, rfl, hg, hrw⟩ := hrw o ho2
      obtain ⟨A5, c5, k0, hsq⟩ := hrw w3 (Below.refl _ _)
      rw [← hro2.out] at k0 hsq
      have HX := Lib.hid hsq
      clear hrw hsq hf
      go_wp2_with fail
      clear k0
      go_loopw [6, 7, 9] (fun u v i wr => ∃ m : Nat, m ≤ r.length ∧ i = .int .i64 m ∧ u = .int .i64 (S m) ∧ v = .int .i64 (T m) ∧ Below w3.heap.size w3 wr ∧ Held w wr [(w.heap.size, 0, .slice A ns.length c), (w.heap.size, 1, .slice A2 ls.length c2)]) (fun _ _ i _ => r.length - (intOf i).toNat)
      case atStart => exact ⟨0, Nat.zero_le _, rfl, by rw [HZX.out], by rw [HZY.out], Below.refl _ _, H3.out⟩
      case round =>
        obtain ⟨m, hm, rfl, rfl, rfl, hbb, hh⟩ := hrel
        have BB := Lib.hid hbb; clear hbb
        have H1 := Lib.hid hh; clear hh
        obtain ⟨A3', c3', he3, _, _, hxc⟩ := (HX.out.step BB.out).form
        simp only [Value.slice.injEq] at he3
        obtain ⟨rfl, -, -⟩ := he3
        by_cases hlt : m < r.length
        · obtain ⟨q, a, b, hq, hq2, ha, hb, ha2, hb2, oa, ob, hs⟩ := HSTX.out m hlt
          have ht := HSTY.out m q a b hlt hq ha hb
          obtain ⟨s0, s1⟩ := HBX.out m hm
          obtain ⟨s4, s5⟩ := HBY.out m hm
          obtain ⟨bx_, ox_, rfl, hblx, hcx⟩ := hxc m hlt
          clear hxc
          rw [hq] at hcx
          clear hq
          obtain ⟨bn, on, c4, he, hbn, hcs⟩ := prs_at2 (HN.out.step H1.out.below) ha2
          injection he with he1 he2 he3
          subst he1
          clear he2 he3
          obtain ⟨q0, q1⟩ := hcs a ha2
          obtain ⟨q2, q3⟩ := hcs b hb2
          clear hcs
          obtain ⟨k1, k2, k3, k4⟩ := area_okb oa
          obtain ⟨l1, l2, l3, l4⟩ := area_okb ob
          obtain ⟨m1, m2⟩ := area_prod k1 k2 l3 l4
          obtain ⟨m3, m4⟩ := area_prod k3 k4 l1 l2
          generalize (atN ns a).x = ax at *
          generalize (atN ns a).y = ay at *
          generalize (atN ns b).x = bx at *
          generalize (atN ns b).y = by' at *
          have HS := Lib.hid hs; clear hs
          have HT := Lib.hid ht; clear ht
          obtain ⟨p1, hp1⟩ : ∃ p : Int, ax * by' = p := ⟨_, rfl⟩
          obtain ⟨p2, hp2⟩ : ∃ p : Int, ay * bx = p := ⟨_, rfl⟩
          rw [hp1] at m1 m2
          rw [hp2] at m3 m4
          rw [hp1, hp2] at HS HT
          obtain ⟨r1, r2⟩ := mom_prod (s := ax + bx) (c := p1 - p2) (by omega) (by omega) (by omega) (by omega)
          obtain ⟨t1, t2⟩ := mom_prod (s := ay + by') (c := p1 - p2) (by omega) (by omega) (by omega) (by omega)
          obtain ⟨prx, hprx⟩ : ∃ p : Int, (ax + bx) * (p1 - p2) = p := ⟨_, rfl⟩
          obtain ⟨pry, hpry⟩ : ∃ p : Int, (ay + by') * (p1 - p2) = p := ⟨_, rfl⟩
          rw [hprx] at r1 r2 HS
          rw [hpry] at t1 t2 HT
          have e1 : IntKind.i64.wrap (ax * by') = p1 := by rw [hp1]; exact IntWalk.i64_in _ (by omega)
          have e2 : IntKind.i64.wrap (ay * bx) = p2 := by rw [hp2]; exact IntWalk.i64_in _ (by omega)
          have e5 : IntKind.i64.wrap ((ax + bx) * (p1 - p2)) = prx := by rw [hprx]; exact IntWalk.i64_in _ (by omega)
          have e6 : IntKind.i64.wrap ((ay + by') * (p1 - p2)) = pry := by rw [hpry]; exact IntWalk.i64_in _ (by omega)
          have e3 : IntKind.i64.wrap (p1 - p2) = p1 - p2 := IntWalk.i64_in _ (by omega)
          have e4 : IntKind.i64.wrap (ax + bx) = ax + bx := IntWalk.i64_in _ (by omega)
          have e7 : IntKind.i64.wrap (ay + by') = ay + by' := IntWalk.i64_in _ (by omega)
          generalize S m = sx at *
          generalize T m = sy at *
          have e8 : IntKind.i64.wrap (sx - prx) = sx - prx := IntWalk.i64_in _ (by omega)
          have e9 : IntKind.i64.wrap (sy - pry) = sy - pry := IntWalk.i64_in _ (by omega)
          clear hp1 hp2 hprx hpry
          have hz1 : (m : Int) < (r.length : Int) := by omega
          have hz2 : (0 : Int) ≤ m := by omega
          have hz3 : (a : Int) < (ns.length : Int) := by omega
          have hz4 : (0 : Int) ≤ a := by omega
          have hz5 : (b : Int) < (ns.length : Int) := by omega
          have hz6 : (0 : Int) ≤ b := by omega
          have HEq := Lib.hid (fun w h => HE.out q w h hq2)
          rw [ha, hb] at HEq
          clear ha hb
          have H2 := Lib.hid (held_plus H1.out (gs := [(bx_, ox_ + m, .int .i64 (q : Int)), (bn, on + a * 2, .int .i64 ax), (bn, on + a * 2 + 1, .int .i64 ay), (bn, on + b * 2, .int .i64 bx), (bn, on + b * 2 + 1, .int .i64 by')]) ⟨hcx, q0, q1, q2, q3, trivial⟩ ⟨hblx, hbn, hbn, hbn, hbn, trivial⟩)
          have HSI := Lib.hid H2.out.2.1
          clear q0 q1 q2 q3 hcx
          obtain ⟨x0, x1, x2, x3, x4, x5, x6, _⟩ := H2.out.1
          go_wp2_with fail
          clear x0 x1 x2 x3 x4 x5 x6
          have S2 := Lib.hid (Held.start H2.out.1 H2.out.2.1)
          refine regionD (S := fun W => Held _ W [(w.heap.size, 0, .slice (some ⟨bn, on, none⟩) ns.length c), (w.heap.size, 1, .slice A2 ls.length c2), (bx_, ox_ + m, .int .i64 (q)), (bn, on + a * 2, .int .i64 (ax)), (bn, on + a * 2 + 1, .int .i64 (ay)), (bn, on + b * 2, .int .i64 (bx)), (bn, on + b * 2 + 1, .int .i64 (by'))]) (by kernel_rfl) S2.out.drew ?_
          iterate 11 (refine takeT (v := ?_) rfl (by kernel_rfl) (by kernel_rfl) (by kernel_rfl) ?_ ?_; rotate_left; (first | (refine Or.inr ⟨by rfl, ?_⟩; with_reducible rfl) | (refine Or.inl ⟨by rfl, fun W hS => detRes_value (w' := W) ?_ hS⟩; obtain ⟨x0, x1, x2, x3, x4, x5, x6, _⟩ := hS.1; go_simp; first | done | with_reducible rfl) | (refine Or.inl ⟨by rfl, fun W hS => ?_⟩; refine detRes_call (w' := W) (f := ?_) (args := ?_) ?_ ?_; rotate_left 2; (go_simp; (refine ⟨?_, ?_⟩ <;> with_reducible rfl)); (first | (with_reducible refine (HEq.out _ (HL.out.step (H1.out.below.trans (hS.below.mono H1.out.below.size)))).mono ?_) | fail); (first | (rintro e wn ⟨rfl, hb⟩; refine ⟨?_, hS.step hb⟩; with_reducible rfl) | (rintro e wn ⟨rfl, rfl⟩; refine ⟨?_, hS⟩; with_reducible rfl) | fail)) | fail); (simp only [Act.put, List.setIfInBounds_toArray, List.set_cons_zero, List.set_cons_succ]))
          refine doneD (by kernel_rfl) fun wH3 HS => ?_
          have H3 := Lib.hid HS; clear HS
          try clear x0 x1 x2 x3 x4 x5 x6
          obtain ⟨x0, x1, x2, x3, x4, x5, x6, _⟩ := H3.out.1
          obtain ⟨z0, z1, z2, z3, z4, z5, z6, _⟩ := H3.out.2.1
          obtain ⟨x0, x1, x2, x3, x4, x5, x6, _⟩ := H3.out.1
          go_wp2_with fail
          have H5 := Lib.hid ((H3.out.new2 wH3.heap.size rfl [.int .i64 ax, .int .i64 ay] 115).new2 (wH3.heap.size + 1) (by simp) [.int .i64 bx, .int .i64 by'] 115)
          exact ⟨⟨m + 1, by omega, by go_num, by rw [HS.out], by rw [HT.out], BB.out.trans (H5.out.below.mono BB.out.size), H1.out.step H5.out.below⟩, by simp [intOf]; omega⟩
        · obtain rfl : m = r.length := by omega
          obtain ⟨x0, x1, _⟩ := H1.out.1
          go_wp2_with fail
          refine (HT0.out _ (HN.out.step H1.out.below) (HL.out.step H1.out.below)).mono ?_
          rintro e w5 ⟨rfl, hb⟩
          have H2 := Lib.hid (H1.out.step hb); clear hb x0 x1
          go_wp2_with fail
          refine bodyPost_ret (v := .tuple #[.int .i64 (S r.length), .int .i64 (T r.length), .int .i64 (3 * tt)]) (by simp [results, Tryz.results36, go_sem]) rfl ⟨by rw [HRX.out, HRY.out, HRU.out], H2.out.below⟩
  · have hno : outW ns ls = -1 := by
      rcases firstI_cases (outP ns ls (wF ns ls)) (wF ns ls).length with ⟨h1, _⟩ | ⟨m, _, h2, _, _⟩
      · exact h1
      · exact absurd (wF_row h2).1 hh
    rw [hno] at HO
    have HRU := Lib.hid (show mU ns ls = 0 from if_neg hh)
    have HRX := Lib.hid (show sX ns ls = 0 from if_pos HRU.out)
    have HRY := Lib.hid (show sY ns ls = 0 from if_pos HRU.out)
    clear hh hno
    generalize sX ns ls = mx at *
    generalize sY ns ls = my at *
    generalize mU ns ls = mu at *
    obtain ⟨A, c, rfl⟩ := prs_form2 hn
    obtain ⟨A2, c2, rfl⟩ := prs_form2 hl
    clear hn hl
    go_enter Tryz.func36, Tryz.ntmps36
    go_wp2_with fail
    refine (HO.out _ (HN.out.step H0.out.below) (HL.out.step H0.out.below)).mono ?_
    rintro e w1 ⟨rfl, hb⟩
    have H1 := Lib.hid (H0.out.step hb); clear hb
    go_wp2_with fail
    refine bodyPost_ret (v := .tuple #[.int .i64 0, .int .i64 0, .int .i64 0]) (by simp [results, Tryz.results36, go_sem]) rfl ⟨by rw [HRX.out, HRY.out, HRU.out], H1.out.below⟩
end Go.Proofs.YtepacoacalhdcaaGreat
