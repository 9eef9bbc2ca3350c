/-
  The greatest wind that all faces bear, of the program and of the model.
-/
import Derived.Test.YtepacoacalhdcaaGreatG34
import Derived.Lib.MinMax
namespace Go.Proofs.YtepacoacalhdcaaGreat
open Go.RowKit
set_option linter.unusedVariables false
set_option linter.unusedSimpArgs false

/-- What is known of the faces but the wall around. -/
theorem inn_at {ns ls : List Nd} {i : Nat} (hi : i < (innW ns ls).length) : ∃ k : Nat, atZ (innW ns ls) i = (k : Int) ∧ k < (wF ns ls).length ∧ innP (outW ns ls) k = true ∧ 0 < areaW ns ls (k : Int) ∧ areaW ns ls (k : Int) ≤ 16000 := by
  obtain ⟨k, h1, h2, h3⟩ := (fltN_mem _ _ _).1 (show atZ (innW ns ls) i ∈ innW ns ls from by rw [← atZ_get hi]; exact List.getElem_mem hi)
  have hh := (wF_row h2).1
  have := inn_pos hh h2 h3
  have h5 := area_nn (ns := ns) (ls := ls) ((idxB_iff _ _).2 (show 0 ≤ (k : Int) ∧ (k : Int) < ((wF ns ls).length : Int) by omega))
  have e := inn_area hh h2 h3
  rw [e] at h5
  exact ⟨k, h1, h2, h3, by rw [e]; exact this, by rw [e]; exact h5.2⟩

theorem totalW_nn {ns ls : List Nd} (hh : wholeB ns ls = true) : 0 ≤ totalW ns ls ∧ totalW ns ls ≤ 16000 := by
  obtain ⟨o, h1, h2⟩ := outW_is hh
  unfold totalW
  rw [h1]
  exact area_nn ((idxB_iff _ _).2 (by omega))

theorem quo_facts {q a : Int} (h0 : 0 ≤ q) (h1 : q ≤ 200000) (ha : 0 < a) : IntKind.i64.wrap (q.tdiv a) = q.tdiv a ∧ wrap64 (q.tdiv a) = q.tdiv a ∧ a ≠ 0 ∧ (a == 0) = false := by
  have h2 : 0 ≤ q.tdiv a ∧ q.tdiv a ≤ q := by
    rw [Int.tdiv_eq_ediv_of_nonneg h0]
    exact ⟨Int.ediv_nonneg h0 (by omega), Int.ediv_le_self _ h0⟩
  exact ⟨IntWalk.i64_in _ (by omega), IntWalk.wrap64_in _ (by omega), by omega, by rw [beq_eq_false_iff_ne]; omega⟩

theorem implAreaG (ns ls : List Nd) (k : Nat) (hk : k < (wF ns ls).length) (v1 v2 v3 v4 : Value) (B : Nat) (w : World) (h1 : Prs w v1 (gN ns ls)) (h2 : Prs w v2 (gL ns ls)) (h3 : Faces w B v3 (wF ns ls)) (h4 : Ints w B v4 (gA ns ls)) :
    Calls Tryz.prog 81 #[.agg #[v1, v2, v3, v4], .int .i64 k] w (IntIs (areaW ns ls (k : Int)) w) := by
  have := implArea (gN ns ls) (gL ns ls) v1 v2 v3 v4 (wF ns ls) (gA ns ls) B k w h1 h2 h3 h4 (g_ok ns ls) hk
  rw [g_area hk] at this
  exact this

theorem implInnG (ns ls : List Nd) (v1 v2 v3 v4 : Value) (B : Nat) (w : World) (h1 : Prs w v1 (gN ns ls)) (h2 : Prs w v2 (gL ns ls)) (h3 : Faces w B v3 (wF ns ls)) (h4 : Ints w B v4 (gA ns ls)) :
    Calls Tryz.prog 75 #[.agg #[v1, v2, v3, v4]] w (IntsNew (innW ns ls) w) := by
  have := implInner (gN ns ls) (gL ns ls) v1 v2 v3 v4 (wF ns ls) (gA ns ls) B w h1 h2 h3 h4 (g_ok ns ls)
  rw [g_outer] at this
  exact this


set_option maxRecDepth 100000 in
set_option maxHeartbeats 4000000 in
theorem implGrw (ns ls : List Nd) (vn vl : Value) (t : Int) (w : World) (hn : Prs w vn ns) (hl : Prs w vl ls) :
    Calls Tryz.prog 28 #[.agg #[vn, vl], .int .i64 t] w (IntIs (grW ns ls t) w) := by
  have HTH := Lib.hid (implThick t)
  unfold BoolIs at HTH
  have HNO := Lib.hid (fun (h : (wholeB ns ls && inB t 1 20) = false) => (show grW ns ls t = -1 from if_neg (by rw [h]; simp)))
  have HYE := Lib.hid (fun (h : (wholeB ns ls && inB t 1 20) = true) => grW_inn h)
  have HIN := Lib.hid (fun v1 v2 v3 v4 B w h1 h2 h3 h4 => implInnG ns ls v1 v2 v3 v4 B w h1 h2 h3 h4)
  unfold IntsNew at HIN
  have HAR := Lib.hid (fun k hk v1 v2 v3 v4 B w h1 h2 h3 h4 => implAreaG ns ls k hk v1 v2 v3 v4 B w h1 h2 h3 h4)
  unfold IntIs at HAR
  have HAT := Lib.hid (fun i (hi : i < (innW ns ls).length) => inn_at hi)
  have HTK := Lib.hid (fun m (hm : m < (innW ns ls).length) => (show mnG ns ls t ((innW ns ls).take (m + 1)) = min (mnG ns ls t ((innW ns ls).take m)) (Int.tdiv (500 * t * t) (areaW ns ls (atZ (innW ns ls) m))) from by
    rw [List.take_succ_eq_append_getElem hm, mnG_app, atZ_get hm]))
  have HT0 := Lib.hid (show mnG ns ls t ((innW ns ls).take 0) = 1000 from rfl)
  have HTE := Lib.hid (show mnG ns ls t ((innW ns ls).take (innW ns ls).length) = mnG ns ls t (innW ns ls) from by rw [List.take_length])
  have hilen := innW_len ns ls
  have HN := Lib.hid hn
  have HL := Lib.hid hl
  have HGL := Lib.hid (fun w h1 h2 => implGlass ns ls vn vl w h1 h2)
  unfold GlassNew at HGL
  have H0 := Lib.hid (held_pair w vn vl 32)
  obtain ⟨A, c, rfl⟩ := prs_form2 hn
  obtain ⟨A2, c2, rfl⟩ := prs_form2 hl
  clear hn hl
  obtain ⟨F, hF⟩ : ∃ F : Nat → Int, (fun m => mnG ns ls t ((innW ns ls).take m)) = F := ⟨_, rfl⟩
  have HF := Lib.hid (fun m => (show mnG ns ls t ((innW ns ls).take m) = F m from by rw [← hF])); clear hF
  simp only [HF.out] at HTK HT0 HTE
  clear HF
  by_cases ht : inB t 1 20 = true
  · have HG := Lib.hid (fun w => implGreatest t w ht)
    unfold IntIs at HG
    have hq0 := sq_nn ht
    have hq1 : 500 * t * t ≤ 200000 := by
      have ht' := (inB_iff _ _ _).1 ht
      exact Int.mul_le_mul (c := 10000) (d := 20) (by omega) (by omega) (by omega) (by omega)
    rw [ht] at HTH HNO HYE
    clear ht
    generalize grW ns ls t = res at *
    generalize mnG ns ls t (innW ns ls) = fin at *
    generalize 500 * t * t = q at *
    generalize areaW ns ls = AR at *
    generalize innP (outW ns ls) = IP at *
    generalize gN ns ls = ns' at *
    generalize gL ns ls = ls' at *
    generalize gA ns ls = ds at *
    generalize wF ns ls = rs at *
    generalize wholeB ns ls = ok at *
    generalize innW ns ls = X at *
    obtain ⟨x0, x1, _⟩ := H0.out.1
    go_enter Tryz.func28, Tryz.ntmps28
    go_wp2_with fail
    refine (HGL.out _ (HN.out.step H0.out.below) (HL.out.step H0.out.below)).mono ?_
    rintro e w1 ⟨v1, v2, v3, v4, rfl, g1, g2, g3, g4, hb⟩
    have H1 := Lib.hid (H0.out.step hb)
    have G0 := Lib.hid (heldG w1 v1 v2 v3 v4 98)
    have B1 := Lib.hid (H1.out.below.trans (G0.out.below.mono H1.out.below.size))
    have G1 := Lib.hid (g1.step G0.out.below)
    have G2 := Lib.hid (g2.step G0.out.below)
    have G3 := Lib.hid (g3.step G0.out.below)
    have G4 := Lib.hid (g4.step G0.out.below)
    obtain ⟨A5, c5, rfl⟩ := prs_form2 g1
    obtain ⟨A6, c6, rfl⟩ := prs_form2 g2
    obtain ⟨A7, c7, rfl⟩ := faces_form g3
    obtain ⟨A8, c8, rfl⟩ := ints_form g4
    have S0 := Lib.hid (Held.start G0.out.1 G0.out.2.1)
    clear hb g1 g2 g3 g4
    obtain ⟨x0, x1, _⟩ := H1.out.1
    obtain ⟨y0, y1, y2, y3, _⟩ := G0.out.1
    cases ok
    · go_wp2_with fail
      go_ret
      exact ⟨ret_int (HNO.out rfl).symm, B1.out⟩
    · have HRES := Lib.hid (HYE.out rfl)
      go_wp2_with fail
      refine (HTH.out _).mono ?_
      rintro e wb ⟨rfl, hb⟩
      have G1 := Lib.hid (G1.out.step hb)
      have G2 := Lib.hid (G2.out.step hb)
      have G3 := Lib.hid (G3.out.step hb)
      have G4 := Lib.hid (G4.out.step hb)
      have Sb := Lib.hid (S0.out.step hb)
      have Bb := Lib.hid (B1.out.trans (hb.mono B1.out.size))
      clear hb x0 x1 y0 y1 y2 y3 H0 HGL S0 G0 H1
      obtain ⟨x0, x1, x2, x3, _⟩ := Sb.out.1
      go_wp2_with fail
      refine (HIN.out _ _ _ _ _ _ G1.out G2.out G3.out G4.out).mono ?_
      rintro e w3 ⟨vi, rfl, hm, hb⟩
      have S3 := Lib.hid (Sb.out.step hb)
      have G1 := Lib.hid (G1.out.step hb)
      have G2 := Lib.hid (G2.out.step hb)
      have G3 := Lib.hid (G3.out.step hb)
      have G4 := Lib.hid (G4.out.step hb)
      have B3 := Lib.hid (Bb.out.trans (hb.mono Bb.out.size))
      have S3 := Lib.hid (Held.start S3.out.1 S3.out.2.1)
      obtain ⟨ai, ci, rfl⟩ := ints_form hm
      have HLB3 := Lib.hid hm
      clear hm hb x0 x1 x2 x3 Sb Bb B1
      go_wp2_with fail
      go_loopw [7, 25] (fun o i wr => ∃ m : Nat, m ≤ X.length ∧ i = .int .i64 m ∧ o = .int .i64 (F m) ∧ Held w3 wr [(w1.heap.size, 0, .slice A5 ns'.length c5), (w1.heap.size, 1, .slice A6 ls'.length c6), (w1.heap.size, 2, .slice A7 rs.length c7), (w1.heap.size, 3, .slice A8 ds.length c8)]) (fun _ i _ => X.length - (intOf i).toNat)
      case atStart => exact ⟨0, Nat.zero_le _, rfl, by rw [HT0.out], S3.out⟩
      case round =>
        clear S3
        obtain ⟨m, hm, rfl, rfl, hh⟩ := hrel
        have H1 := Lib.hid hh; clear hh
        by_cases hlt : m < X.length
        · obtain ⟨gl, cl, el⟩ := HLB3.out.some_ (by omega)
          simp only [Value.slice.injEq] at el
          obtain ⟨rfl, -, -⟩ := el
          obtain ⟨c0, -, hgl0, -, -⟩ := (HLB3.out.step H1.out.below).at_ (j := m) hlt
          obtain ⟨k, hk, hkl, -, k0, k1⟩ := HAT.out m hlt
          have HTM := Lib.hid (HTK.out m hlt)
          rw [hk] at c0 HTM
          clear hk
          have HARk := Lib.hid (HAR.out k hkl)
          generalize AR (k : Int) = ar at *
          have p3 : (0 : Int) ≤ m := by omega
          have p4 : (m : Int) < (X.length : Int) := by omega
          generalize F m = fm at *
          obtain ⟨d1, d2, d3, d4⟩ := quo_facts hq0 hq1 k0
          obtain ⟨x0, x1, x2, x3, _⟩ := H1.out.1
          go_wp2_with fail
          refine regionD (S := fun W => Held _ W [(w1.heap.size, 0, .slice A5 ns'.length c5), (w1.heap.size, 1, .slice A6 ls'.length c6), (w1.heap.size, 2, .slice A7 rs.length c7), (w1.heap.size, 3, .slice A8 ds.length c8)]) (by kernel_rfl) H1.out.drew ?_
          iterate 9 (refine takeT (v := ?_) rfl (by kernel_rfl) (by kernel_rfl) (by kernel_rfl) ?_ ?_; rotate_left; (first | (refine Or.inr ⟨by rfl, ?_⟩; with_reducible rfl) | (refine Or.inl ⟨by rfl, fun W hS => detRes_value (w' := W) ?_ hS⟩; obtain ⟨x0, x1, x2, x3, _⟩ := hS.1; go_simp; first | done | with_reducible rfl) | (refine Or.inl ⟨by rfl, fun W hS => ?_⟩; refine detRes_call (w' := W) (f := ?_) (args := ?_) ?_ ?_; rotate_left 2; (go_simp; (refine ⟨?_, ?_⟩ <;> with_reducible rfl)); (first | (with_reducible refine (HG.out _).mono ?_) | (with_reducible refine (HARk.out _ _ _ _ _ _ (G1.out.step hS.below) (G2.out.step hS.below) (G3.out.step hS.below) (G4.out.step hS.below)).mono ?_) | fail); (first | (rintro e wn ⟨rfl, hb⟩; refine ⟨?_, hS.step hb⟩; with_reducible rfl) | (rintro e wn ⟨rfl, rfl⟩; refine ⟨?_, hS⟩; with_reducible rfl) | fail)) | fail); (simp only [Act.put, List.setIfInBounds_toArray, List.set_cons_zero, List.set_cons_succ]))
          refine doneD (by kernel_rfl) fun wH2 HS => ?_
          have H2 := Lib.hid HS; clear HS
          try clear x0 x1 x2 x3
          obtain ⟨x0, x1, x2, x3, _⟩ := H2.out.1
          go_wp2_with fail
          exact ⟨⟨m + 1, by omega, by go_num, by rw [HTM.out], H2.out⟩, by simp [intOf]; omega⟩
        · obtain rfl : m = X.length := by omega
          go_wp2_with fail
          go_ret
          exact ⟨ret_int (by rw [HTE.out, HRES.out]), B3.out.trans (H1.out.below.mono B3.out.size)⟩
  · rw [show inB t 1 20 = false by simpa using ht] at HTH HNO
    have HN1 := Lib.hid (HNO.out (by simp))
    generalize grW ns ls t = res at *
    generalize gN ns ls = ns' at *
    generalize gL ns ls = ls' at *
    generalize gA ns ls = ds at *
    generalize wF ns ls = rs at *
    generalize wholeB ns ls = ok at *
    obtain ⟨x0, x1, _⟩ := H0.out.1
    go_enter Tryz.func28, Tryz.ntmps28
    go_wp2_with fail
    refine (HGL.out _ (HN.out.step H0.out.below) (HL.out.step H0.out.below)).mono ?_
    rintro e w1 ⟨v1, v2, v3, v4, rfl, g1, g2, g3, g4, hb⟩
    have H1 := Lib.hid (H0.out.step hb)
    have G0 := Lib.hid (heldG w1 v1 v2 v3 v4 98)
    have B1 := Lib.hid (H1.out.below.trans (G0.out.below.mono H1.out.below.size))
    have G1 := Lib.hid (g1.step G0.out.below)
    have G2 := Lib.hid (g2.step G0.out.below)
    have G3 := Lib.hid (g3.step G0.out.below)
    have G4 := Lib.hid (g4.step G0.out.below)
    obtain ⟨A5, c5, rfl⟩ := prs_form2 g1
    obtain ⟨A6, c6, rfl⟩ := prs_form2 g2
    obtain ⟨A7, c7, rfl⟩ := faces_form g3
    obtain ⟨A8, c8, rfl⟩ := ints_form g4
    have S0 := Lib.hid (Held.start G0.out.1 G0.out.2.1)
    clear hb g1 g2 g3 g4
    obtain ⟨x0, x1, _⟩ := H1.out.1
    obtain ⟨y0, y1, y2, y3, _⟩ := G0.out.1
    cases ok
    · go_wp2_with fail
      go_ret
      exact ⟨ret_int HN1.out.symm, B1.out⟩
    · go_wp2_with fail
      refine (HTH.out _).mono ?_
      rintro e wb ⟨rfl, hb⟩
      have Bb := Lib.hid (B1.out.trans (hb.mono B1.out.size))
      go_wp2_with fail
      go_ret
      exact ⟨ret_int HN1.out.symm, Bb.out⟩

set_option maxRecDepth 100000 in
set_option maxHeartbeats 1000000 in
theorem specGreat28 (ns ls : List Nd) (vn vl : Value) (w : World) (hn : Prs w vn ns) (hl : Prs w vl ls) :
    Calls Tryz.prog 79 #[.agg #[vn, vl]] w (IntIs (mxA ns ls) w) := by
  have HF := Lib.hid (fun w h1 h2 => specFacesL ns ls vn vl w h1 h2)
  unfold FacesNew at HF
  have HOK := Lib.hid (wF_ok ns ls).2
  have HAL := Lib.hid (fun l vx w (hx : Seq w vx l) hn hl hw hd h4 => specAlong ns ls vn vl vx l w hn hl hx hw hd h4)
  unfold IntIs at HAL
  have HN := Lib.hid hn
  have HL := Lib.hid hl
  have H0 := Lib.hid (held_pair w vn vl 32)
  obtain ⟨A, c, rfl⟩ := prs_form2 hn
  obtain ⟨A2, c2, rfl⟩ := prs_form2 hl
  clear hn hl
  have h40 := wF_len (ns := ns) (ls := ls)
  have HU := Lib.hid (fun m => (show mxK ns ls (m + 1) = max (mxK ns ls m) (areaL ns ls (atR (wF ns ls) m) (atR (wF ns ls) m).length) from rfl))
  have HZ := Lib.hid (show mxK ns ls 0 = 0 from rfl)
  have HR := Lib.hid (show mxA ns ls = mxK ns ls (wF ns ls).length from rfl)
  generalize mxA ns ls = res at *
  generalize mxK ns ls = X at *
  generalize wF ns ls = rs at *
  go_enter Tryz.func79, Tryz.ntmps79
  go_wp2_with fail
  refine (HF.out _ (HN.out.step H0.out.below) (HL.out.step H0.out.below)).mono ?_
  rintro e w1 ⟨vf, rfl, hf, hb⟩
  have H1 := Lib.hid (H0.out.step hb); clear hb
  obtain ⟨a, c3, rfl, hmax, hro⟩ := hf.open_
  have HRO := Lib.hid hro; clear hro hf H0
  go_wp2_with fail
  go_loopw [4, 5] (fun n i wr => ∃ m : Nat, m ≤ rs.length ∧ i = .int .i64 m ∧ n = .int .i64 (X m) ∧ Held w wr [(w.heap.size, 0, .slice A ns.length c), (w.heap.size, 1, .slice A2 ls.length c2)] ∧ Below w1.heap.size w1 wr) (fun _ i _ => rs.length - (intOf i).toNat)
  case atStart => exact ⟨0, Nat.zero_le _, rfl, by rw [HZ.out], H1.out, Below.refl _ _⟩
  case round =>
    clear H1
    obtain ⟨m, hm, rfl, rfl, hh, hbb⟩ := hrel
    have H1 := Lib.hid hh; clear hh
    have B1 := Lib.hid hbb; clear hbb
    by_cases hlt : m < rs.length
    · obtain ⟨g3, rfl, hg3, hrw⟩ := HRO.out m hlt
      obtain ⟨A4, c4, k0, hsq⟩ := hrw wr B1.out
      obtain ⟨hw, hd, h4⟩ := HOK.out m hlt
      have HSQ := Lib.hid hsq
      have HA := Lib.hid (fun w hn hl (hx : Seq w (.slice A4 (atR rs m).length c4) (atR rs m)) => HAL.out (atR rs m) (.slice A4 (atR rs m).length c4) w hx hn hl hw hd h4)
      have HUM := Lib.hid (HU.out m)
      have H5 := Lib.hid (Held.start (w := wr) (fs := [(w.heap.size, 0, .slice A ns.length c), (w.heap.size, 1, .slice A2 ls.length c2), (g3, m, .slice A4 (atR rs m).length c4)]) ⟨H1.out.1.1, H1.out.1.2.1, k0, trivial⟩ ⟨H1.out.2.1.1, H1.out.2.1.1, Nat.lt_of_lt_of_le hg3 B1.out.size, trivial⟩)
      clear hsq hrw hw hd k0
      have q1 : (0 : Int) ≤ m := by omega
      have q2 : (m : Int) < (rs.length : Int) := by omega
      generalize areaL ns ls (atR rs m) (atR rs m).length = ar at *
      generalize (atR rs m).length = rl at *
      generalize X m = xm at *
      obtain ⟨x0, x1, x2, _⟩ := H5.out.1
      go_wp2_with fail
      refine regionD (S := fun W => Held _ W [(w.heap.size, 0, .slice A ns.length c), (w.heap.size, 1, .slice A2 ls.length c2), (g3, m, .slice A4 rl c4)]) (by kernel_rfl) H5.out.drew ?_
      iterate 9 (refine takeT (v := ?_) rfl (by kernel_rfl) (by kernel_rfl) (by kernel_rfl) ?_ ?_; rotate_left; (first | (refine Or.inr ⟨by rfl, ?_⟩; with_reducible rfl) | (refine Or.inl ⟨by rfl, fun W hS => detRes_value (w' := W) ?_ hS⟩; obtain ⟨x0, x1, x2, _⟩ := hS.1; go_simp; first | done | with_reducible rfl) | (refine Or.inl ⟨by rfl, fun W hS => ?_⟩; refine detRes_call (w' := W) (f := ?_) (args := ?_) ?_ ?_; rotate_left 2; (go_simp; (refine ⟨?_, ?_⟩ <;> with_reducible rfl)); (first | (with_reducible refine (HA.out _ ((HN.out.step H1.out.below).step hS.below) ((HL.out.step H1.out.below).step hS.below) (HSQ.out.step hS.below)).mono ?_) | fail); (first | (rintro e wn ⟨rfl, hb⟩; refine ⟨?_, hS.step hb⟩; with_reducible rfl) | (rintro e wn ⟨rfl, rfl⟩; refine ⟨?_, hS⟩; with_reducible rfl) | fail)) | fail); (simp only [Act.put, List.setIfInBounds_toArray, List.set_cons_zero, List.set_cons_succ]))
      refine doneD (by kernel_rfl) fun wH6 HS => ?_
      have H6 := Lib.hid HS; clear HS
      try clear x0 x1 x2
      obtain ⟨x0, x1, x2, _⟩ := H6.out.1
      go_wp2_with fail
      exact ⟨⟨m + 1, by omega, by go_num, by rw [HUM.out], H1.out.step H6.out.below, B1.out.trans (H6.out.below.mono B1.out.size)⟩, by simp [intOf]; omega⟩
    · obtain rfl : m = rs.length := by omega
      go_wp2_with fail
      go_ret
      exact ⟨ret_int HR.out.symm, H1.out.below⟩

set_option maxRecDepth 100000 in
set_option maxHeartbeats 1000000 in
theorem specGrw (ns ls : List Nd) (vn vl : Value) (t : Int) (w : World) (hn : Prs w vn ns) (hl : Prs w vl ls) :
    Calls Tryz.prog 27 #[.agg #[vn, vl], .int .i64 t] w (IntIs (grW ns ls t) w) := by
  have HA := Lib.hid (fun w h1 h2 => specWhole ns ls vn vl w h1 h2)
  have HB := Lib.hid (specInB t 1 20)
  have HC := Lib.hid (fun w h1 h2 => specGreat28 ns ls vn vl w h1 h2)
  unfold IntIs at HC
  unfold BoolIs at HA HB
  have HR := Lib.hid (show grW ns ls t = if (wholeB ns ls && inB t 1 20) = true then (if mxA ns ls = 0 then 1000 else min 1000 (Int.tdiv (500 * t * t) (mxA ns ls))) else -1 from rfl)
  have HTB := Lib.hid (fun (h : inB t 1 20 = true) => thick_bd h)
  have hm : 0 ≤ mxA ns ls ∧ mxA ns ls ≤ 16000 := mxK_bd ns ls _ (Nat.le_refl _)
  have HQ0 := Lib.hid (fun (h : inB t 1 20 = true) => (show (0 ≤ 500 * t * t ∧ 500 * t * t ≤ 200000) ∧ wrap64 (500 * t * t) = 500 * t * t from by
    have h1 := (inB_iff _ _ _).1 h
    have h2 := sq_nn h
    have h3 : 500 * t * t ≤ 10000 * 20 := Int.mul_le_mul (by omega) (by omega) (by omega) (by omega)
    exact ⟨⟨h2, by omega⟩, IntWalk.wrap64_in _ (by omega)⟩))
  have HN := Lib.hid hn
  have HL := Lib.hid hl
  have H0 := Lib.hid (held_pair w vn vl 32)
  obtain ⟨A, c, rfl⟩ := prs_form2 hn
  obtain ⟨A2, c2, rfl⟩ := prs_form2 hl
  clear hn hl
  generalize grW ns ls t = res at *
  generalize wholeB ns ls = b1 at *
  generalize inB t 1 20 = b2 at *
  generalize mxA ns ls = M at *
  cases b1
  · go_enter Tryz.func27, Tryz.ntmps27
    go_wp2_with fail
    refine (HA.out _ (HN.out.step H0.out.below) (HL.out.step H0.out.below)).mono ?_
    rintro e w1 ⟨rfl, hb⟩
    have H1 := Lib.hid (H0.out.step hb); clear hb
    go_wp2_with fail
    go_ret
    exact ⟨ret_int (by rw [HR.out]; simp), H1.out.below⟩
  · cases b2
    · go_enter Tryz.func27, Tryz.ntmps27
      go_wp2_with fail
      refine (HA.out _ (HN.out.step H0.out.below) (HL.out.step H0.out.below)).mono ?_
      rintro e w1 ⟨rfl, hb⟩
      have H1 := Lib.hid (H0.out.step hb); clear hb
      go_wp2_with fail
      refine (HB.out _).mono ?_
      rintro e w2 ⟨rfl, hb⟩
      have H2 := Lib.hid (H1.out.step hb); clear hb
      go_wp2_with fail
      go_ret
      exact ⟨ret_int (by rw [HR.out]; simp), H2.out.below⟩
    · have ht := HTB.out rfl
      obtain ⟨t1, t2⟩ := ht
      obtain ⟨⟨hq0, hq1⟩, t4⟩ := HQ0.out rfl
      by_cases hz : M = 0
      · have HX := Lib.hid (show res = 1000 from by rw [HR.out]; simp [hz])
        subst hz
        go_enter Tryz.func27, Tryz.ntmps27
        go_wp2_with fail
        refine (HA.out _ (HN.out.step H0.out.below) (HL.out.step H0.out.below)).mono ?_
        rintro e w1 ⟨rfl, hb⟩
        have H1 := Lib.hid (H0.out.step hb); clear hb
        obtain ⟨x0, x1, _⟩ := H1.out.1
        go_wp2_with fail
        refine (HB.out _).mono ?_
        rintro e w2 ⟨rfl, hb⟩
        have H2 := Lib.hid (H1.out.step hb); clear hb x0 x1
        obtain ⟨x0, x1, _⟩ := H2.out.1
        go_wp2_with fail
        refine (HC.out _ (HN.out.step H2.out.below) (HL.out.step H2.out.below)).mono ?_
        rintro e w3 ⟨rfl, hb⟩
        have H3 := Lib.hid (H2.out.step hb); clear hb x0 x1
        go_wp2_with fail
        go_ret
        exact ⟨ret_int HX.out.symm, H3.out.below⟩
      · have HX := Lib.hid (show res = min 1000 (Int.tdiv (500 * t * t) M) from by rw [HR.out]; simp [hz])
        have hzb : (M == 0) = false := by simpa using hz
        obtain ⟨d1, d2, d3, d4⟩ := quo_facts hq0 hq1 (show 0 < M by omega)
        go_enter Tryz.func27, Tryz.ntmps27
        go_wp2_with fail
        refine (HA.out _ (HN.out.step H0.out.below) (HL.out.step H0.out.below)).mono ?_
        rintro e w1 ⟨rfl, hb⟩
        have H1 := Lib.hid (H0.out.step hb); clear hb
        obtain ⟨x0, x1, _⟩ := H1.out.1
        go_wp2_with fail
        refine (HB.out _).mono ?_
        rintro e w2 ⟨rfl, hb⟩
        have H2 := Lib.hid (H1.out.step hb); clear hb x0 x1
        obtain ⟨x0, x1, _⟩ := H2.out.1
        go_wp2_with fail
        refine (HC.out _ (HN.out.step H2.out.below) (HL.out.step H2.out.below)).mono ?_
        rintro e w3 ⟨rfl, hb⟩
        have H3 := Lib.hid (H2.out.step hb); clear hb x0 x1
        go_wp2_with fail
        go_ret
        exact ⟨ret_int (by first | exact HX.out.symm | (rw [t4, d2]; exact HX.out.symm)), H3.out.below⟩
end Go.Proofs.YtepacoacalhdcaaGreat
