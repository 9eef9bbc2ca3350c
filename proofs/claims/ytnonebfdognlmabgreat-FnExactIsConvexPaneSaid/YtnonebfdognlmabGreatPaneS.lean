/-
  PaneNodes, IsPane, PanesOf, of the model.
-/
import Derived.Test.YtnonebfdognlmabGreatPaneI
import Derived.Test.YtnonebfdognlmabGreatGlsV
namespace Go.Proofs.YtnonebfdognlmabGreat
open Go.RowKit
set_option linter.unusedVariables false
set_option linter.unusedSimpArgs false

set_option maxRecDepth 100000 in
set_option maxHeartbeats 2000000 in
theorem specPaneNodes (ns ls : List Nd) (vn vl : Value) (f : Int) (w : World) (hn : Prs w vn ns) (hl : Prs w vl ls) :
    Calls Tryz.prog 16 #[.agg #[vn, vl], .int .i64 f] w (IntsNew (paneW ns ls f) w) := by
  have HIN := Lib.hid (fun w => specIn f 0 (((wF ns ls).length : Int) - 1) w)
  have HF := Lib.hid (fun w h1 h2 => specFacesL ns ls vn vl w h1 h2)
  unfold FacesNew at HF
  by_cases hf : idxB (wF ns ls).length f = true
  · obtain ⟨k, rfl, hk⟩ := idx_nat hf
    rw [show inB (k : Int) 0 (((wF ns ls).length : Int) - 1) = true by simp [inB]; omega] at HIN
    have HR := Lib.hid (show paneW ns ls k = bordL ls (atR (wF ns ls) k) (atR (wF ns ls) k).length from if_pos hf)
    have h20 := (whole_win (wF_row hk).1).2.2.1
    obtain ⟨hw, hd, h4⟩ := (wF_ok ns ls).2 k hk
    have HE := Lib.hid (fun (A A2 : Option Addr) (c c2 : Nat) (q : Nat) w h1 (h : q < 2 * ls.length) => sEnds ls (.slice A ns.length c) (.slice A2 ls.length c2) q w h1 h h20)
    unfold TwoIs at HE
    have HD := Lib.hid hd
    have HU := Lib.hid (fun n q (h : n < (atR (wF ns ls) k).length) (hq : atZ (atR (wF ns ls) k) n = (q : Nat)) => bordL_succ (ls := ls) h hq)
    have HLN := Lib.hid (bordL_len ls (atR (wF ns ls) k))
    have HZ := Lib.hid (show bordL ls (atR (wF ns ls) k) 0 = [] from rfl)
    clear hf hw hd h20
    have HN := Lib.hid hn
    have HL := Lib.hid hl
    have H0 := Lib.hid (held_pair w vn vl 32)
    obtain ⟨A, c, rfl⟩ := prs_form2 hn
    obtain ⟨A2, c2, rfl⟩ := prs_form2 hl
    clear hn hl
    have h40 := wF_len (ns := ns) (ls := ls)
    have H1 := Lib.hid (H0.out.alloc (.cells #[] 3))
    have HO1 := Lib.hid (Ints.made (w.alloc (.cells #[.slice A ns.length c, .slice A2 ls.length c2] 32)) (w.heap.size + 1) (w.heap.size + 1) (by simp) (Nat.le_refl _))
    clear H0
    obtain ⟨i0, hi, hz0, hz1, hz2⟩ := info_parts infoInt
    have HI := Lib.hid (And.intro hi (And.intro hz0 (And.intro hz1 hz2))); clear hi hz0 hz1 hz2
    generalize bordL ls (atR (wF ns ls) k) = X at *
    generalize paneW ns ls (k : Int) = res at *
    generalize wF ns ls = rs at *
    go_enter Tryz.func16, Tryz.ntmps16
    go_wp2_with fail
    refine (HF.out _ (HN.out.step H1.out.below) (HL.out.step H1.out.below)).mono ?_
    rintro e w1 ⟨vf, rfl, hf, hb⟩
    have hbase : ((w.alloc (.cells #[.slice A ns.length c, .slice A2 ls.length c2] 32)).alloc (.cells #[] 3)).heap.size = w.heap.size + 1 + 1 := by simp
    rw [hbase] at hf
    obtain ⟨a, c3, rfl, hmax, hro⟩ := hf.open2
    have HRO := Lib.hid hro; clear hro
    have H2 := Lib.hid (H1.out.step hb)
    have HO2 := Lib.hid (HO1.out.step hb)
    clear hb hf H1 HO1 hbase
    go_wp2_with fail
    refine (HIN.out _).mono ?_
    rintro e w9 ⟨rfl, rfl⟩
    obtain ⟨g3, rfl, hg3, hrw⟩ := HRO.out k hk
    have HRW := Lib.hid hrw; clear hrw HRO
    have k1 : (0 : Int) ≤ k := by omega
    have k2 : (k : Int) < (rs.length : Int) := by omega
    generalize atR rs k = r at *
    go_wp2_with fail
    go_loopw [5, 7] (fun v i wr => ∃ m : Nat, m ≤ r.length ∧ i = .int .i64 m ∧ Ints wr (w.heap.size + 1) v (X m) ∧ Keeps (w.heap.size + 1 + 1) w1 wr ∧ (∀ k, v.ownBlock = some k → k < w.heap.size + 1 + 1 ∨ w1.heap.size ≤ k) ∧ Held w wr [(w.heap.size, 0, .slice A ns.length c), (w.heap.size, 1, .slice A2 ls.length c2)]) (fun _ i _ => r.length - (intOf i).toNat)
    case atStart => exact ⟨0, Nat.zero_le _, rfl, by rw [HZ.out]; exact HO2.out, Keeps.refl _ _, fun k hk => by simp [Value.ownBlock] at hk; omega, H2.out⟩
    case round =>
      clear H2 HO2
      obtain ⟨m, hm, rfl, hown, hkeep, hwhere, hh⟩ := hrel
      have HO := Lib.hid hown; clear hown
      have HK := Lib.hid hkeep; clear hkeep
      have HW := Lib.hid hwhere; clear hwhere
      have H1 := Lib.hid hh; clear hh
      obtain ⟨A4, c4, k0, hsq⟩ := HRW.out wr HK.out
      have hks := HK.out.1
      by_cases hlt : m < r.length
      · obtain ⟨A6, c6, e6, -, -, hcs⟩ := hsq.form
        simp only [Value.slice.injEq] at e6
        obtain ⟨rfl, -, -⟩ := e6
        obtain ⟨bb, oo, rfl, hbl, hc⟩ := hcs m hlt
        obtain ⟨q, hq, hqN⟩ := HD.out m hlt
        have HUM := Lib.hid (HU.out m q hlt hq)
        have hln := HLN.out m
        rw [hq] at hc
        have H2 := Lib.hid (Held.start (w := wr) (fs := [(w.heap.size, 0, .slice A ns.length c), (w.heap.size, 1, .slice A2 ls.length c2), (g3, k, .slice (some ⟨bb, oo, none⟩) r.length c4), (bb, oo + m, .int .i64 (q : Int))]) ⟨H1.out.1.1, H1.out.1.2.1, k0, hc, trivial⟩ ⟨H1.out.2.1.1, H1.out.2.1.1, Nat.lt_of_lt_of_le hg3 hks, hbl, trivial⟩)
        have HEQ := Lib.hid (fun w h1 => HE.out A A2 c c2 q w h1 hqN)
        have HLr := Lib.hid (HL.out.step H1.out.below)
        clear hq hcs hc k0 hsq hbl
        have p1 : (0 : Int) ≤ m := by omega
        have p2 : (m : Int) < (r.length : Int) := by omega
        generalize dF ls q = nf at *
        generalize dT ls q = nt at *
        obtain ⟨x0, x1, x2, x3, _⟩ := H2.out.1
        go_wp2_with fail
        refine regionD (S := fun W => Held _ W [(w.heap.size, 0, .slice A ns.length c), (w.heap.size, 1, .slice A2 ls.length c2), (g3, k, .slice (some ⟨bb, oo, none⟩) r.length c4), (bb, oo + m, .int .i64 (q))]) (by kernel_rfl) H2.out.drew ?_
        iterate 14 (refine takeT (v := ?_) rfl (by kernel_rfl) (by kernel_rfl) (by kernel_rfl) ?_ ?_; rotate_left; (first | (refine Or.inr ⟨by rfl, ?_⟩; with_reducible rfl) | (refine Or.inl ⟨by rfl, fun W hS => detRes_value (w' := W) ?_ hS⟩; obtain ⟨x0, x1, x2, x3, _⟩ := hS.1; go_simp; first | done | with_reducible rfl) | (refine Or.inl ⟨by rfl, fun W hS => ?_⟩; refine detRes_call (w' := W) (f := ?_) (args := ?_) ?_ ?_; rotate_left 2; (go_simp; (refine ⟨?_, ?_⟩ <;> with_reducible rfl)); (first | (with_reducible refine (HEQ.out _ (HLr.out.step hS.below)).mono ?_) | fail); (first | (rintro e wn ⟨rfl, hb⟩; refine ⟨?_, hS.step hb⟩; with_reducible rfl) | (rintro e wn ⟨rfl, rfl⟩; refine ⟨?_, hS⟩; with_reducible rfl) | fail)) | fail); (simp only [Act.put, List.setIfInBounds_toArray, List.set_cons_zero, List.set_cons_succ]))
        refine doneD (by kernel_rfl) fun wH3 HS => ?_
        have H3 := Lib.hid HS; clear HS
        try clear x0 x1 x2 x3
        obtain ⟨x0, x1, x2, x3, _⟩ := H3.out.1
        have HO3 := Lib.hid (HO.out.step H3.out.below)
        have HK3 := Lib.hid (HK.out.below H3.out.below)
        have H4 := Lib.hid (H1.out.step H3.out.below)
        obtain ⟨hi, hz0, hz1, hz2⟩ := HI.out
        have hsz1 := H4.out.2.1.1
        have hks3 := HK3.out.1
        clear H1 HO HK hks
        go_wp2_with (at_builtin; refine wpList_append_int rfl _ _ 27 rfl Tryz.underlying27 hi hz0 hz1 hz2 (World.ownsRow.alloc HO3.out _) rfl rfl (cell_new0 _ _ _) (by omega) (by simp; omega) ?_)
        intro v' w5 hown hgrow hfresh
        have H5 := Lib.hid (H4.out.stepB (B := w.heap.size + 1) ⟨Nat.lt_succ_self _, Nat.lt_succ_self _, trivial⟩ (grown_below HO3.out hsz1 hgrow) (Nat.le_succ _))
        have HK5 := Lib.hid ((HK3.out.below (below_alloc _ (.cells #[.int .i64 nf] 3))).grown hgrow (fun k e => by have := HW.out k e; omega))
        have HW5 := Lib.hid (show ∀ k, v'.ownBlock = some k → k < w.heap.size + 1 + 1 ∨ w1.heap.size ≤ k from fun k hk => by
          rcases hfresh with e | e
          · exact HW.out k (by rw [← e]; exact hk)
          · rw [e] at hk
            have hk2 : wH3.heap.size + 1 = k := by simpa using hk
            omega)
        have HO5 := Lib.hid (Ints.more (xs := X m) (x := nf) (by simpa using hown))
        clear hown hgrow hfresh
        go_wp2_with fail
        exact ⟨⟨m + 1, by omega, by go_num, by rw [HUM.out]; exact HO5.out, HK5.out, HW5.out, H5.out⟩, by simp [intOf]; omega⟩
      · obtain rfl : m = r.length := by omega
        clear hsq
        go_wp2_with fail
        go_ret
        exact ⟨_, rfl, by rw [HR.out]; exact HO.out.mono (Nat.le_succ _), H1.out.below⟩
  · have HR := Lib.hid (show paneW ns ls f = [] from if_neg hf)
    rw [show inB f 0 (((wF ns ls).length : Int) - 1) = false from by
      rw [Bool.eq_false_iff]
      intro h
      simp [inB] at h
      exact hf ((idxB_iff _ _).2 (by omega))] at HIN
    clear hf
    have HN := Lib.hid hn
    have HL := Lib.hid hl
    have H0 := Lib.hid (held_pair w vn vl 32)
    obtain ⟨A, c, rfl⟩ := prs_form2 hn
    obtain ⟨A2, c2, rfl⟩ := prs_form2 hl
    clear hn hl
    have h40 := wF_len (ns := ns) (ls := ls)
    have H1 := Lib.hid (H0.out.alloc (.cells #[] 3))
    have HO1 := Lib.hid (Ints.made (w.alloc (.cells #[.slice A ns.length c, .slice A2 ls.length c2] 32)) (w.heap.size + 1) (w.heap.size + 1) (by simp) (Nat.le_refl _))
    clear H0
    obtain ⟨i0, hi, hz0, hz1, hz2⟩ := info_parts infoInt
    have HI := Lib.hid (And.intro hi (And.intro hz0 (And.intro hz1 hz2))); clear hi hz0 hz1 hz2
    generalize paneW ns ls f = res at *
    generalize wF ns ls = rs at *
    go_enter Tryz.func16, Tryz.ntmps16
    go_wp2_with fail
    refine (HF.out _ (HN.out.step H1.out.below) (HL.out.step H1.out.below)).mono ?_
    rintro e w1 ⟨vf, rfl, hf, hb⟩
    have hbase : ((w.alloc (.cells #[.slice A ns.length c, .slice A2 ls.length c2] 32)).alloc (.cells #[] 3)).heap.size = w.heap.size + 1 + 1 := by simp
    rw [hbase] at hf
    obtain ⟨a, c3, rfl, hmax, hro⟩ := hf.open2
    have HRO := Lib.hid hro; clear hro
    have H2 := Lib.hid (H1.out.step hb)
    have HO2 := Lib.hid (HO1.out.step hb)
    clear hb hf H1 HO1 hbase
    go_wp2_with fail
    refine (HIN.out _).mono ?_
    rintro e w9 ⟨rfl, rfl⟩
    go_wp2_with fail
    go_ret
    exact ⟨_, rfl, by rw [HR.out]; exact HO2.out.mono (Nat.le_succ _), H2.out.below⟩

theorem paneB_is (ns ls : List Nd) (f : Int) : paneB ns ls f = (decide (0 < (paneW ns ls f).length) && (decide (f ≠ outW ns ls) && diffB (paneW ns ls f))) := by
  unfold paneB testB paneW
  by_cases h : idxB (wF ns ls).length f = true
  · rw [if_pos h, h]
    obtain ⟨k, rfl, hk⟩ := idx_nat h
    rw [bord_len, show decide (0 < (atR (wF ns ls) (k : Int).toNat).length) = true from decide_eq_true (row_len hk).2]
  · rw [if_neg h, show idxB (wF ns ls).length f = false by simpa using h]
    rfl

set_option maxRecDepth 100000 in
set_option maxHeartbeats 2000000 in
theorem specIsPane (ns ls : List Nd) (vn vl : Value) (f : Int) (w : World) (hn : Prs w vn ns) (hl : Prs w vl ls) :
    Calls Tryz.prog 24 #[.agg #[vn, vl], .int .i64 f] w (BoolIs (paneB ns ls f) w) := by
  have HN := Lib.hid hn
  have HL := Lib.hid hl
  have HP := Lib.hid (fun w h1 h2 => specPaneNodes ns ls vn vl f w h1 h2)
  unfold IntsNew at HP
  have HO := Lib.hid (fun w h1 h2 => specOuterFace ns ls vn vl w h1 h2)
  unfold IntIs at HO
  have h40 := paneW_len ns ls f
  have HR := Lib.hid (paneB_is ns ls f)
  have HDY := Lib.hid (show (List.take (paneW ns ls f).length (paneW ns ls f)).Nodup → diffB (paneW ns ls f) = true from fun h => decide_eq_true (by rw [List.take_length] at h; exact h))
  have HNO := Lib.hid (fun m => diff_no (xs := paneW ns ls f) (m := m))
  have HTK := Lib.hid (fun m (h : m < (paneW ns ls f).length) => diff_take h)
  have H0 := Lib.hid (held_pair w vn vl 32)
  obtain ⟨A, c, rfl⟩ := prs_form2 hn
  obtain ⟨A2, c2, rfl⟩ := prs_form2 hl
  clear hn hl
  generalize paneB ns ls f = res at *
  generalize outW ns ls = o at *
  generalize paneW ns ls f = xs at *
  generalize diffB xs = dif at *
  go_enter Tryz.func24, Tryz.ntmps24
  go_wp2_with fail
  refine (HP.out _ (HN.out.step H0.out.below) (HL.out.step H0.out.below)).mono ?_
  rintro e w1 ⟨v, rfl, hv, hb⟩
  have HB1 := Lib.hid (H0.out.below.trans (hb.mono H0.out.below.size))
  have HS := H0.out.step hb
  have H1 := Lib.hid (Held.start (w := w1) (fs := [(w.heap.size, 0, .slice A ns.length c), (w.heap.size, 1, .slice A2 ls.length c2)]) HS.1 HS.2.1)
  clear hb HS H0
  by_cases h0 : 0 < xs.length
  · obtain ⟨g, cv, rfl⟩ := hv.some_ h0
    have HV := Lib.hid hv; clear hv
    have g0 : (0 : Int) < (xs.length : Int) := by omega
    go_wp2_with fail
    go_loopw [6] (fun i wr => ∃ m : Nat, m ≤ xs.length ∧ i = .int .i64 m ∧ (xs.take m).Nodup ∧ Held w1 wr [(w.heap.size, 0, .slice A ns.length c), (w.heap.size, 1, .slice A2 ls.length c2)]) (fun i _ => xs.length - (intOf i).toNat)
    case atStart => exact ⟨0, Nat.zero_le _, rfl, by simp, H1.out⟩
    case round =>
      clear H1
      obtain ⟨m, hm, rfl, ha, hh⟩ := hrel
      have HA := Lib.hid ha; clear ha
      have H1 := Lib.hid hh; clear hh
      by_cases hlt : m < xs.length
      · have p1 : (0 : Int) ≤ m := by omega
        have p2 : (m : Int) < (xs.length : Int) := by omega
        have HT := Lib.hid (HTK.out m hlt)
        have HNM := Lib.hid (HNO.out (m + 1))
        go_wp2_with fail
        go_loopw [7] (fun j wq => ∃ n : Nat, n ≤ m ∧ j = .int .i64 n ∧ (∀ x, x < n → atZ xs x ≠ atZ xs m) ∧ Held w1 wq [(w.heap.size, 0, .slice A ns.length c), (w.heap.size, 1, .slice A2 ls.length c2)]) (fun j _ => m - (intOf j).toNat)
        case atStart => exact ⟨0, Nat.zero_le _, rfl, fun x hx => by omega, H1.out⟩
        case round =>
          clear H1
          obtain ⟨n, hn, rfl, hz, hh⟩ := hrel
          have HZ := Lib.hid hz; clear hz
          have H1 := Lib.hid hh; clear hh
          by_cases hlt2 : n < m
          · have n1 : (0 : Int) ≤ n := by omega
            have n2 : (n : Int) < (m : Int) := by omega
            have n3 : (n : Int) < (xs.length : Int) := by omega
            obtain ⟨c0, -, gl, -, -⟩ := (HV.out.step H1.out.below).at_ (j := m) (by omega)
            obtain ⟨d0, -, -, -, -⟩ := (HV.out.step H1.out.below).at_ (j := n) (by omega)
            have H2 := Lib.hid (held_plus H1.out (gs := [(g, m, .int .i64 (atZ xs m)), (g, n, .int .i64 (atZ xs n))]) ⟨c0, d0, trivial⟩ ⟨gl, gl, trivial⟩)
            clear c0 d0 gl
            obtain ⟨x0, x1, x2, x3, _⟩ := H2.out.1
            by_cases he : atZ xs n = atZ xs m
            · have e1 : (atZ xs n == atZ xs m) = true := by simp [he]
              have HX := Lib.hid (show dif = false from HNM.out (by
                rw [HT.out]
                rintro ⟨_, h⟩
                exact h (List.contains_iff_mem.2 (by
                  rw [← he, ← atZ_get (show n < xs.length by omega)]
                  exact List.mem_take_iff_getElem.2 ⟨n, by omega, rfl⟩))))
              go_wp2_with fail
              refine regionD (S := fun W => Held _ W [(w.heap.size, 0, .slice A ns.length c), (w.heap.size, 1, .slice A2 ls.length c2), (g, m, .int .i64 (atZ xs m)), (g, n, .int .i64 (atZ xs n))]) (by kernel_rfl) H2.out.drew ?_
              iterate 9 (refine takeT (v := ?_) rfl (by kernel_rfl) (by kernel_rfl) (by kernel_rfl) ?_ ?_; rotate_left; (first | (refine Or.inr ⟨by rfl, ?_⟩; with_reducible rfl) | (refine Or.inl ⟨by rfl, fun W hS => detRes_value (w' := W) ?_ hS⟩; obtain ⟨x0, x1, x2, x3, _⟩ := hS.1; go_simp; first | done | with_reducible rfl) | fail); (simp only [Act.put, List.setIfInBounds_toArray, List.set_cons_zero, List.set_cons_succ]))
              refine doneD (by kernel_rfl) fun wH3 HS => ?_
              have H3 := Lib.hid HS; clear HS
              try clear x0 x1 x2 x3
              obtain ⟨x0, x1, x2, x3, _⟩ := H3.out.1
              go_wp2_with fail
              go_ret
              exact ⟨ret_bool (by rw [HR.out, HX.out]; simp), HB1.out.trans (H3.out.below.mono HB1.out.size)⟩
            · have e1 : (atZ xs n == atZ xs m) = false := by rw [beq_eq_false_iff_ne]; exact he
              have HEN := Lib.hid he; clear he
              go_wp2_with fail
              refine regionD (S := fun W => Held _ W [(w.heap.size, 0, .slice A ns.length c), (w.heap.size, 1, .slice A2 ls.length c2), (g, m, .int .i64 (atZ xs m)), (g, n, .int .i64 (atZ xs n))]) (by kernel_rfl) H2.out.drew ?_
              iterate 9 (refine takeT (v := ?_) rfl (by kernel_rfl) (by kernel_rfl) (by kernel_rfl) ?_ ?_; rotate_left; (first | (refine Or.inr ⟨by rfl, ?_⟩; with_reducible rfl) | (refine Or.inl ⟨by rfl, fun W hS => detRes_value (w' := W) ?_ hS⟩; obtain ⟨x0, x1, x2, x3, _⟩ := hS.1; go_simp; first | done | with_reducible rfl) | fail); (simp only [Act.put, List.setIfInBounds_toArray, List.set_cons_zero, List.set_cons_succ]))
              refine doneD (by kernel_rfl) fun wH3 HS => ?_
              have H3 := Lib.hid HS; clear HS
              try clear x0 x1 x2 x3
              obtain ⟨x0, x1, x2, x3, _⟩ := H3.out.1
              go_wp2_with fail
              exact ⟨⟨n + 1, by omega, by go_num, fun x hx => by
                by_cases e : x = n
                · subst e; exact HEN.out
                · exact HZ.out x (by omega), H3.out.only (fun ⟨a, b, _⟩ => ⟨a, b, trivial⟩) (fun ⟨a, b, _⟩ => ⟨a, b, trivial⟩)⟩, by simp [intOf]; omega⟩
          · obtain rfl : n = m := by omega
            have HT2 := Lib.hid (show (xs.take (n + 1)).Nodup from HT.out.2 ⟨HA.out, fun h => by
              obtain ⟨i, hi, e⟩ := List.mem_take_iff_getElem.1 (List.contains_iff_mem.1 h)
              exact HZ.out i (by omega) (by rw [← atZ_get (show i < xs.length by omega)]; exact e)⟩)
            go_wp2_with fail
            exact ⟨⟨n + 1, by omega, by go_num, HT2.out, H1.out⟩, by simp [intOf]; omega⟩
      · obtain rfl : m = xs.length := by omega
        have HX := Lib.hid (HDY.out HA.out)
        obtain ⟨x0, x1, _⟩ := H1.out.1
        by_cases ho : f = o
        · have e1 : (f != o) = false := by simp [ho]
          have HXX := Lib.hid (show res = false from by rw [HR.out]; simp [ho])
          clear ho
          go_wp2_with fail
          refine (HO.out _ (HN.out.step (HB1.out.trans (H1.out.below.mono HB1.out.size))) (HL.out.step (HB1.out.trans (H1.out.below.mono HB1.out.size)))).mono ?_
          rintro e w3 ⟨rfl, hb⟩
          have B3 := Lib.hid (HB1.out.trans ((H1.out.below.trans (hb.mono H1.out.below.size)).mono HB1.out.size)); clear hb
          go_wp2_with fail
          go_ret
          exact ⟨ret_bool HXX.out.symm, B3.out⟩
        · have e1 : (f != o) = true := by simp [ho]
          have HXX := Lib.hid (show res = true from by rw [HR.out, HX.out]; simp [ho, h0])
          clear ho
          go_wp2_with fail
          refine (HO.out _ (HN.out.step (HB1.out.trans (H1.out.below.mono HB1.out.size))) (HL.out.step (HB1.out.trans (H1.out.below.mono HB1.out.size)))).mono ?_
          rintro e w3 ⟨rfl, hb⟩
          have B3 := Lib.hid (HB1.out.trans ((H1.out.below.trans (hb.mono H1.out.below.size)).mono HB1.out.size)); clear hb
          go_wp2_with fail
          go_ret
          exact ⟨ret_bool HXX.out.symm, B3.out⟩
  · have hx : xs = [] := List.eq_nil_of_length_eq_zero (by omega)
    subst hx
    obtain ⟨a, cv, rfl⟩ := ints_form hv
    clear hv
    go_wp2_with fail
    refine wp_loop_rounds 1 ?_
    rw [rounds_succ]
    go_wp2_with fail
    go_ret
    exact ⟨ret_bool (by rw [HR.out]; simp), HB1.out⟩

set_option maxRecDepth 100000 in
set_option maxHeartbeats 2000000 in
theorem specPanesOf (ns ls : List Nd) (vn vl : Value) (w : World) (hn : Prs w vn ns) (hl : Prs w vl ls) :
    Calls Tryz.prog 26 #[.agg #[vn, vl]] w (IntsNew (panesW ns ls) w) := by
  have HS := Lib.hid (fun (k : Nat) w h1 h2 => specIsPane ns ls vn vl k w h1 h2)
  have HF := Lib.hid (fun w h1 h2 => specFacesL ns ls vn vl w h1 h2)
  unfold BoolIs at HS
  unfold FacesNew at HF
  have HN := Lib.hid hn
  have HL := Lib.hid hl
  have H0 := Lib.hid (held_pair w vn vl 32)
  obtain ⟨A, c, rfl⟩ := prs_form2 hn
  obtain ⟨A2, c2, rfl⟩ := prs_form2 hl
  clear hn hl
  have h40 := wF_len (ns := ns) (ls := ls)
  have H1 := Lib.hid (H0.out.alloc (.cells #[] 3))
  have HO1 := Lib.hid (Ints.made (w.alloc (.cells #[.slice A ns.length c, .slice A2 ls.length c2] 32)) (w.heap.size + 1) (w.heap.size + 1) (by simp) (Nat.le_refl _))
  clear H0
  obtain ⟨i0, hi, hz0, hz1, hz2⟩ := info_parts infoInt
  have HI := Lib.hid (And.intro hi (And.intro hz0 (And.intro hz1 hz2))); clear hi hz0 hz1 hz2
  obtain ⟨p, hp⟩ : ∃ p : Nat → Bool, p = (fun k : Nat => paneB ns ls k) := ⟨_, rfl⟩
  have HR := Lib.hid (show panesW ns ls = fltN p (wF ns ls).length from by rw [hp]; rfl)
  have HS := Lib.hid (fun (k : Nat) w h1 h2 => (show Calls Tryz.prog 24 _ w (fun e w' => e = .returned (.bool (p k)) ∧ Below w.heap.size w w') from by rw [hp]; exact HS.out k w h1 h2))
  have HU := Lib.hid (fltN_succ p)
  have HLN := Lib.hid (fltN_len p)
  have HZ := Lib.hid (show fltN p 0 = [] from rfl)
  clear hp
  generalize panesW ns ls = res at *
  generalize fltN p = X at *
  generalize wF ns ls = rs at *
  go_enter Tryz.func26, Tryz.ntmps26
  go_wp2_with fail
  refine (HF.out _ (HN.out.step H1.out.below) (HL.out.step H1.out.below)).mono ?_
  rintro e w1 ⟨vf, rfl, hf, hb⟩
  obtain ⟨a, c3, rfl⟩ := faces_form hf
  have H2 := Lib.hid (H1.out.step hb)
  have HO2 := Lib.hid (HO1.out.step hb)
  clear hb hf H1 HO1
  go_wp2_with fail
  go_loopw [3, 5] (fun v i wr => ∃ m : Nat, m ≤ rs.length ∧ i = .int .i64 m ∧ Ints wr (w.heap.size + 1) v (X m) ∧ Held w wr [(w.heap.size, 0, .slice A ns.length c), (w.heap.size, 1, .slice A2 ls.length c2)]) (fun _ i _ => rs.length - (intOf i).toNat)
  case atStart => exact ⟨0, Nat.zero_le _, rfl, by rw [HZ.out]; exact HO2.out, H2.out⟩
  case round =>
    clear H2 HO2
    obtain ⟨m, hm, rfl, hown, hh⟩ := hrel
    have HO := Lib.hid hown; clear hown
    have H1 := Lib.hid hh; clear hh
    obtain ⟨x0, x1, _⟩ := H1.out.1
    by_cases hlt : m < rs.length
    · have q1 : (0 : Int) ≤ m := by omega
      have q2 : (m : Int) < (rs.length : Int) := by omega
      have HUM := Lib.hid (HU.out m)
      have hln := HLN.out m
      have HSM := Lib.hid (HS.out m)
      generalize hpm : p m = b at *
      clear hpm
      go_wp2_with fail
      refine (HSM.out _ (HN.out.step H1.out.below) (HL.out.step H1.out.below)).mono ?_
      rintro e w3 ⟨rfl, hb⟩
      have H2 := Lib.hid (H1.out.step hb)
      have HO2 := Lib.hid (HO.out.step hb)
      clear hb H1 HO x0 x1
      cases b
      · go_wp2_with fail
        exact ⟨⟨m + 1, by omega, by go_num, by rw [HUM.out]; exact HO2.out, H2.out⟩, by simp [intOf]; omega⟩
      · obtain ⟨hi, hz0, hz1, hz2⟩ := HI.out
        have hsz1 := H2.out.2.1.1
        go_wp2_with (at_builtin; refine wpList_append_own _ rfl _ _ 27 rfl (w.heap.size + 1) 3 i0 (.int .i64 0) 1 8 Tryz.underlying27 hi hz0 hz1 hz2 rfl (by decide) _ _ _ rfl (World.ownsRow.alloc HO2.out _) ⟨_, 0, none⟩ 1 1 [.int .i64 m] rfl rfl ?c1 ?c2 ?c3 ?c4 ?c5 ?_)
        case c1 => exact cell_one_new _ _ _
        case c2 => simp [Value.oneCell']
        case c3 => unfold maxLen; omega
        case c4 => omega
        case c5 => simp <;> omega
        intro v' w5 hown hgrow _
        have H5 := Lib.hid (H2.out.stepB (B := w.heap.size + 1) ⟨Nat.lt_succ_self _, Nat.lt_succ_self _, trivial⟩ (grown_below HO2.out hsz1 hgrow) (Nat.le_succ _))
        have HO5 := Lib.hid (Ints.more hown); clear hown hgrow
        go_wp2_with fail
        exact ⟨⟨m + 1, by omega, by go_num, by rw [HUM.out]; exact HO5.out, H5.out⟩, by simp [intOf]; omega⟩
    · obtain rfl : m = rs.length := by omega
      go_wp2_with fail
      go_ret
      exact ⟨_, rfl, by rw [HR.out]; exact HO.out.mono (Nat.le_succ _), H1.out.below⟩
end Go.Proofs.YtnonebfdognlmabGreat
