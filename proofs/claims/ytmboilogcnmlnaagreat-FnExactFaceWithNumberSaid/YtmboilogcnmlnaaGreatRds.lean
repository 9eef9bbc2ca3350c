/-
  ReadingOrder, of the model.
-/
import Derived.Test.YtmboilogcnmlnaaGreatRdo
namespace Go.Proofs.YtmboilogcnmlnaaGreat
open Go.RowKit
set_option linter.unusedVariables false
set_option linter.unusedSimpArgs false

/-- The first n faces in reading order. -/
noncomputable def rdS (ns ls : List Nd) (n : Nat) : List Int := sortL (ltR (boxW ns ls)) (fltN (innP (outW ns ls)) n)

theorem rdS_succ (ns ls : List Nd) (n : Nat) : rdS ns ls (n + 1) = if innP (outW ns ls) n = true then insL (ltR (boxW ns ls)) n (rdS ns ls n) else rdS ns ls n := by
  unfold rdS
  rw [fltN_succ]
  by_cases h : innP (outW ns ls) n = true
  · rw [if_pos h, if_pos h, sortL_more]
  · rw [if_neg h, if_neg h]

theorem rdS_len (ns ls : List Nd) (n : Nat) : (rdS ns ls n).length ≤ n := by
  unfold rdS
  rw [sortL_len _ _ _ rfl]
  exact fltN_len _ _

theorem rdS_at (ns ls : List Nd) {n q : Nat} (h : q < (rdS ns ls n).length) : ∃ d : Nat, atZ (rdS ns ls n) q = d ∧ d < n := by
  have hm : atZ (rdS ns ls n) q ∈ rdS ns ls n := by rw [← atZ_get h]; exact List.getElem_mem h
  obtain ⟨d, e, hd, _⟩ := (fltN_mem _ _ _).1 (sortL_mem _ _ _ rfl _ hm)
  exact ⟨d, e, hd⟩

theorem NB.grown {W W' : World} {b : Nat} {n : Nd} {row : Option Nat} (h : NB W b n) (hg : W.grownBy W' row) (hr : row ≠ some b) : NB W' b n := (hg.block _ h.lt fun e => hr e.symm).trans h

theorem NB.apart {W : World} {b g B k c : Nat} {n : Nd} {xs : List Int} (h : NB W b n) (hi : Ints W B (.slice (some ⟨g, 0, none⟩) k c) xs) : b ≠ g := by
  rintro rfl
  obtain ⟨cur, hc⟩ := hi.typed rfl
  unfold NB at h
  rw [h] at hc
  simp at hc

theorem NB.setFar {W : World} {b g j : Nat} {n : Nd} {x : Value} (h : NB W b n) (hne : b ≠ g) : NB (W.setCell ⟨g, j, none⟩ x) b n := (Below.heap_setCell _ _ _ _ hne).trans h

theorem NB.farV {W : World} {b B : Nat} {n : Nd} {v : Value} {xs : List Int} (h : NB W b n) (hi : Ints W B v xs) : v.ownBlock ≠ some b := by
  intro e
  obtain ⟨cur, hc⟩ := hi.typed e
  unfold NB at h
  rw [h] at hc
  simp at hc

set_option maxRecDepth 100000 in
set_option maxHeartbeats 8000000 in
theorem specRead (ns ls : List Nd) (vn vl : Value) (w : World) (hn : Prs w vn ns) (hl : Prs w vl ls) :
    Calls Tryz.prog 25 #[.agg #[vn, vl]] w (IntsNew (readL ns ls) w) := by
  have HN := Lib.hid hn
  have HL := Lib.hid hl
  have HF := Lib.hid (fun w h1 h2 => specFacesL ns ls vn vl w h1 h2)
  unfold FacesNew at HF
  have HOU := Lib.hid (fun w h1 h2 => specOuterFace ns ls vn vl w h1 h2)
  unfold IntIs at HOU
  have HBX := Lib.hid (fun (k : Nat) w h1 h2 => specBox ns ls vn vl k w h1 h2)
  unfold BoxIs at HBX
  have h40 := wF_len (ns := ns) (ls := ls)
  have HSS := Lib.hid (rdS_succ ns ls)
  have HLN := Lib.hid (rdS_len ns ls)
  have HAT0 := Lib.hid (fun n q h => rdS_at ns ls (n := n) (q := q) h)
  have HLT0 := Lib.hid (fun (k d : Nat) (h : d < k) => ltR_iff (boxW ns ls) (k := k) (d := d) (by omega))
  have HP := Lib.hid (fun k => show innP (outW ns ls) k = !((k : Int) == outW ns ls) from rfl)
  have HR := Lib.hid (show readL ns ls = rdS ns ls (wF ns ls).length from rfl)
  have HZ := Lib.hid (show rdS ns ls 0 = [] from rfl)
  have H0 := Lib.hid (held_pair w vn vl 31)
  obtain ⟨A, c, rfl⟩ := prs_form2 hn
  obtain ⟨A2, c2, rfl⟩ := prs_form2 hl
  clear hn hl
  generalize innP (outW ns ls) = p at *
  generalize outW ns ls = o at *
  generalize readL ns ls = R at *
  generalize rdS ns ls = S at *
  generalize ltR (boxW ns ls) = lt at *
  generalize boxW ns ls = bx at *
  generalize wF ns ls = rs at *
  obtain ⟨i0, hi, hz0, hz1, hz2⟩ := info_parts infoInt
  have HI := Lib.hid (And.intro hi (And.intro hz0 (And.intro hz1 hz2))); clear hi hz0 hz1 hz2
  have H1 := Lib.hid (H0.out.alloc (.cells #[] 3))
  have HO1 := Lib.hid (Ints.made (w.alloc (.cells #[.slice A ns.length c, .slice A2 ls.length c2] 31)) (w.heap.size + 1) (w.heap.size + 1) (by simp) (Nat.le_refl _))
  clear H0
  obtain ⟨x0, x1, _⟩ := H1.out.1
  go_enter Tryz.func25, Tryz.ntmps25
  go_wp2_with fail
  refine (HF.out _ (HN.out.step H1.out.below) (HL.out.step H1.out.below)).mono ?_
  rintro e w1 ⟨v, rfl, hv, hb⟩
  obtain ⟨a9, c9, rfl⟩ := faces_form hv
  have H2 := Lib.hid (H1.out.step hb)
  have HO2 := Lib.hid (HO1.out.step hb)
  clear hb hv x0 x1 H1 HO1
  obtain ⟨x0, x1, _⟩ := H2.out.1
  go_wp2_with fail
  refine (HOU.out _ (HN.out.step H2.out.below) (HL.out.step H2.out.below)).mono ?_
  rintro e w2 ⟨rfl, hb⟩
  have H3 := Lib.hid (H2.out.step hb)
  have HO3 := Lib.hid (HO2.out.step hb)
  clear hb x0 x1 H2 HO2
  go_wp2_with fail
  go_loopw [3, 6] (fun u i wr => ∃ m : Nat, m ≤ rs.length ∧ i = .int .i64 m ∧ Ints wr (w.heap.size + 1) u (S m) ∧ Held w wr [(w.heap.size, 0, .slice A ns.length c), (w.heap.size, 1, .slice A2 ls.length c2)]) (fun _ i _ => rs.length - (intOf i).toNat)
  case atStart => exact ⟨0, Nat.zero_le _, rfl, by rw [HZ.out]; exact HO3.out, H3.out⟩
  case round =>
    clear H3 HO3
    obtain ⟨m, hm, rfl, hown, hh⟩ := hrel
    have HOWN := Lib.hid hown; clear hown
    have H1 := Lib.hid hh; clear hh
    by_cases hlt : m < rs.length
    · have HS := Lib.hid (HSS.out m)
      have hll := HLN.out m
      have HAT := Lib.hid (fun q h => HAT0.out m q h)
      have HPM := Lib.hid (HP.out m)
      have hz1 : (m : Int) < (rs.length : Int) := by omega
      have hz2 : (0 : Int) ≤ m := by omega
      obtain ⟨b, hb⟩ : ∃ b, ((m : Int) == o) = b := ⟨_, rfl⟩
      rw [hb] at HPM
      rw [HPM.out] at HS
      clear HPM
      generalize S m = l at *
      cases b <;> simp only [Bool.not_true, Bool.not_false] at HS
      · have hlb : l.length ≤ 40 := by omega
        clear hll
        obtain ⟨pm, hpm⟩ : ∃ q, q = bx m := ⟨_, rfl⟩
        have HBM := Lib.hid (fun w h1 h2 => HBX.out m w h1 h2)
        rw [← hpm] at HBM
        have HLT1 := Lib.hid (fun (d : Nat) (h : d < m) => HLT0.out m d h)
        rw [← hpm] at HLT1
        clear hpm
        obtain ⟨⟨bx1, bx2⟩, ⟨bx3, bx4⟩⟩ := pm
        simp only at HBM HLT1
        obtain ⟨x0, x1, _⟩ := H1.out.1
        go_wp2_with fail
        refine (HBM.out _ (HN.out.step H1.out.below) (HL.out.step H1.out.below)).mono ?_
        rintro e w3 ⟨rfl, hb3⟩
        have H3 := Lib.hid ((H1.out.step hb3).step ((below_alloc w3 (.cells #[.int .i64 bx1, .int .i64 bx2] 39)).trans ((below_alloc _ (.cells #[.int .i64 bx3, .int .i64 bx4] 39)).mono (by simp))))
        have HO1 := Lib.hid ((HOWN.out.step hb3).step ((below_alloc w3 (.cells #[.int .i64 bx1, .int .i64 bx2] 39)).trans ((below_alloc _ (.cells #[.int .i64 bx3, .int .i64 bx4] 39)).mono (by simp))))
        have HB7 := Lib.hid ((NB.new w3 w3.heap.size rfl ⟨bx1, bx2⟩).step (below_alloc _ (.cells #[.int .i64 bx3, .int .i64 bx4] 39)))
        have HB8 := Lib.hid (NB.new (w3.alloc (.cells #[.int .i64 bx1, .int .i64 bx2] 39)) (w3.heap.size + 1) (by simp) ⟨bx3, bx4⟩)
        obtain ⟨b7, hb7⟩ : ∃ b, b = w3.heap.size := ⟨_, rfl⟩
        obtain ⟨a0, cp0, rfl, hlm, _⟩ := HO1.out.form
        have hsz1 := H3.out.2.1.1
        have hsz9 : w.heap.size < w3.heap.size + 1 + 1 := by simpa using hsz1
        clear hb3 x0 x1 H1 HOWN
        obtain ⟨hi, hz0, hz1', hz2'⟩ := HI.out
        go_wp2_with (at_builtin; refine wpList_append_own _ rfl _ _ 43 rfl (w.heap.size + 1) 3 i0 (.int .i64 0) 1 8 Tryz.underlying43 hi hz0 hz1' hz2' rfl (by decide) _ _ _ rfl (World.ownsRow.alloc HO1.out _) ⟨_, 0, none⟩ 1 1 [.int .i64 m] rfl rfl ?c1 ?c2 ?c3 ?c4 ?c5 ?_)
        case c1 => have := cell_one_new ((w3.alloc (.cells #[.int .i64 bx1, .int .i64 bx2] 39)).alloc (.cells #[.int .i64 bx3, .int .i64 bx4] 39)) (.int .i64 m) 3; simpa using this
        case c2 => simp [Value.oneCell']
        case c3 => unfold maxLen; omega
        case c4 => omega
        case c5 => simp <;> omega
        intro v' w4 hown hgrow _
        have HOA := Lib.hid (HO1.out.step (below_alloc _ (.cells #[.int .i64 m] 3)))
        have HB7 := Lib.hid ((HB7.out.step (below_alloc _ (.cells #[.int .i64 m] 3))).grown hgrow (by
          exact (HB7.out.step (below_alloc _ (.cells #[.int .i64 m] 3))).farV HOA.out))
        have HB8 := Lib.hid ((HB8.out.step (below_alloc _ (.cells #[.int .i64 m] 3))).grown hgrow (by
          exact (HB8.out.step (below_alloc _ (.cells #[.int .i64 m] 3))).farV HOA.out))
        have H4 := Lib.hid (H3.out.stepB (B := w.heap.size + 1) ⟨Nat.lt_succ_self _, Nat.lt_succ_self _, trivial⟩ (grown_below HO1.out (by omega) hgrow) (Nat.le_succ _))
        have HO2 := Lib.hid (Ints.more hown); clear hown hgrow HOA
        rw [← hb7] at HB7 HB8 ⊢
        clear hb7
        obtain ⟨g, cp, rfl⟩ := HO2.out.some_ (by simp)
        obtain ⟨L, hlen1⟩ : ∃ L, (l ++ [(m : Int)]).length = L := ⟨_, rfl⟩
        rw [hlen1] at HO2 ⊢
        have hL : L = l.length + 1 := by rw [← hlen1]; simp
        have HLL := Lib.hid hL; clear hL
        clear hi hz0 hz1' hz2' hlen1
        go_wp2_with fail
        have HFIN := Lib.hid (show insM lt m l l.length = insL lt m l from rfl)
        rw [← openL_full] at HO2
        generalize insL lt m l = RR at *
        go_loopw [9] (fun i wr => ∃ (q : Nat) (y : Int), q ≤ l.length ∧ i = .int .i64 q ∧ Ints wr (w.heap.size + 1) (.slice (some ⟨g, 0, none⟩) L cp) (openL l y q) ∧ insM lt m l q = RR ∧ NB wr b7 ⟨bx1, bx2⟩ ∧ NB wr (b7 + 1) ⟨bx3, bx4⟩ ∧ Held w wr [(w.heap.size, 0, .slice A ns.length c), (w.heap.size, 1, .slice A2 ls.length c2)]) (fun i _ => (intOf i).toNat)
        case atStart => exact ⟨l.length, m, Nat.le_refl _, rfl, HO2.out, HFIN.out, HB7.out, HB8.out, H4.out⟩
        case round =>
          clear H3 H4 HO1 HO2 HFIN HB7 HB8 hsz1 hsz9
          obtain ⟨q, y, hq, rfl, hown, hR, h7, h8, hh⟩ := hrel
          have HOWN := Lib.hid hown; clear hown
          have H1 := Lib.hid hh; clear hh
          have HB7 := Lib.hid h7; clear h7
          have HB8 := Lib.hid h8; clear h8
          have hol := openL_len l y q hq
          have hL := HLL.out
          cases q with
          | zero =>
            obtain ⟨c0, f0, hgl, hgB, -⟩ := HOWN.out.at_ (j := 0) (by omega)
            generalize atZ (openL l y 0) 0 = z at *
            have HSET := Lib.hid (HOWN.out.set_ (hL.trans hol.symm) 0 m)
            rw [openL_set l y m 0 (by omega), ← insM_zero lt, hR] at HSET
            have HH := Lib.hid (H1.out.setB (j := 0) (x := .int .i64 m) (B := w.heap.size + 1) ⟨Nat.lt_succ_self _, Nat.lt_succ_self _, trivial⟩ hgB (Nat.le_succ _))
            have hz3 : (0 : Int) < (L : Int) := by omega
            clear hL
            rw [show ((0 : Nat) : Int) = 0 from rfl]
            go_wp2_with fail
            exact ⟨⟨m + 1, by omega, by go_num, by rw [HS.out]; exact HSET.out, HH.out⟩, by simp [intOf]; omega⟩
          | succ q =>
            obtain ⟨dx, hdx, hdm⟩ := HAT.out q (by omega)
            obtain ⟨c0, f0, hgl, hgB, -⟩ := HOWN.out.at_ (j := q) (by omega)
            rw [openL_at l y q (by omega), hdx] at c0
            have HLT := Lib.hid (HLT1.out dx hdm)
            have hda : atZ l q = (dx : Int) := hdx
            have HSTOP := Lib.hid (fun h => (insM_stop lt m l q h).symm.trans hR)
            have HON := Lib.hid (fun h => (insM_on lt m l q h).symm.trans hR)
            rw [hda] at HSTOP HON
            generalize hltr : lt (m : Int) (dx : Int) = r at *
            clear hltr
            obtain ⟨pd, hpd⟩ : ∃ q, q = bx dx := ⟨_, rfl⟩
            have HBD := Lib.hid (fun w h1 h2 => HBX.out dx w h1 h2)
            rw [← hpd] at HBD HLT
            clear hpd
            obtain ⟨⟨ax1, ax2⟩, ⟨ax3, ax4⟩⟩ := pd
            simp only at HBD HLT
            have p1 : (0 : Int) ≤ (q : Int) := by omega
            have p2 : (q : Int) < (L : Int) := by omega
            have p3 : (q : Int) + 1 < (L : Int) := by omega
            have p4 : (0 : Int) ≤ (q : Int) + 1 := by omega
            have p7 : (0 : Int) < (q : Int) + 1 := by omega
            rw [show ((q + 1 : Nat) : Int) = (q : Int) + 1 from by omega]
            have ew : IntKind.i64.wrap (q : Int) = (q : Int) := by rw [IntWalk.i64_in _ (by omega)]
            have HQ := Lib.hid hq; clear hq
            have HOL := Lib.hid hol; clear hol
            clear hL
            have HH := Lib.hid (held_plus H1.out (gs := [(g, q, .int .i64 (dx : Int))]) ⟨c0, trivial⟩ ⟨hgl, trivial⟩)
            clear c0 f0
            obtain ⟨x0, x1, x2, _⟩ := HH.out.1
            have HX1 := Lib.hid HLT1; clear HLT1
            go_wp2_with fail
            have HBH3 := Lib.hid HH.out.2.1
            refine regionW (fun W => Held _ W [(w.heap.size, 0, .slice A ns.length c), (w.heap.size, 1, .slice A2 ls.length c2), (g, q, .int .i64 (dx))]) (by kernel_rfl) (Held.start HH.out.1 HH.out.2.1).drew ?_
            refine takeW (i := 0) (v := ?_) (Stable.held _ _) rfl (by kernel_rfl) (by kernel_rfl) (by kernel_rfl) (fun _ _ _ h => h) ?_ ?_
            rotate_left
            · first | (refine Or.inl ⟨by rfl, fun W hS => detR_value (w' := W) ?_ (Below.refl _ _)⟩; obtain ⟨x0, x1, x2, _⟩ := hS.1; go_simp; first | done | with_reducible rfl) | fail
            simp only [Act.put, List.setIfInBounds_toArray, List.set_cons_zero, List.set_cons_succ]
            refine takeW (i := 1) (v := ?_) (Stable.held _ _) rfl (by kernel_rfl) (by kernel_rfl) (by kernel_rfl) (fun _ _ _ h => h) ?_ ?_
            rotate_left
            · first | (refine Or.inl ⟨by rfl, fun W hS => detR_value (w' := W) ?_ (Below.refl _ _)⟩; obtain ⟨x0, x1, x2, _⟩ := hS.1; go_simp; first | done | with_reducible rfl) | fail
            simp only [Act.put, List.setIfInBounds_toArray, List.set_cons_zero, List.set_cons_succ]
            refine takeW (i := 2) (v := ?_) (Stable.held _ _) rfl (by kernel_rfl) (by kernel_rfl) (by kernel_rfl) (fun _ _ _ h => h) ?_ ?_
            rotate_left
            · first | (refine Or.inl ⟨by rfl, fun W hS => detR_value (w' := W) ?_ (Below.refl _ _)⟩; obtain ⟨x0, x1, x2, _⟩ := hS.1; go_simp; first | done | with_reducible rfl) | fail
            simp only [Act.put, List.setIfInBounds_toArray, List.set_cons_zero, List.set_cons_succ]
            refine takeW (i := 3) (v := ?_) (Stable.held _ _) rfl (by kernel_rfl) (by kernel_rfl) (by kernel_rfl) (fun _ _ _ h => h) ?_ ?_
            rotate_left
            · first | (refine Or.inl ⟨by rfl, fun W hS => detR_value (w' := W) ?_ (Below.refl _ _)⟩; obtain ⟨x0, x1, x2, _⟩ := hS.1; go_simp; first | done | with_reducible rfl) | fail
            simp only [Act.put, List.setIfInBounds_toArray, List.set_cons_zero, List.set_cons_succ]
            refine takeW (i := 4) (v := ?_) (Stable.held _ _) rfl (by kernel_rfl) (by kernel_rfl) (by kernel_rfl) (fun _ _ _ h => h) ?_ ?_
            rotate_left
            · first | (refine Or.inl ⟨by rfl, fun W hS => detR_value (w' := W) ?_ (Below.refl _ _)⟩; obtain ⟨x0, x1, x2, _⟩ := hS.1; go_simp; first | done | with_reducible rfl) | fail
            simp only [Act.put, List.setIfInBounds_toArray, List.set_cons_zero, List.set_cons_succ]
            refine takeW (i := 5) (v := ?_) (Stable.held _ _) rfl (by kernel_rfl) (by kernel_rfl) (by kernel_rfl) (fun _ _ _ h => h) ?_ ?_
            rotate_left
            · first | (refine Or.inl ⟨by rfl, fun W hS => detR_value (w' := W) ?_ (Below.refl _ _)⟩; obtain ⟨x0, x1, x2, _⟩ := hS.1; go_simp; first | done | with_reducible rfl) | fail
            simp only [Act.put, List.setIfInBounds_toArray, List.set_cons_zero, List.set_cons_succ]
            refine takeW (i := 6) (v := ?_) (Stable.held _ _) rfl (by kernel_rfl) (by kernel_rfl) (by kernel_rfl) (fun _ _ _ h => h) ?_ ?_
            rotate_left
            · first | (refine Or.inl ⟨by rfl, fun W hS => ?_⟩; have hH := HH.out.after hS; refine detR_call (w' := W) (f := ?_) (args := ?_) ?_ ?_; rotate_left 2; (go_simp; (refine ⟨?_, ?_⟩ <;> with_reducible rfl)); (first | (with_reducible refine (HBD.out _ (HN.out.step hH.below) (HL.out.step hH.below)).mono ?_) | fail); (first | (rintro e wn ⟨rfl, hb⟩; refine ⟨?_, hb⟩; with_reducible rfl) | (rintro e wn ⟨rfl, rfl⟩; refine ⟨?_, Below.refl _ _⟩; with_reducible rfl) | fail)) | fail
            simp only [Act.put, List.setIfInBounds_toArray, List.set_cons_zero, List.set_cons_succ]
            refine takeW (i := 7) (v := ?_) (Stable.held _ _) rfl (by kernel_rfl) (by kernel_rfl) (by kernel_rfl) (fun _ _ _ h => h) ?_ ?_
            rotate_left
            · first | (refine Or.inl ⟨by rfl, fun W hS => detR_value (w' := W) ?_ (Below.refl _ _)⟩; obtain ⟨x0, x1, x2, _⟩ := hS.1; go_simp; first | done | with_reducible rfl) | fail
            simp only [Act.put, List.setIfInBounds_toArray, List.set_cons_zero, List.set_cons_succ]
            refine takeW (i := 8) (v := ?_) (Stable.held _ _) rfl (by kernel_rfl) (by kernel_rfl) (by kernel_rfl) (fun _ _ _ h => h) ?_ ?_
            rotate_left
            · first | (refine Or.inl ⟨by rfl, fun W hS => detR_value (w' := W) ?_ (Below.refl _ _)⟩; obtain ⟨x0, x1, x2, _⟩ := hS.1; go_simp; first | done | with_reducible rfl) | fail
            simp only [Act.put, List.setIfInBounds_toArray, List.set_cons_zero, List.set_cons_succ]
            refine takeW (i := 9) (v := ?_) (Stable.held _ _) rfl (by kernel_rfl) (by kernel_rfl) (by kernel_rfl) (fun _ _ _ h => h) ?_ ?_
            rotate_left
            · first | (refine Or.inl ⟨by rfl, fun W hS => detR_value (w' := W) ?_ (Below.refl _ _)⟩; obtain ⟨x0, x1, x2, _⟩ := hS.1; go_simp; first | done | with_reducible rfl) | fail
            simp only [Act.put, List.setIfInBounds_toArray, List.set_cons_zero, List.set_cons_succ]
            refine freeOr (i := 10) (j := 11) (by kernel_rfl) ?_ ?_
            · refine freeOp (i := 10) (NewB _ 39 2) (Stable.held _ _) (fun v => stable_newB _ _ _ v) rfl (by rfl) (fun W hS => freeR_new (T := 39) (n := 2) (cs := #[.int .i64 0, .int .i64 0]) (by go_simp; first | done | with_reducible rfl) hS.2.2.size rfl) (fun vf hex => ?_)
              clear hex
              simp only [Act.put, List.setIfInBounds_toArray, List.set_cons_zero, List.set_cons_succ]
              refine freeW (i := 11) (fun v => Two _ 39 (Sz 2) (Sz 2) vf v) (Stable.and (Stable.held _ _) (stable_newB _ _ _ _)) (fun v => stable_two _ _ _ _ _ _) rfl (by kernel_rfl) (by rfl) (fun W hS => freeR_after (T := 39) (n := 2) (cs := #[.int .i64 0, .int .i64 0]) (by go_simp; first | done | with_reducible rfl) hS.1.2.2.size rfl hS.2) (fun vs => ?_)
              simp only [Act.put, List.setIfInBounds_toArray, List.set_cons_zero, List.set_cons_succ]
              refine storeA (i := 12) #[.int .i64 ax1, .int .i64 ax2] (.inl rfl) rfl (by kernel_rfl) (by rfl) rfl (by rfl) (by rfl) HBH3.out rfl (by kernel_rfl) (by simp [Value.oneCell']) ?_
              simp only [Act.put, List.setIfInBounds_toArray, List.set_cons_zero, List.set_cons_succ]
              refine storeB (i := 13) #[.int .i64 ax3, .int .i64 ax4] (.inl rfl) rfl (by kernel_rfl) (by rfl) rfl (by rfl) (by rfl) HBH3.out rfl rfl (by kernel_rfl) (by simp [Value.oneCell']) ?_
              simp only [Act.put, List.setIfInBounds_toArray, List.set_cons_zero, List.set_cons_succ]
              refine doneW (by kernel_rfl) fun wH3 HG => ?_
              obtain ⟨⟨⟨⟨hH, _⟩, _⟩, _⟩, ht⟩ := HG
              have BWH3 := Lib.hid hH.2.2
              obtain ⟨b1H3, b2H3, rfl, rfl, hj⟩ := Held.joined2 HH.out hH ht
              have H3 := Lib.hid hj; clear hj hH ht HBH3
              try clear x0 x1 x2
              obtain ⟨x0, x1, x2, x3, x4, x5, x6, _⟩ := H3.out.1
              have H5 := Lib.hid (H1.out.step BWH3.out)
              have HO5 := Lib.hid (HOWN.out.step BWH3.out)
              have HC7 := Lib.hid (HB7.out.step BWH3.out)
              have HC8 := Lib.hid (HB8.out.step BWH3.out)
              clear x0 x3 x4 x5 x6
              have hol := HOL.out
              have hL := HLL.out
              obtain ⟨e0, e1, -, -⟩ := HC7.out.cells
              obtain ⟨e2, e3, -, -⟩ := HC8.out.cells
              obtain ⟨c0, f0, hgl5, -, -⟩ := HO5.out.at_ (j := q) (by omega)
              obtain ⟨c1, f1, -, -, -⟩ := HO5.out.at_ (j := q + 1) (by omega)
              rw [openL_at l y q (by omega), hda] at c0
              generalize atZ (openL l y (q + 1)) (q + 1) = z at *
              have HSETM := Lib.hid (HO5.out.set_ (hL.trans hol.symm) (q + 1) m)
              rw [openL_set l y m (q + 1) HQ.out] at HSETM
              have HSETD := Lib.hid (HO5.out.set_ (hL.trans hol.symm) (q + 1) (dx : Int))
              rw [openL_set l y _ (q + 1) HQ.out, ← hda, openL_down l y q (by omega), hda] at HSETD
              have HHM := Lib.hid (H5.out.setB (j := q + 1) (x := .int .i64 m) (B := w.heap.size + 1) ⟨Nat.lt_succ_self _, Nat.lt_succ_self _, trivial⟩ hgB (Nat.le_succ _))
              have HHD := Lib.hid (H5.out.setB (j := q + 1) (x := .int .i64 (dx : Int)) (B := w.heap.size + 1) ⟨Nat.lt_succ_self _, Nat.lt_succ_self _, trivial⟩ hgB (Nat.le_succ _))
              have HN7 := Lib.hid (HC7.out.setFar (j := q + 1) (x := .int .i64 (dx : Int)) (HC7.out.apart HO5.out))
              have HN8 := Lib.hid (HC8.out.setFar (j := q + 1) (x := .int .i64 (dx : Int)) (HC8.out.apart HO5.out))
              have HDA := Lib.hid hda
              clear hol hL
              cases r
              · have HR2 := Lib.hid (HSTOP.out rfl)
                have hno : ¬ (ax4 < bx4 ∨ ax4 = bx4 ∧ bx1 < ax1) := fun h => by have := HLT.out.2 h; cases this
                clear HLT
                by_cases h1 : bx4 < ax4
                · go_wp2_with fail
                  exact ⟨⟨m + 1, by omega, by go_num, by rw [HS.out, ← HR2.out]; exact HSETM.out, HHM.out⟩, by simp [intOf]; omega⟩
                · have h2 : ax4 = bx4 := by omega
                  have h3 : ax1 ≤ bx1 := by omega
                  have h2b : (ax4 == bx4) = true := by simpa using h2
                  clear hno
                  have H22 := Lib.hid h2; clear h2
                  go_wp2_with fail
                  exact ⟨⟨m + 1, by omega, by go_num, by rw [HS.out, ← HR2.out]; exact HSETM.out, HHM.out⟩, by simp [intOf]; omega⟩
              · have HR2 := Lib.hid (HON.out rfl)
                have hyes := HLT.out.1 rfl
                clear HLT
                have h1 : ¬ bx4 < ax4 := by omega
                by_cases h2 : ax4 = bx4
                · have h3 : ¬ ax1 ≤ bx1 := by omega
                  have h2b : (ax4 == bx4) = true := by simpa using h2
                  have H22 := Lib.hid h2; clear h2 hyes
                  go_wp2_with fail
                  exact ⟨⟨q, _, by have := HQ.out; omega, by go_num, HSETD.out, HR2.out, HN7.out, HN8.out, HHD.out⟩, by simp [intOf]⟩
                · have h2b : (ax4 == bx4) = false := by simpa using h2
                  have h2c : decide (ax4 = bx4) = false := by simpa using h2
                  clear hyes
                  have H22 := Lib.hid h2; clear h2
                  go_wp2_with fail
                  exact ⟨⟨q, _, by have := HQ.out; omega, by go_num, HSETD.out, HR2.out, HN7.out, HN8.out, HHD.out⟩, by simp [intOf]⟩
            · refine freeOp (i := 11) (NewB _ 39 2) (Stable.held _ _) (fun v => stable_newB _ _ _ v) rfl (by rfl) (fun W hS => freeR_new (T := 39) (n := 2) (cs := #[.int .i64 0, .int .i64 0]) (by go_simp; first | done | with_reducible rfl) hS.2.2.size rfl) (fun vf hex => ?_)
              clear hex
              simp only [Act.put, List.setIfInBounds_toArray, List.set_cons_zero, List.set_cons_succ]
              refine freeW (i := 10) (fun v => Two _ 39 (Sz 2) (Sz 2) v vf) (Stable.and (Stable.held _ _) (stable_newB _ _ _ _)) (fun v => stable_two _ _ _ _ _ _) rfl (by kernel_rfl) (by rfl) (fun W hS => freeR_before (T := 39) (n := 2) (cs := #[.int .i64 0, .int .i64 0]) (by go_simp; first | done | with_reducible rfl) hS.1.2.2.size rfl hS.2) (fun vs => ?_)
              simp only [Act.put, List.setIfInBounds_toArray, List.set_cons_zero, List.set_cons_succ]
              refine storeA (i := 12) #[.int .i64 ax1, .int .i64 ax2] (.inr rfl) rfl (by kernel_rfl) (by rfl) rfl (by rfl) (by rfl) HBH3.out rfl (by kernel_rfl) (by simp [Value.oneCell']) ?_
              simp only [Act.put, List.setIfInBounds_toArray, List.set_cons_zero, List.set_cons_succ]
              refine storeB (i := 13) #[.int .i64 ax3, .int .i64 ax4] (.inr rfl) rfl (by kernel_rfl) (by rfl) rfl (by rfl) (by rfl) HBH3.out rfl rfl (by kernel_rfl) (by simp [Value.oneCell']) ?_
              simp only [Act.put, List.setIfInBounds_toArray, List.set_cons_zero, List.set_cons_succ]
              refine doneW (by kernel_rfl) fun wH3 HG => ?_
              obtain ⟨⟨⟨⟨hH, _⟩, _⟩, _⟩, ht⟩ := HG
              have BWH3 := Lib.hid hH.2.2
              obtain ⟨b1H3, b2H3, rfl, rfl, hj⟩ := Held.joined2 HH.out hH ht
              have H3 := Lib.hid hj; clear hj hH ht HBH3
              try clear x0 x1 x2
              obtain ⟨x0, x1, x2, x3, x4, x5, x6, _⟩ := H3.out.1
              have H5 := Lib.hid (H1.out.step BWH3.out)
              have HO5 := Lib.hid (HOWN.out.step BWH3.out)
              have HC7 := Lib.hid (HB7.out.step BWH3.out)
              have HC8 := Lib.hid (HB8.out.step BWH3.out)
              clear x0 x3 x4 x5 x6
              have hol := HOL.out
              have hL := HLL.out
              obtain ⟨e0, e1, -, -⟩ := HC7.out.cells
              obtain ⟨e2, e3, -, -⟩ := HC8.out.cells
              obtain ⟨c0, f0, hgl5, -, -⟩ := HO5.out.at_ (j := q) (by omega)
              obtain ⟨c1, f1, -, -, -⟩ := HO5.out.at_ (j := q + 1) (by omega)
              rw [openL_at l y q (by omega), hda] at c0
              generalize atZ (openL l y (q + 1)) (q + 1) = z at *
              have HSETM := Lib.hid (HO5.out.set_ (hL.trans hol.symm) (q + 1) m)
              rw [openL_set l y m (q + 1) HQ.out] at HSETM
              have HSETD := Lib.hid (HO5.out.set_ (hL.trans hol.symm) (q + 1) (dx : Int))
              rw [openL_set l y _ (q + 1) HQ.out, ← hda, openL_down l y q (by omega), hda] at HSETD
              have HHM := Lib.hid (H5.out.setB (j := q + 1) (x := .int .i64 m) (B := w.heap.size + 1) ⟨Nat.lt_succ_self _, Nat.lt_succ_self _, trivial⟩ hgB (Nat.le_succ _))
              have HHD := Lib.hid (H5.out.setB (j := q + 1) (x := .int .i64 (dx : Int)) (B := w.heap.size + 1) ⟨Nat.lt_succ_self _, Nat.lt_succ_self _, trivial⟩ hgB (Nat.le_succ _))
              have HN7 := Lib.hid (HC7.out.setFar (j := q + 1) (x := .int .i64 (dx : Int)) (HC7.out.apart HO5.out))
              have HN8 := Lib.hid (HC8.out.setFar (j := q + 1) (x := .int .i64 (dx : Int)) (HC8.out.apart HO5.out))
              have HDA := Lib.hid hda
              clear hol hL
              cases r
              · have HR2 := Lib.hid (HSTOP.out rfl)
                have hno : ¬ (ax4 < bx4 ∨ ax4 = bx4 ∧ bx1 < ax1) := fun h => by have := HLT.out.2 h; cases this
                clear HLT
                by_cases h1 : bx4 < ax4
                · go_wp2_with fail
                  exact ⟨⟨m + 1, by omega, by go_num, by rw [HS.out, ← HR2.out]; exact HSETM.out, HHM.out⟩, by simp [intOf]; omega⟩
                · have h2 : ax4 = bx4 := by omega
                  have h3 : ax1 ≤ bx1 := by omega
                  have h2b : (ax4 == bx4) = true := by simpa using h2
                  clear hno
                  have H22 := Lib.hid h2; clear h2
                  go_wp2_with fail
                  exact ⟨⟨m + 1, by omega, by go_num, by rw [HS.out, ← HR2.out]; exact HSETM.out, HHM.out⟩, by simp [intOf]; omega⟩
              · have HR2 := Lib.hid (HON.out rfl)
                have hyes := HLT.out.1 rfl
                clear HLT
                have h1 : ¬ bx4 < ax4 := by omega
                by_cases h2 : ax4 = bx4
                · have h3 : ¬ ax1 ≤ bx1 := by omega
                  have h2b : (ax4 == bx4) = true := by simpa using h2
                  have H22 := Lib.hid h2; clear h2 hyes
                  go_wp2_with fail
                  exact ⟨⟨q, _, by have := HQ.out; omega, by go_num, HSETD.out, HR2.out, HN7.out, HN8.out, HHD.out⟩, by simp [intOf]⟩
                · have h2b : (ax4 == bx4) = false := by simpa using h2
                  have h2c : decide (ax4 = bx4) = false := by simpa using h2
                  clear hyes
                  have H22 := Lib.hid h2; clear h2
                  go_wp2_with fail
                  exact ⟨⟨q, _, by have := HQ.out; omega, by go_num, HSETD.out, HR2.out, HN7.out, HN8.out, HHD.out⟩, by simp [intOf]⟩
      · go_wp2_with fail
        exact ⟨⟨m + 1, by omega, by go_num, by rw [HS.out]; exact HOWN.out, H1.out⟩, by simp [intOf]; omega⟩
    · obtain rfl : m = rs.length := by omega
      go_wp2_with fail
      go_ret
      exact ⟨_, rfl, by rw [HR.out]; exact HOWN.out.mono (Nat.le_succ _), H1.out.below⟩
end Go.Proofs.YtmboilogcnmlnaaGreat
