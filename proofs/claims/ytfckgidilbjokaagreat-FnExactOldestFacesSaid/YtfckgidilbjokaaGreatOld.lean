/-
  The faces with the oldest glass, of the program and of the model.
-/
import Derived.Test.YtfckgidilbjokaaGreatInn
namespace Go.Proofs.YtfckgidilbjokaaGreat
open Go.RowKit
set_option linter.unusedVariables false
set_option linter.unusedSimpArgs false

set_option maxRecDepth 100000 in
set_option maxHeartbeats 4000000 in
theorem implOldest (ns ls : List Nd) (xs : List Int) (vn vl v : Value) (w : World) (hn : Prs w vn ns) (hl : Prs w vl ls) (hv : Seq w v xs) :
    Calls Tryz.prog 29 #[.agg #[vn, vl], v] w (IntsNew (oldW ns ls xs) w) := by
  have HG := Lib.hid (fun w h1 h2 h3 => implHistG ns ls xs vn vl v w h1 h2 h3)
  unfold GlassL at HG
  have HIN := Lib.hid (fun v1 v2 v3 v4 B w h1 h2 h3 h4 => (show Calls Tryz.prog 66 #[.agg #[v1, v2, v3, v4]] w (IntsNew (innW ns ls) w) from by
    have := implInner (gN ns ls) (gL ns ls) v1 v2 v3 v4 (wF ns ls) (gA ns ls) B w h1 h2 h3 h4 (g_ok ns ls)
    rw [g_outer] at this
    exact this))
  unfold IntsNew at HIN
  have HOW := Lib.hid (fun (h : listB ns ls 0 3000 xs = true) => show oldW ns ls xs = olX xs (innW ns ls) from if_pos h)
  have HON := Lib.hid (fun (h : listB ns ls 0 3000 xs = false) => show oldW ns ls xs = [] from if_neg (by rw [h]; simp))
  have HAT := Lib.hid (fun (h : listB ns ls 0 3000 xs = true) i (hi : i < (innW ns ls).length) => (show ∃ k : Nat, atZ (innW ns ls) i = (k : Int) ∧ k < xs.length from by
    obtain ⟨k, h1, h2⟩ := innW_at hi
    exact ⟨k, h1, by rw [(listB_parts h).2.1]; exact h2⟩))
  have hilen := innW_len ns ls
  obtain ⟨i0, hi, hz0, hz1, hz2⟩ := info_parts infoInt
  have HI := Lib.hid (And.intro hi (And.intro hz0 (And.intro hz1 hz2))); clear hi hz0 hz1 hz2
  have HN := Lib.hid hn
  have HL := Lib.hid hl
  have HV := Lib.hid hv
  have H0 := Lib.hid (held_pair w vn vl 32)
  obtain ⟨A, c, rfl⟩ := prs_form2 hn
  obtain ⟨A2, c2, rfl⟩ := prs_form2 hl
  obtain ⟨A3, c3, rfl⟩ := seq_form2 hv
  clear hn hl hv
  generalize gN ns ls = ns' at *
  generalize gL ns ls = ls' at *
  generalize gA ns ls = ds at *
  generalize wF ns ls = rs at *
  generalize oldW ns ls xs = res at *
  generalize innW ns ls = X at *
  generalize listB ns ls 0 3000 xs = lb at *
  go_enter Tryz.func29, Tryz.ntmps29
  go_wp2_with fail
  refine (HG.out _ (HN.out.step H0.out.below) (HL.out.step H0.out.below) (HV.out.step H0.out.below)).mono ?_
  rintro e w1 ⟨v1, v2, v3, v4, rfl, g1, g2, g3, g4, hb⟩
  have H1 := Lib.hid (H0.out.step hb)
  have G0 := Lib.hid (heldG w1 v1 v2 v3 v4 72)
  have B1 := Lib.hid (H1.out.below.trans (G0.out.below.mono H1.out.below.size))
  have G1 := Lib.hid (g1.step G0.out.below)
  have G2 := Lib.hid (g2.step G0.out.below)
  have G3 := Lib.hid (g3.step G0.out.below)
  have G4 := Lib.hid (g4.step G0.out.below)
  obtain ⟨A5, c5, rfl⟩ := prs_form2 g1
  obtain ⟨A6, c6, rfl⟩ := prs_form2 g2
  obtain ⟨A7, c7, rfl⟩ := faces_form g3
  obtain ⟨A8, c8, rfl⟩ := ints_form g4
  clear hb g1 g2 g3 g4
  obtain ⟨y0, y1, y2, y3, _⟩ := G0.out.1
  cases lb
  · go_wp2_with fail
    go_ret
    exact ⟨_, rfl, by rw [HON.out (by first | rfl | trivial)]; exact Ints.nil _ _, B1.out⟩
  · have HR := Lib.hid (HOW.out (by first | rfl | trivial))
    replace HAT := Lib.hid (HAT.out (by first | rfl | trivial))
    clear HOW HON
    go_wp2_with fail
    generalize hW : w1.alloc (.cells #[.slice A5 ns'.length c5, .slice A6 ls'.length c6, .slice A7 rs.length c7, .slice A8 ds.length c8] 72) = W at *
    have HWS := Lib.hid (show W.heap.size = w1.heap.size + 1 from by rw [← hW]; simp)
    clear hW
    have b2 := below_alloc W (.cells #[] 3)
    have HO2 := Lib.hid (Ints.made W W.heap.size W.heap.size rfl (Nat.le_refl _))
    refine (HIN.out _ _ _ _ _ _ (G1.out.step b2) (G2.out.step b2) (G3.out.step b2) (G4.out.step b2)).mono ?_
    rintro e w3 ⟨vi, rfl, hm, hb⟩
    have B3 := Lib.hid (show Below W.heap.size W w3 from b2.trans (hb.mono b2.size))
    have HO3 := Lib.hid (HO2.out.step hb)
    have hsz3 : (W.alloc (.cells #[] 3)).heap.size = W.heap.size + 1 := by simp
    rw [hsz3] at hm
    obtain ⟨ai, ci, rfl⟩ := ints_form hm
    have HLB3 := Lib.hid hm
    clear hm hb b2 HO2 y0 y1 y2 y3 G0 hsz3
    go_wp2_with fail
    go_loopw [7, 8, 23] (fun o l i wr => ∃ m : Nat, m ≤ X.length ∧ i = .int .i64 m ∧ l = .int .i64 (mnX xs (X.take m)) ∧ Ints wr W.heap.size o (olX xs (X.take m)) ∧ Ints wr W.heap.size (.slice ai X.length ci) X ∧ (∀ k, o.ownBlock = some k → (Value.slice ai X.length ci).ownBlock ≠ some k) ∧ Held W wr []) (fun _ _ i _ => X.length - (intOf i).toNat)
    case atStart =>
      refine ⟨0, Nat.zero_le _, rfl, rfl, by rw [← HWS.out]; exact HO3.out, HLB3.out.mono (Nat.le_succ _), fun k hk h2 => ?_, ⟨trivial, trivial, B3.out⟩⟩
      have h3 : w1.heap.size + 1 = k := by simpa [Value.ownBlock] using hk
      have := HWS.out
      have := (HLB3.out.own k h2).1
      omega
    case round =>
      clear HO3 HLB3 B3
      obtain ⟨m, hm, rfl, rfl, hown, hlab, hne, hh⟩ := hrel
      have HOWN := Lib.hid hown; clear hown
      have HLB := Lib.hid hlab; clear hlab
      have HNE := Lib.hid hne; clear hne
      have H1 := Lib.hid hh; clear hh
      by_cases hlt : m < X.length
      · obtain ⟨gl, cl, el⟩ := HLB.out.some_ (by omega)
        simp only [Value.slice.injEq] at el
        obtain ⟨rfl, -, -⟩ := el
        obtain ⟨c0, -, hgl0, -, -⟩ := HLB.out.at_ (j := m) hlt
        obtain ⟨k, hk, hkl⟩ := HAT.out m hlt
        have HTK := Lib.hid (show X.take (m + 1) = X.take m ++ [(k : Int)] from by rw [List.take_succ_eq_append_getElem hlt, atZ_get hlt, hk])
        rw [hk] at c0
        clear hk
        obtain ⟨A6', c6', e6, -, -, hcs⟩ := (HV.out.step (B1.out.trans (H1.out.below.mono B1.out.size))).form
        simp only [Value.slice.injEq] at e6
        obtain ⟨rfl, -, -⟩ := e6
        obtain ⟨bb, o, rfl, -, k0⟩ := hcs k hkl
        clear hcs
        have HLS := Lib.hid (fun h => olX_less (hs := xs) (l := X.take m) (x := (k : Int)) h)
        have HSM := Lib.hid (fun h => olX_same (hs := xs) (l := X.take m) (x := (k : Int)) h)
        have HMR := Lib.hid (fun h => olX_more (hs := xs) (l := X.take m) (x := (k : Int)) h)
        rw [Int.toNat_natCast] at HLS HSM HMR
        have hfl : (olX xs (X.take m)).length ≤ 40 := by
          have := List.length_filter_le (fun x => atZ xs x.toNat == mnX xs (X.take m)) (X.take m)
          have := List.length_take_le m X
          unfold olX
          omega
        rw [← HTK.out] at HLS HSM HMR
        generalize atZ xs k = y at *
        generalize olX xs (X.take m) = oo at *
        generalize mnX xs (X.take m) = mo at *
        have p1 : (0 : Int) ≤ k := by omega
        have p2 : (k : Int) < (xs.length : Int) := by omega
        have p3 : (0 : Int) ≤ m := by omega
        have p4 : (m : Int) < (X.length : Int) := by omega
        by_cases h1 : y < mo
        · have HX := Lib.hid (HLS.out h1)
          clear HLS HSM HMR
          have HOWN := Lib.hid (Ints.nil wr W.heap.size)
          have HNE := Lib.hid (show ∀ k, (Value.slice none 0 0).ownBlock = some k → (Value.slice (some ⟨gl, 0, none⟩) X.length ci).ownBlock ≠ some k from fun k hk => by cases hk)
          have hfl : ([] : List Int).length ≤ 40 := by simp
          go_wp2_with fail
          go_quiet (fail)
          have HD := below_drewN (Below.refl wr.heap.size wr) nq
          obtain ⟨hi, hz0, hz1', hz2'⟩ := HI.out
          have hsz := H1.out.below.size
          go_wp2_with (at_builtin; refine wpList_append_int rfl _ _ 26 rfl Tryz.underlying26 hi hz0 hz1' hz2' (World.ownsRow.alloc (HOWN.out.step HD) _) rfl rfl (cell_new0 _ _ _) (by omega) (by simp; omega) ?_)
          intro v' w5 hown hgrow hfresh
          have HOD := Lib.hid (HOWN.out.step HD)
          have HLD := Lib.hid (HLB.out.step HD)
          have H4 := Lib.hid ((H1.out.drewN nq).stepB (B := W.heap.size) trivial (grown_below HOD.out hsz hgrow) (Nat.le_refl _))
          have HL5 := Lib.hid ((Ints.step HLD.out ((Below.refl _ _).alloc (Nat.le_refl _) _)).grown hgrow (fun k hk e => HNE.out k e hk))
          have HN5 := Lib.hid (show ∀ k, v'.ownBlock = some k → (Value.slice (some ⟨gl, 0, none⟩) X.length ci).ownBlock ≠ some k from fun k hk => by
            rcases hfresh with e | e
            · exact HNE.out k (by rw [← e]; exact hk)
            · rw [e] at hk
              have hk2 : wr.heap.size + 1 = k := by simpa using hk
              intro h2
              have := (HLB.out.own k h2).2
              omega)
          have HO5 := Lib.hid (Ints.more (xs := []) (x := (k : Int)) (by simpa using hown))
          clear hown hgrow hfresh
          go_wp2_with fail
          exact ⟨⟨m + 1, by omega, by go_num, by rw [HX.out.1], by rw [HX.out.2]; exact HO5.out, HL5.out, HN5.out, H4.out⟩, by simp [intOf]; omega⟩
        · by_cases h2 : y = mo
          · subst h2
            have HX := Lib.hid (HSM.out rfl)
            clear HLS HSM HMR
            obtain ⟨hi, hz0, hz1', hz2'⟩ := HI.out
            have hsz := H1.out.below.size
            go_wp2_with (at_builtin; refine wpList_append_int rfl _ _ 26 rfl Tryz.underlying26 hi hz0 hz1' hz2' (World.ownsRow.alloc HOWN.out _) rfl rfl (cell_new0 _ _ _) (by omega) (by simp; omega) ?_)
            intro v' w5 hown hgrow hfresh
            have H4 := Lib.hid (H1.out.stepB (B := W.heap.size) trivial (grown_below HOWN.out hsz hgrow) (Nat.le_refl _))
            have HL5 := Lib.hid ((Ints.step HLB.out ((Below.refl _ _).alloc (Nat.le_refl _) _)).grown hgrow (fun k hk e => HNE.out k e hk))
            have HN5 := Lib.hid (show ∀ k, v'.ownBlock = some k → (Value.slice (some ⟨gl, 0, none⟩) X.length ci).ownBlock ≠ some k from fun k hk => by
              rcases hfresh with e | e
              · exact HNE.out k (by rw [← e]; exact hk)
              · rw [e] at hk
                have hk2 : wr.heap.size + 1 = k := by simpa using hk
                intro h2
                have := (HLB.out.own k h2).2
                omega)
            have HO5 := Lib.hid (Ints.more (x := (k : Int)) (by simpa using hown))
            clear hown hgrow hfresh
            go_wp2_with fail
            exact ⟨⟨m + 1, by omega, by go_num, by rw [HX.out.1], by rw [HX.out.2]; exact HO5.out, HL5.out, HN5.out, H4.out⟩, by simp [intOf]; omega⟩
          · have HX := Lib.hid (HMR.out (by omega))
            clear HLS HSM HMR
            have hq : (y == mo) = false := by simpa using h2
            clear h2
            go_wp2_with fail
            exact ⟨⟨m + 1, by omega, by go_num, by rw [HX.out.1], by rw [HX.out.2]; exact HOWN.out, HLB.out, HNE.out, H1.out⟩, by simp [intOf]; omega⟩
      · obtain rfl : m = X.length := by omega
        have HX := Lib.hid (show res = olX xs (X.take X.length) from by rw [List.take_length]; exact HR.out)
        go_wp2_with fail
        go_ret
        exact ⟨_, rfl, by rw [HX.out]; exact HOWN.out.mono B1.out.size, B1.out.trans (H1.out.below.mono B1.out.size)⟩

set_option maxRecDepth 100000 in
set_option maxHeartbeats 4000000 in
theorem specOldest (ns ls : List Nd) (xs : List Int) (vn vl v : Value) (w : World) (hn : Prs w vn ns) (hl : Prs w vl ls) (hv : Seq w v xs) :
    Calls Tryz.prog 28 #[.agg #[vn, vl], v] w (IntsNew (oldW ns ls xs) w) := by
  have HG := Lib.hid (fun w h1 h2 h3 => specHistOk ns ls xs vn vl v w h1 h2 h3)
  have HO := Lib.hid (fun w h1 h2 => specOuterFace ns ls vn vl w h1 h2)
  unfold BoolIs at HG
  unfold IntIs at HO
  have HOW := Lib.hid (fun (h : listB ns ls 0 3000 xs = true) => (show oldW ns ls xs = fltN (fun k => innP (outW ns ls) k && (atZ xs k == mnF xs (innP (outW ns ls)) xs.length)) xs.length from by
    rw [oldW_is h, (listB_parts h).2.1]))
  have HON := Lib.hid (fun (h : listB ns ls 0 3000 xs = false) => show oldW ns ls xs = [] from if_neg (by rw [h]; simp))
  have HX40 := Lib.hid (fun (h : listB ns ls 0 3000 xs = true) => (show xs.length ≤ 40 from by rw [(listB_parts h).2.1]; exact wF_len))
  obtain ⟨i0, hi, hz0, hz1, hz2⟩ := info_parts infoInt
  have HI := Lib.hid (And.intro hi (And.intro hz0 (And.intro hz1 hz2))); clear hi hz0 hz1 hz2
  have HN := Lib.hid hn
  have HL := Lib.hid hl
  have HV := Lib.hid hv
  have H0 := Lib.hid ((held_pair w vn vl 32).alloc (.cells #[] 3))
  have HO0 := Lib.hid (Ints.made (w.alloc (.cells #[vn, vl] 32)) (w.heap.size + 1) (w.heap.size + 1) (by simp) (Nat.le_refl _))
  obtain ⟨A, c, rfl⟩ := prs_form2 hn
  obtain ⟨A2, c2, rfl⟩ := prs_form2 hl
  obtain ⟨A3, c3, rfl⟩ := seq_form2 hv
  clear hn hl hv
  generalize outW ns ls = o at *
  generalize oldW ns ls xs = res at *
  generalize listB ns ls 0 3000 xs = lb at *
  go_enter Tryz.func28, Tryz.ntmps28
  go_wp2_with fail
  refine (HG.out _ (HN.out.step H0.out.below) (HL.out.step H0.out.below) (HV.out.step H0.out.below)).mono ?_
  rintro e w1 ⟨rfl, hb⟩
  have H1 := Lib.hid (H0.out.step hb)
  have HO1 := Lib.hid (HO0.out.step hb)
  clear hb H0 HO0
  cases lb
  · go_wp2_with fail
    go_ret
    exact ⟨_, rfl, by rw [HON.out (by first | rfl | trivial)]; exact HO1.out.mono (Nat.le_succ _), H1.out.below⟩
  · have HR := Lib.hid (HOW.out (by first | rfl | trivial))
    have h40 := HX40.out (by first | rfl | trivial)
    clear HOW HON HX40
    obtain ⟨x0, x1, _⟩ := H1.out.1
    go_wp2_with fail
    refine (HO.out _ (HN.out.step H1.out.below) (HL.out.step H1.out.below)).mono ?_
    rintro e w2 ⟨rfl, hb⟩
    have H2 := Lib.hid (H1.out.step hb)
    have HO2 := Lib.hid (HO1.out.step hb)
    clear hb H1 HO1 x0 x1
    have HP := Lib.hid (fun k => show innP o k = !((k : Int) == o) from rfl)
    have HMU := Lib.hid (mnF_succ xs (innP o))
    have HMZ := Lib.hid (show mnF xs (innP o) 0 = 3001 from rfl)
    generalize mnF xs (innP o) = M at *
    generalize innP o = p at *
    go_wp2_with fail
    go_loopw [7, 8] (fun l i wr => ∃ m : Nat, m ≤ xs.length ∧ i = .int .i64 m ∧ l = .int .i64 (M m) ∧ Ints wr (w.heap.size + 1) (.slice (some ⟨w.heap.size + 1, 0, none⟩) 0 0) [] ∧ Held w wr [(w.heap.size, 0, .slice A ns.length c), (w.heap.size, 1, .slice A2 ls.length c2)]) (fun _ i _ => xs.length - (intOf i).toNat)
    case atStart => exact ⟨0, Nat.zero_le _, rfl, by rw [HMZ.out], HO2.out, H2.out⟩
    case round =>
      clear H2 HO2
      obtain ⟨m, hm, rfl, rfl, hown, hh⟩ := hrel
      have HO2 := Lib.hid hown; clear hown
      have H2 := Lib.hid hh; clear hh
      by_cases hlt : m < xs.length
      · obtain ⟨A6', c6', e6, -, -, hcs⟩ := (HV.out.step H2.out.below).form
        simp only [Value.slice.injEq] at e6
        obtain ⟨rfl, -, -⟩ := e6
        obtain ⟨bb, oo, rfl, -, k0⟩ := hcs m hlt
        clear hcs
        have HMM := Lib.hid (HMU.out m)
        have HPM := Lib.hid (HP.out m)
        have p3 : (0 : Int) ≤ m := by omega
        have p4 : (m : Int) < (xs.length : Int) := by omega
        obtain ⟨b, hb⟩ : ∃ b, ((m : Int) == o) = b := ⟨_, rfl⟩
        rw [hb] at HPM
        rw [HPM.out] at HMM
        generalize atZ xs m = y at *
        generalize hmo : M m = mo at *
        have hn1 : ((m : Int) != o) = !b := by rw [← hb]; rfl
        cases b <;> simp only [Bool.not_true, Bool.not_false] at hn1
        · go_wp2_with fail
          exact ⟨⟨m + 1, by omega, by go_num, by rw [HMM.out]; rfl, HO2.out, H2.out⟩, by simp [intOf]; omega⟩
        · go_wp2_with fail
          exact ⟨⟨m + 1, by omega, by go_num, by rw [HMM.out]; rfl, HO2.out, H2.out⟩, by simp [intOf]; omega⟩
      · obtain rfl : m = xs.length := by omega
        generalize M xs.length = L at *
        obtain ⟨q, hq⟩ : ∃ q : Nat → Bool, q = (fun k : Nat => p k && (atZ xs k == L)) := ⟨_, rfl⟩
        have HQ := Lib.hid (fun k => show q k = (p k && (atZ xs k == L)) from by rw [hq])
        replace HR := Lib.hid (show res = fltN q xs.length from by rw [HR.out, hq])
        clear hq
        have HU := Lib.hid (fltN_succ q)
        have HLN := Lib.hid (fltN_len q)
        have HZ := Lib.hid (show fltN q 0 = [] from rfl)
        generalize fltN q = Y at *
        go_wp2_with fail
        go_loopw [5, 9] (fun v i wr => ∃ m : Nat, m ≤ xs.length ∧ i = .int .i64 m ∧ Ints wr (w.heap.size + 1) v (Y m) ∧ Held w wr [(w.heap.size, 0, .slice A ns.length c), (w.heap.size, 1, .slice A2 ls.length c2)]) (fun _ i _ => xs.length - (intOf i).toNat)
        case atStart => exact ⟨0, Nat.zero_le _, rfl, by rw [HZ.out]; exact HO2.out, H2.out⟩
        case round =>
          clear H2 HO2 hlt hm
          obtain ⟨m, hm, rfl, hown, hh⟩ := hrel
          have HO2 := Lib.hid hown; clear hown
          have H2 := Lib.hid hh; clear hh
          by_cases hlt : m < xs.length
          · obtain ⟨A6', c6', e6, -, -, hcs⟩ := (HV.out.step H2.out.below).form
            simp only [Value.slice.injEq] at e6
            obtain ⟨rfl, -, -⟩ := e6
            obtain ⟨bb, oo, rfl, -, k0⟩ := hcs m hlt
            clear hcs
            have HUM := Lib.hid (HU.out m)
            have HQM := Lib.hid (HQ.out m)
            have HPM := Lib.hid (HP.out m)
            have hln := HLN.out m
            have q1 : (0 : Int) ≤ m := by omega
            have q2 : (m : Int) < (xs.length : Int) := by omega
            obtain ⟨b, hb⟩ : ∃ b, ((m : Int) == o) = b := ⟨_, rfl⟩
            rw [hb] at HPM
            rw [HPM.out] at HQM
            obtain ⟨b2, hb2⟩ : ∃ b, (atZ xs m == L) = b := ⟨_, rfl⟩
            rw [hb2] at HQM
            rw [HQM.out] at HUM
            clear HQM HPM
            generalize atZ xs m = y at *
            have hn1 : ((m : Int) != o) = !b := by rw [← hb]; rfl
            cases b <;> simp only [Bool.not_true, Bool.not_false] at hn1
            · cases b2
              · go_wp2_with fail
                exact ⟨⟨m + 1, by omega, by go_num, by rw [HUM.out]; exact HO2.out, H2.out⟩, by simp [intOf]; omega⟩
              · obtain ⟨hi, hz0, hz1, hz2⟩ := HI.out
                have hsz1 := H2.out.2.1.1
                go_wp2_with (at_builtin; refine wpList_append_own _ rfl _ _ 26 rfl (w.heap.size + 1) 3 i0 (.int .i64 0) 1 8 Tryz.underlying26 hi hz0 hz1 hz2 rfl (by decide) _ _ _ rfl (World.ownsRow.alloc HO2.out _) ⟨_, 0, none⟩ 1 1 [.int .i64 m] rfl rfl ?c1 ?c2 ?c3 ?c4 ?c5 ?_)
                case c1 => exact cell_one_new _ _ _
                case c2 => simp [Value.oneCell']
                case c3 => unfold maxLen; omega
                case c4 => omega
                case c5 => simp <;> omega
                intro v' w5 hown hgrow _
                have H5 := Lib.hid (H2.out.stepB (B := w.heap.size + 1) ⟨Nat.lt_succ_self _, Nat.lt_succ_self _, trivial⟩ (grown_below HO2.out hsz1 hgrow) (Nat.le_succ _))
                have HO5 := Lib.hid (Ints.more hown); clear hown hgrow
                go_wp2_with fail
                exact ⟨⟨m + 1, by omega, by go_num, by rw [HUM.out]; exact HO5.out, H5.out⟩, by simp [intOf]; omega⟩
            · go_wp2_with fail
              exact ⟨⟨m + 1, by omega, by go_num, by rw [HUM.out]; exact HO2.out, H2.out⟩, by simp [intOf]; omega⟩
          · obtain rfl : m = xs.length := by omega
            go_wp2_with fail
            go_ret
            exact ⟨_, rfl, by rw [HR.out]; exact HO2.out.mono (Nat.le_succ _), H2.out.below⟩
end Go.Proofs.YtfckgidilbjokaaGreat
