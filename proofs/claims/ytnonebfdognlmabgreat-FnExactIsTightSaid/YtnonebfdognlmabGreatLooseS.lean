/-
  IsLoose, LooseLeads, IsTight, of the model.
-/
import Derived.Test.YtnonebfdognlmabGreatLoose
import Derived.Deep.QuietTactic
import Derived.BigQuiet
namespace Go.Proofs.YtnonebfdognlmabGreat
open Go.RowKit
set_option linter.unusedVariables false
set_option linter.unusedSimpArgs false

set_option maxRecDepth 100000 in
theorem specIsLoose (ns ls : List Nd) (vn vl : Value) (k : Int) (w : World) (hn : Prs w vn ns) (hl : Prs w vl ls) :
    Calls Tryz.prog 37 #[.agg #[vn, vl], .int .i64 k] w (BoolIs (looseB ns ls k) w) := by
  have HS := Lib.hid (fun w h1 h2 => specSidesOf ns ls vn vl k w h1 h2)
  unfold TwoIs at HS
  have HN := Lib.hid hn
  have HL := Lib.hid hl
  have H0 := Lib.hid (held_pair w vn vl 32)
  obtain ⟨A, c, rfl⟩ := prs_form2 hn
  obtain ⟨A2, c2, rfl⟩ := prs_form2 hl
  clear hn hl
  by_cases hb : sidB ns ls k = true
  · have hA : sdA ns ls k = atZ (atW ns ls) (2 * k.toNat) := if_pos hb
    have hB : sdB ns ls k = atZ (atW ns ls) (2 * k.toNat + 1) := if_pos hb
    have hR : looseB ns ls k = (sdA ns ls k == sdB ns ls k) := by unfold looseB looseP; rw [hb, hA, hB]; simp
    have hk : k.toNat < ls.length := by
      unfold sidB at hb
      simp only [Bool.and_eq_true] at hb
      have := (idxB_iff _ _).1 hb.2
      omega
    have h0 : (0 : Int) ≤ sdA ns ls k := by rw [hA, atW_at (by omega)]; omega
    have HR := Lib.hid hR
    clear hA hB hR hb hk
    generalize looseB ns ls k = res at *
    generalize sdA ns ls k = a at *
    generalize sdB ns ls k = b at *
    go_enter Tryz.func37, Tryz.ntmps37
    go_wp2_with fail
    refine (HS.out _ (HN.out.step H0.out.below) (HL.out.step H0.out.below)).mono ?_
    rintro e w1 ⟨rfl, hb⟩
    have H1 := Lib.hid (H0.out.step hb); clear hb
    go_wp2_with fail
    go_ret
    exact ⟨ret_bool (by rw [HR.out]), H1.out.below⟩
  · have HA := Lib.hid (show sdA ns ls k = -1 from if_neg hb)
    have HR := Lib.hid (show looseB ns ls k = false from by unfold looseB; rw [show sidB ns ls k = false by simpa using hb]; rfl)
    rw [HA.out] at HS
    clear hb
    generalize looseB ns ls k = res at *
    generalize sdB ns ls k = b at *
    go_enter Tryz.func37, Tryz.ntmps37
    go_wp2_with fail
    refine (HS.out _ (HN.out.step H0.out.below) (HL.out.step H0.out.below)).mono ?_
    rintro e w1 ⟨rfl, hb⟩
    have H1 := Lib.hid (H0.out.step hb); clear hb
    go_wp2_with fail
    go_ret
    exact ⟨ret_bool HR.out.symm, H1.out.below⟩

set_option maxRecDepth 100000 in
set_option maxHeartbeats 2000000 in
theorem specLooseLeads (ns ls : List Nd) (vn vl : Value) (w : World) (hn : Prs w vn ns) (hl : Prs w vl ls) :
    Calls Tryz.prog 39 #[.agg #[vn, vl]] w (IntsNew (looseW ns ls) w) := by
  have HW := Lib.hid (fun w h1 h2 => specWhole ns ls vn vl w h1 h2)
  have HN := Lib.hid hn
  have HL := Lib.hid hl
  have H0 := Lib.hid (held_pair w vn vl 32)
  by_cases hh : wholeB ns ls = true
  · obtain ⟨hw, hl0, h20, h12⟩ := whole_win hh
    have HSI := Lib.hid (fun w h1 h2 => specSides9 ns ls vn vl w h1 h2 hh)
    unfold IntsNew at HSI
    have HAL := Lib.hid (atW_len ns ls)
    have HR := Lib.hid (show looseW ns ls = fltN (looseP (atW ns ls)) ls.length from by unfold looseW gA gL; rw [if_pos hh, if_pos hh])
    have HP := Lib.hid (fun k => show looseP (atW ns ls) k = (atZ (atW ns ls) (2 * k) == atZ (atW ns ls) (2 * k + 1)) from rfl)
    have HU := Lib.hid (fltN_succ (looseP (atW ns ls)))
    have HLN := Lib.hid (fltN_len (looseP (atW ns ls)))
    have HZ := Lib.hid (show fltN (looseP (atW ns ls)) 0 = [] from rfl)
    obtain ⟨i0, hi, hz0, hz1, hz2⟩ := info_parts infoInt
    have HI := Lib.hid (And.intro hi (And.intro hz0 (And.intro hz1 hz2))); clear hi hz0 hz1 hz2
    rw [hh] at HW
    obtain ⟨A, c, rfl⟩ := prs_form2 hn
    obtain ⟨A2, c2, rfl⟩ := prs_form2 hl
    clear hn hl hh hw
    have H1 := Lib.hid (H0.out.alloc (.cells #[] 3))
    have HO1 := Lib.hid (Ints.made (w.alloc (.cells #[.slice A ns.length c, .slice A2 ls.length c2] 32)) (w.heap.size + 1) (w.heap.size + 1) (by simp) (Nat.le_refl _))
    clear H0
    generalize looseW ns ls = res at *
    generalize fltN (looseP (atW ns ls)) = X at *
    generalize looseP (atW ns ls) = p at *
    generalize atW ns ls = ds at *
    go_enter Tryz.func39, Tryz.ntmps39
    go_wp2_with fail
    refine (HW.out _ (HN.out.step H1.out.below) (HL.out.step H1.out.below)).mono ?_
    rintro e w1 ⟨rfl, hb⟩
    have H3 := Lib.hid (H1.out.step hb)
    have HO3 := Lib.hid (HO1.out.step hb)
    clear hb H1 HO1
    obtain ⟨x0, x1, _⟩ := H3.out.1
    go_wp2_with fail
    refine (HSI.out _ (HN.out.step H3.out.below) (HL.out.step H3.out.below)).mono ?_
    rintro e w3 ⟨vd, rfl, hm, hb⟩
    have H1 := Lib.hid (H3.out.step hb)
    have HOWN := Lib.hid (HO3.out.step hb)
    obtain ⟨gl, cl, rfl⟩ := hm.some_ (by rw [HAL.out]; omega)
    have hgl := (hm.own gl rfl).1
    have hw2 := (HO3.out.own (w.heap.size + 1) rfl).2
    have HLB := Lib.hid hm
    clear hb hm H3 HO3 x0 x1
    obtain ⟨x0, x1, _⟩ := H1.out.1
    have hla := HAL.out
    obtain ⟨N, hN⟩ : ∃ N, N = ds.length := ⟨_, rfl⟩
    rw [← hN] at HLB hla ⊢
    have HNN := Lib.hid hN; clear hN
    clear hla
    have HN0 : ∀ k, (Value.slice (some ⟨w.heap.size + 1, 0, none⟩) 0 0).ownBlock = some k → k ≠ gl := by
      intro k hk
      have hk' : w.heap.size + 1 = k := by simpa [Value.ownBlock] using hk
      omega
    go_wp2_with fail
    go_loopw [3, 5] (fun v i wr => ∃ m : Nat, m ≤ ls.length ∧ i = .int .i64 m ∧ Ints wr (w.heap.size + 1) v (X m) ∧ Ints wr (w.heap.size + 1) (.slice (some ⟨gl, 0, none⟩) N cl) ds ∧ (∀ k, v.ownBlock = some k → k ≠ gl) ∧ Held w wr [(w.heap.size, 0, .slice A ns.length c), (w.heap.size, 1, .slice A2 ls.length c2)]) (fun _ i _ => ls.length - (intOf i).toNat)
    case atStart => exact ⟨0, Nat.zero_le _, rfl, by rw [HZ.out]; exact HOWN.out, HLB.out.mono (by omega), HN0, H1.out⟩
    case round =>
      clear HOWN HLB H1 x0 x1 HN0 hw2 hgl
      obtain ⟨m, hm, rfl, hown, hlab, hne, hh⟩ := hrel
      have HOWN := Lib.hid hown; clear hown
      have HLB := Lib.hid hlab; clear hlab
      have HNE := Lib.hid hne; clear hne
      have H1 := Lib.hid hh; clear hh
      obtain ⟨x0, x1, _⟩ := H1.out.1
      by_cases hlt : m < ls.length
      · obtain ⟨c0, -, hgl0, -, -⟩ := HLB.out.at_ (j := 2 * m) (by have := HAL.out; omega)
        obtain ⟨c1, -, -, -, -⟩ := HLB.out.at_ (j := 2 * m + 1) (by have := HAL.out; omega)
        have HPM := Lib.hid (HP.out m)
        have HS0 := Lib.hid (HU.out m)
        have hfl := HLN.out m
        obtain ⟨e0, he0⟩ : ∃ e0, e0 = 2 * m := ⟨_, rfl⟩
        obtain ⟨e1, he1⟩ : ∃ e1, e1 = e0 + 1 := ⟨_, rfl⟩
        rw [← he0] at c0 c1 HPM
        rw [← he1] at c1 HPM
        have hN2 : e1 < N := by have := HAL.out; have := HNN.out; omega
        generalize atZ ds e0 = za at *
        generalize atZ ds e1 = zb at *
        have p1 : (0 : Int) ≤ e0 := by omega
        have p2 : (e0 : Int) < (N : Int) := by omega
        have p3 : (0 : Int) ≤ e1 := by omega
        have p4 : (e1 : Int) < (N : Int) := by omega
        have p5 : (0 : Int) ≤ m := by omega
        have p6 : (m : Int) < (ls.length : Int) := by omega
        have r1 : 2 * (m : Int) = (e0 : Int) := by omega
        have r2 : (e0 : Int) + 1 = (e1 : Int) := by omega
        have r3 : IntKind.i64.wrap (2 * (m : Int)) = (e0 : Int) := by rw [IntWalk.i64_in _ (by omega)]; omega
        have r4 : IntKind.i64.wrap ((e0 : Int) + 1) = (e1 : Int) := by rw [IntWalk.i64_in _ (by omega)]; omega
        clear he0 he1
        obtain ⟨b1, hb1⟩ : ∃ b, (za == zb) = b := ⟨_, rfl⟩
        rw [hb1] at HPM
        have HS := Lib.hid (show X (m + 1) = if b1 = true then X m ++ [(m : Int)] else X m from by rw [HS0.out, HPM.out])
        clear HS0 HPM
        cases b1
        · go_wp2_with fail
          go_quiet (fail)
          go_wp2_with fail
          have HD := below_drewN (Below.refl wr.heap.size wr) nq
          exact ⟨⟨m + 1, by omega, by go_num, by rw [HS.out]; exact HOWN.out.step HD, HLB.out.step HD, HNE.out, H1.out.drewN nq⟩, by simp [intOf]; omega⟩
        · go_wp2_with fail
          go_quiet (fail)
          have HD := below_drewN (Below.refl wr.heap.size wr) nq
          obtain ⟨hi, hz0, hz1', hz2'⟩ := HI.out
          have hsz := H1.out.2.1.1
          go_wp2_with (at_builtin; refine wpList_append_int rfl _ _ 27 rfl Tryz.underlying27 hi hz0 hz1' hz2' (World.ownsRow.alloc (HOWN.out.step HD) _) rfl rfl (cell_new0 _ _ _) (by omega) (by simp; omega) ?_)
          intro v' w5 hown hgrow hfresh
          have HOD := Lib.hid (HOWN.out.step HD)
          have HLD := Lib.hid (HLB.out.step HD)
          have H4 := Lib.hid ((H1.out.drewN nq).stepB (B := w.heap.size + 1) ⟨Nat.lt_succ_self _, Nat.lt_succ_self _, trivial⟩ (grown_below HOD.out hsz hgrow) (Nat.le_succ _))
          have HL5 := Lib.hid ((Ints.step HLD.out ((Below.refl _ _).alloc (Nat.le_refl _) _)).grown hgrow (fun k hk e => by
            have hk' : gl = k := by simpa [Value.ownBlock] using hk
            exact HNE.out k e hk'.symm))
          have HN5 := Lib.hid (show ∀ k, v'.ownBlock = some k → k ≠ gl from fun k hk => by
            rcases hfresh with e | e
            · exact HNE.out k (by rw [← e]; exact hk)
            · rw [e] at hk
              have hk2 : wr.heap.size + 1 = k := by simpa using hk
              omega)
          have HO5 := Lib.hid (Ints.more (xs := X m) (x := (m : Int)) (by simpa using hown))
          clear hown hgrow hfresh HD
          go_wp2_with fail
          exact ⟨⟨m + 1, by omega, by go_num, by rw [HS.out]; exact HO5.out, HL5.out, HN5.out, H4.out⟩, by simp [intOf]; omega⟩
      · obtain rfl : m = ls.length := by omega
        go_wp2_with fail
        go_ret
        exact ⟨_, rfl, by rw [HR.out]; exact HOWN.out.mono (by omega), H1.out.below⟩
  · have HR := Lib.hid (show looseW ns ls = [] from by unfold looseW gL; rw [if_neg hh]; rfl)
    rw [show wholeB ns ls = false by simpa using hh] at HW
    obtain ⟨A, c, rfl⟩ := prs_form2 hn
    obtain ⟨A2, c2, rfl⟩ := prs_form2 hl
    clear hn hl hh
    have H1 := Lib.hid (H0.out.alloc (.cells #[] 3))
    have HO1 := Lib.hid (Ints.made (w.alloc (.cells #[.slice A ns.length c, .slice A2 ls.length c2] 32)) (w.heap.size + 1) (w.heap.size + 1) (by simp) (Nat.le_refl _))
    clear H0
    generalize looseW ns ls = res at *
    go_enter Tryz.func39, Tryz.ntmps39
    go_wp2_with fail
    refine (HW.out _ (HN.out.step H1.out.below) (HL.out.step H1.out.below)).mono ?_
    rintro e w1 ⟨rfl, hb⟩
    have H3 := Lib.hid (H1.out.step hb)
    have HO3 := Lib.hid (HO1.out.step hb)
    clear hb H1 HO1
    go_wp2_with fail
    go_ret
    exact ⟨_, rfl, by rw [HR.out]; exact HO3.out.mono (Nat.le_succ _), H3.out.below⟩

set_option maxRecDepth 100000 in
theorem specIsTight (ns ls : List Nd) (vn vl : Value) (w : World) (hn : Prs w vn ns) (hl : Prs w vl ls) :
    Calls Tryz.prog 41 #[.agg #[vn, vl]] w (BoolIs (tightB ns ls) w) := by
  have HW := Lib.hid (fun w h1 h2 => specWhole ns ls vn vl w h1 h2)
  have HS := Lib.hid (fun w h1 h2 => specLooseLeads ns ls vn vl w h1 h2)
  have HN := Lib.hid hn
  have HL := Lib.hid hl
  have H0 := Lib.hid (held_pair w vn vl 32)
  obtain ⟨A, c, rfl⟩ := prs_form2 hn
  obtain ⟨A2, c2, rfl⟩ := prs_form2 hl
  clear hn hl
  have HR := Lib.hid (show tightB ns ls = (wholeB ns ls && decide ((looseW ns ls).length = 0)) from rfl)
  generalize tightB ns ls = res at *
  generalize looseW ns ls = xs at *
  generalize wholeB ns ls = ok at *
  cases ok
  · go_enter Tryz.func41, Tryz.ntmps41
    go_wp2_with fail
    refine (HW.out _ (HN.out.step H0.out.below) (HL.out.step H0.out.below)).mono ?_
    rintro e w1 ⟨rfl, hb⟩
    have H1 := Lib.hid (H0.out.step hb); clear hb
    go_wp2_with fail
    go_ret
    exact ⟨ret_bool (by rw [HR.out]; simp), H1.out.below⟩
  · by_cases hx : xs.length = 0
    · have HX := Lib.hid hx
      have g : ((xs.length : Int) == 0) = true := by simp [hx]
      clear hx
      go_enter Tryz.func41, Tryz.ntmps41
      go_wp2_with fail
      refine (HW.out _ (HN.out.step H0.out.below) (HL.out.step H0.out.below)).mono ?_
      rintro e w1 ⟨rfl, hb⟩
      have H1 := Lib.hid (H0.out.step hb); clear hb
      obtain ⟨x0, x1, _⟩ := H1.out.1
      go_wp2_with fail
      refine (HS.out _ (HN.out.step H1.out.below) (HL.out.step H1.out.below)).mono ?_
      intro e w2 hnew
      obtain ⟨a9, c9, rfl, hb⟩ := ints_newform hnew
      have H2 := Lib.hid (H1.out.step hb); clear hb hnew
      go_wp2_with fail
      go_ret
      exact ⟨ret_bool (by rw [HR.out]; simp [HX.out]), H2.out.below⟩
    · have HX := Lib.hid hx
      have g : ((xs.length : Int) == 0) = false := by rw [beq_eq_false_iff_ne]; omega
      clear hx
      go_enter Tryz.func41, Tryz.ntmps41
      go_wp2_with fail
      refine (HW.out _ (HN.out.step H0.out.below) (HL.out.step H0.out.below)).mono ?_
      rintro e w1 ⟨rfl, hb⟩
      have H1 := Lib.hid (H0.out.step hb); clear hb
      obtain ⟨x0, x1, _⟩ := H1.out.1
      go_wp2_with fail
      refine (HS.out _ (HN.out.step H1.out.below) (HL.out.step H1.out.below)).mono ?_
      intro e w2 hnew
      obtain ⟨a9, c9, rfl, hb⟩ := ints_newform hnew
      have H2 := Lib.hid (H1.out.step hb); clear hb hnew
      go_wp2_with fail
      go_ret
      exact ⟨ret_bool (by rw [HR.out]; simp [HX.out]), H2.out.below⟩
end Go.Proofs.YtnonebfdognlmabGreat
