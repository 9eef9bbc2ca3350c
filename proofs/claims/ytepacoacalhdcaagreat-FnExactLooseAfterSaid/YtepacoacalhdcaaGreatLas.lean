/-
  LooseAfter, of the model.
-/
import Derived.Test.YtepacoacalhdcaaGreatLaa
import Derived.Test.YtepacoacalhdcaaGreatLap
namespace Go.Proofs.YtepacoacalhdcaaGreat
open Go.RowKit Go.Maps
set_option linter.unusedVariables false
set_option linter.unusedSimpArgs false

set_option maxRecDepth 100000 in
set_option maxHeartbeats 4000000 in
theorem specLa (ns ls : List Nd) (vn vl : Value) (x : Int) (w : World) (hn : Prs w vn ns) (hl : Prs w vl ls) (hx : -9223372036854775808 ≤ x ∧ x ≤ 9223372036854775807) :
    Calls Tryz.prog 17 #[.agg #[vn, vl], .int .i64 x] w (IntsNew (laL ns ls x) w) := by
  have HAJ := Lib.hid (fun w h1 h2 => specAjn ns ls vn vl x w h1 h2 hx)
  unfold BoolIs at HAJ
  have HMT := Lib.hid (fun w h1 h2 (hh : wholeB ns ls = true) => specMat ns ls vn vl w h1 h2 hh)
  unfold MatNew at HMT
  have HNO := Lib.hid (fun h => laL_no (ns := ns) (ls := ls) (x := x) h)
  have HYES := Lib.hid (fun (h : ajB ns ls x = true) => (show laL ns ls x = fltN (laP (gM ns ls) (wF ns ls).length (gO ns ls) x.toNat) (wF ns ls).length from if_pos h))
  have h13 := wF_thirteen ns ls
  have HJN := Lib.hid (show ajB ns ls x = jndB (gM ns ls) (wF ns ls).length (gO ns ls) x from rfl)
  have HWH := Lib.hid (fun (h : ajB ns ls x = true) => (show wholeB ns ls = true from by
    cases e : wholeB ns ls
    · rw [ajB_no e] at h; cases h
    · rfl))
  have HGM := Lib.hid (fun (h : wholeB ns ls = true) => gM_is h)
  have HN := Lib.hid hn
  have HL := Lib.hid hl
  have H0 := Lib.hid ((held_pair w vn vl 32).alloc (.cells #[] 3))
  have HO0 := Lib.hid (Ints.made (w.alloc (.cells #[vn, vl] 32)) (w.heap.size + 1) (w.heap.size + 1) (by simp) (Nat.le_refl _))
  obtain ⟨A, c1, rfl⟩ := prs_form2 hn
  obtain ⟨A2, c2, rfl⟩ := prs_form2 hl
  clear hn hl
  obtain ⟨i0, hi, hz0, hz1, hz2⟩ := info_parts infoInt
  have HI := Lib.hid (And.intro hi (And.intro hz0 (And.intro hz1 hz2))); clear hi hz0 hz1 hz2
  cases hr : ajB ns ls x
  · have HF := Lib.hid (HNO.out hr)
    rw [hr] at HAJ
    clear hr HNO HYES HWH HJN HMT HGM
    generalize laL ns ls x = R at *
    go_enter Tryz.func17, Tryz.ntmps17
    obtain ⟨x0, x1, _⟩ := H0.out.1
    go_wp2_with fail
    refine (HAJ.out _ (HN.out.step H0.out.below) (HL.out.step H0.out.below)).mono ?_
    rintro e w1 ⟨rfl, hb⟩
    have H1 := Lib.hid (H0.out.step hb)
    have HO1 := Lib.hid (HO0.out.step hb)
    clear hb x0 x1
    go_wp2_with fail
    go_ret
    exact ⟨_, rfl, by rw [HF.out]; exact HO1.out.mono (Nat.le_succ _), H1.out.below⟩
  · have hh := HWH.out hr
    have HF := Lib.hid (HYES.out hr)
    have hMM := HGM.out hh
    rw [hr] at HAJ
    rw [HJN.out] at hr
    obtain ⟨s, rfl, hs0, hbits⟩ := jnd_bits hr
    have HH := Lib.hid hh
    have hs20 : s < 2 ^ 20 := Nat.lt_of_lt_of_le (small_of fun i h => (hbits i h).1) (Nat.pow_le_pow_right (by omega) (by omega))
    have hs62 : s < 4611686018427387904 := Nat.lt_of_lt_of_le hs20 (by decide)
    rw [Int.toNat_natCast] at HF
    rw [← hMM] at HMT
    clear hr HNO HYES HWH HJN HGM hh hMM
    have HJT := Lib.hid (fun (s a : Nat) am cm g w h1 h2 h3 h4 h5 => specJoined17 (gM ns ls) (wF ns ls).length s a am cm g w h1 (by omega) h2 h3 h4 h5)
    have HJI := Lib.hid (fun (s a : Nat) (h1 : LowB s a) (h2 : ∀ i, s.testBit i = true → i < (wF ns ls).length ∧ i ≠ gO ns ls) => jnd_is (M := gM ns ls) (N := (wF ns ls).length) (out := gO ns ls) h1 h2)
    have HQ := Lib.hid (fun f => (show laP (gM ns ls) (wF ns ls).length (gO ns ls) s f = (s.testBit f && (decide (subN s (2 ^ f) = 0) || jndB (gM ns ls) (wF ns ls).length (gO ns ls) ((subN s (2 ^ f) : Nat) : Int))) from rfl))
    have HU := Lib.hid (fun m => fltN_succ (laP (gM ns ls) (wF ns ls).length (gO ns ls) s) m)
    have HLN := Lib.hid (fltN_len (laP (gM ns ls) (wF ns ls).length (gO ns ls) s))
    have HZ := Lib.hid (show fltN (laP (gM ns ls) (wF ns ls).length (gO ns ls) s) 0 = [] from rfl)
    have HBT := Lib.hid hbits; clear hbits
    have HSB := Lib.hid (fun f (h : s.testBit f = true) => sub_two (f := f) hs62 h)
    have HSL := Lib.hid (fun f => Nat.lt_of_le_of_lt (subN_le s (2 ^ f)) hs62)
    have HBA := Lib.hid (fun i => bit_at (s := s) (i := i) hs62)
    have HSI := Lib.hid (fun f i (h : (subN s (2 ^ f)).testBit i = true) => sub_bits h)
    clear hs20
    generalize laL ns ls (s : Int) = R at *
    generalize fltN (laP (gM ns ls) (wF ns ls).length (gO ns ls) s) = X at *
    generalize laP (gM ns ls) (wF ns ls).length (gO ns ls) s = P at *
    generalize gM ns ls = M at *
    generalize gO ns ls = out at *
    generalize (wF ns ls).length = N at *
    go_enter Tryz.func17, Tryz.ntmps17
    obtain ⟨x0, x1, _⟩ := H0.out.1
    go_wp2_with fail
    refine (HAJ.out _ (HN.out.step H0.out.below) (HL.out.step H0.out.below)).mono ?_
    rintro e w1 ⟨rfl, hb⟩
    have H1 := Lib.hid (H0.out.step hb)
    have HO1 := Lib.hid (HO0.out.step hb)
    clear hb x0 x1 H0 HO0
    obtain ⟨x0, x1, _⟩ := H1.out.1
    go_wp2_with fail
    refine (HMT.out _ (HN.out.step H1.out.below) (HL.out.step H1.out.below) HH.out).mono ?_
    rintro e w2 ⟨vm, g, rfl, hm, hb⟩
    have H2 := Lib.hid (H1.out.step hb)
    have HO2 := Lib.hid (HO1.out.step hb)
    have HM2 := Lib.hid (hm.mono (b' := 0) (Nat.zero_le _))
    obtain ⟨am, cm, rfl, -⟩ := hm.form
    clear hm hb x0 x1 H1 HO1 HH
    go_wp2_with fail
    go_loopw [5, 7] (fun u i wr => ∃ k : Nat, k ≤ N ∧ i = .int .i64 k ∧ Ints wr (w.heap.size + 1) u (X k) ∧ MatG wr 0 (.slice am N cm) g N N M ∧ Held w wr [(w.heap.size, 0, .slice A ns.length c1), (w.heap.size, 1, .slice A2 ls.length c2)]) (fun _ i _ => N - (intOf i).toNat)
    case atStart => exact ⟨0, Nat.zero_le _, rfl, by rw [HZ.out]; exact HO2.out, HM2.out, H2.out⟩
    case round =>
      clear HO2 HM2 H2
      obtain ⟨k, hk, rfl, hown, hmat, hh⟩ := hrel
      have HO := Lib.hid hown; clear hown
      have HM := Lib.hid hmat; clear hmat
      have H1 := Lib.hid hh; clear hh
      by_cases hlt : k < N
      · have q0 : (0 : Int) ≤ k := by omega
        have q1 : (k : Int) < (N : Int) := by omega
        have e4 : ((k : Int)).toNat = k := by omega
        have e5 : min k 64 = k := by omega
        have HUK := Lib.hid (HU.out k)
        have HQK := Lib.hid (HQ.out k)
        have hbk := HBA.out k
        have hsh := shl_one (i := k) (by omega)
        cases hb : s.testBit k
        · rw [hb] at hbk
          simp only [Bool.false_eq_true, if_false] at hbk
          have EQ := Lib.hid (show P k = false from by rw [HQK.out, hb]; rfl)
          have EP := Lib.hid (show X (k + 1) = X k from by rw [HUK.out, if_neg (by rw [EQ.out]; simp)])
          clear hb
          go_wp2_with fail
          exact ⟨⟨k + 1, by omega, by go_num, by rw [EP.out]; exact HO.out, HM.out, H1.out⟩, by simp [intOf]; omega⟩
        · rw [hb] at hbk
          simp only [if_true] at hbk
          have hsub := HSB.out k hb
          have hsl := HSL.out k
          have HSK := Lib.hid (HSI.out k)
          have HQ2 := Lib.hid (show P k = (decide (subN s (2 ^ k) = 0) || jndB M N out ((subN s (2 ^ k) : Nat) : Int)) from by rw [HQK.out, hb]; rfl)
          clear HQK hb
          obtain ⟨Z, hZ⟩ : ∃ Z : Int, ((2 ^ k : Nat) : Int) = Z := ⟨_, rfl⟩
          have hZ2 : (2 : Int) ^ k = Z := by rw [← hZ]; simp
          rw [hZ] at hsh
          rw [hZ2] at hbk
          generalize subN s (2 ^ k) = z at *
          have hsz2 : (s : Int) = Z + z := by omega
          have hpz : 1 ≤ Z := by have := Nat.one_le_two_pow (n := k); omega
          have wz0 : wrap64 Z = Z := IntWalk.wrap64_in _ (by omega)
          have wz1 : wrap64 ((s : Int) - Z) = z := by rw [show (s : Int) - Z = z by omega]; exact IntWalk.wrap64_in _ (by omega)
          have wz2 : IntKind.i64.wrap ((s : Int) - Z) = z := by rw [show (s : Int) - Z = z by omega]; exact IntWalk.i64_in _ (by omega)
          by_cases hz : z = 0
          · have EQ := Lib.hid (show P k = true from by rw [HQ2.out, hz]; rfl)
            have e1 : ((s : Int) == Z) = true := by rw [beq_iff_eq]; omega
            clear hz
            have HSS := Lib.hid hsz2
            clear hsz2 hsub hZ
            have HO3 := Lib.hid HO.out
            have HM3 := Lib.hid HM.out
            have H3 := Lib.hid H1.out
            generalize hwc : wr = wc at *
            have EP := Lib.hid (show X (k + 1) = X k ++ [(k : Int)] from by rw [HUK.out, if_pos EQ.out])
            have HZ3 := Lib.hid H3.out.below.size
            have hsz : w.heap.size + 1 ≤ wc.heap.size := H3.out.2.1.1
            obtain ⟨a9, c9, rfl, -⟩ := HO3.out.form
            have hll := HLN.out k
            obtain ⟨hi, hz0, hz1, hz2⟩ := HI.out
            go_wp2_with (at_builtin; refine wpList_append_own _ rfl _ _ 27 rfl (w.heap.size + 1) 3 i0 (.int .i64 0) 1 8 Tryz.underlying27 hi hz0 hz1 hz2 rfl (by decide) _ _ _ rfl (World.ownsRow.alloc HO3.out _) ⟨_, 0, none⟩ 1 1 [.int .i64 k] rfl rfl ?c1 ?c2 ?c3 ?c4 ?c5 ?_)
            try (case c1 => exact cell_one_new _ _ _)
            case c2 => simp [Value.oneCell']
            case c3 => unfold maxLen; omega
            case c4 => omega
            case c5 => first | omega | (simp <;> omega)
            intro v' w9 hown hgrow _
            have HO9 := Lib.hid (Ints.more hown)
            have HM9 := Lib.hid (((HM3.out.step (below_alloc _ (.cells #[.int .i64 k] 3))).grownI (World.ownsRow.alloc HO3.out _) hgrow))
            have H9 := Lib.hid (H3.out.stepB (B := w.heap.size + 1) ⟨Nat.lt_succ_self _, Nat.lt_succ_self _, trivial⟩ (grown_below HO3.out hsz hgrow) (Nat.le_succ _))
            clear hown hgrow hi hz0 hz1 hz2
            go_wp2_with fail
            exact ⟨⟨k + 1, by omega, by go_num, by rw [EP.out]; exact HO9.out, HM9.out, H9.out⟩, by simp [intOf]; omega⟩
          · have e1 : ((s : Int) == Z) = false := by rw [beq_eq_false_iff_ne]; omega
            obtain ⟨a, ha⟩ := lowB_ex (s := z) (by omega)
            have hzb : ∀ i, z.testBit i = true → i < N ∧ i ≠ out := fun i h => HBT.out i (HSK.out i h)
            have HJ := Lib.hid (HJI.out z a ha hzb)
            have HJK := Lib.hid (fun am cm g w h1 => HJT.out z a am cm g w h1 hsl ha (hzb a ha.1).1 fun i hi => (hzb i hi).1)
            have HQ3 := Lib.hid (show P k = jndB M N out (z : Int) from by rw [HQ2.out, decide_eq_false hz]; rfl)
            clear ha hzb hz HQ2
            have HSS := Lib.hid hsz2
            clear hsz2 hsub hZ
            go_wp2_with fail
            refine (HJK.out am cm g _ HM.out).mono ?_
            rintro e wc ⟨r, rfl, hr, hb⟩
            have HPR := Lib.hid (show P k = r from by rw [HQ3.out, Bool.eq_iff_iff, HJ.out, hr])
            have HO3 := Lib.hid (HO.out.step hb)
            have HM3 := Lib.hid (HM.out.step hb)
            have H3 := Lib.hid (H1.out.step hb)
            clear hb hr HJ HQ3 HO HM H1
            cases r
            · have EP := Lib.hid (show X (k + 1) = X k from by rw [HUK.out, if_neg (by rw [HPR.out]; simp)])
              go_wp2_with fail
              exact ⟨⟨k + 1, by omega, by go_num, by rw [EP.out]; exact HO3.out, HM3.out, H3.out⟩, by simp [intOf]; omega⟩
            · have EQ := Lib.hid HPR.out
              have EP := Lib.hid (show X (k + 1) = X k ++ [(k : Int)] from by rw [HUK.out, if_pos EQ.out])
              have HZ3 := Lib.hid H3.out.below.size
              have hsz : w.heap.size + 1 ≤ wc.heap.size := H3.out.2.1.1
              obtain ⟨a9, c9, rfl, -⟩ := HO3.out.form
              have hll := HLN.out k
              obtain ⟨hi, hz0, hz1, hz2⟩ := HI.out
              go_wp2_with (at_builtin; refine wpList_append_own _ rfl _ _ 27 rfl (w.heap.size + 1) 3 i0 (.int .i64 0) 1 8 Tryz.underlying27 hi hz0 hz1 hz2 rfl (by decide) _ _ _ rfl (World.ownsRow.alloc HO3.out _) ⟨_, 0, none⟩ 1 1 [.int .i64 k] rfl rfl ?c1 ?c2 ?c3 ?c4 ?c5 ?_)
              try (case c1 => exact cell_one_new _ _ _)
              case c2 => simp [Value.oneCell']
              case c3 => unfold maxLen; omega
              case c4 => omega
              case c5 => first | omega | (simp <;> omega)
              intro v' w9 hown hgrow _
              have HO9 := Lib.hid (Ints.more hown)
              have HM9 := Lib.hid (((HM3.out.step (below_alloc _ (.cells #[.int .i64 k] 3))).grownI (World.ownsRow.alloc HO3.out _) hgrow))
              have H9 := Lib.hid (H3.out.stepB (B := w.heap.size + 1) ⟨Nat.lt_succ_self _, Nat.lt_succ_self _, trivial⟩ (grown_below HO3.out hsz hgrow) (Nat.le_succ _))
              clear hown hgrow hi hz0 hz1 hz2
              go_wp2_with fail
              exact ⟨⟨k + 1, by omega, by go_num, by rw [EP.out]; exact HO9.out, HM9.out, H9.out⟩, by simp [intOf]; omega⟩
      · obtain rfl : k = N := by omega
        go_wp2_with fail
        go_ret
        exact ⟨_, rfl, by rw [HF.out]; exact HO.out.mono (Nat.le_succ _), H1.out.below⟩
end Go.Proofs.YtepacoacalhdcaaGreat
