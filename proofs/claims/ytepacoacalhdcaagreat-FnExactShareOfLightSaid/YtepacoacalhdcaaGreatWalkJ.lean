/-
  Whole walks along the border of a face, of the model and of the program.
-/
import Derived.Test.YtepacoacalhdcaaGreatG5
import Derived.WalkMore
import Derived.ScopeJumps
namespace Go.Proofs.YtepacoacalhdcaaGreat
open Go.RowKit
set_option linter.unusedVariables false
set_option linter.unusedSimpArgs false


def sliceLen : Value → Nat
  | .slice _ n _ => n
  | _ => 0

theorem sliceLen_ints {w : World} {B : Nat} {v : Value} {xs : List Int} (h : Ints w B v xs) : sliceLen v = xs.length := by
  obtain ⟨A, c, rfl, _, _⟩ := h.form
  rfl

set_option maxRecDepth 100000 in
set_option maxHeartbeats 1000000 in
theorem implWalkN (ns ls : List Nd) (vn vl : Value) (d : Nat) (w : World) (hn : Prs w vn ns) (hl : Prs w vl ls) (hw : winB ns ls = true) (hd : d < 2 * ls.length) :
    Calls Tryz.prog 174 #[.agg #[vn, vl], .int .i64 d] w (IntsNew (walkN ns ls d) w) := by
  have HN := Lib.hid hn
  have HL := Lib.hid hl
  obtain ⟨A, c, rfl⟩ := prs_form2 hn
  obtain ⟨A2, c2, rfl⟩ := prs_form2 hl
  clear hn hl
  have H0 := Lib.hid (held_pair w (.slice A ns.length c) (.slice A2 ls.length c2) 96)
  obtain ⟨i0, hi, hz0, hz1, hz2⟩ := info_parts infoInt
  have HI := Lib.hid (And.intro hi (And.intro hz0 (And.intro hz1 hz2))); clear hi hz0 hz1 hz2
  have h20 := ((winB_iff ns ls).1 hw).1.2
  obtain ⟨p0, p1, p2, p3⟩ := perN_spec hw hd
  have HT := Lib.hid (fun (q : Nat) w h1 h2 (h : q < 2 * ls.length) => implNextN ns ls (.slice A ns.length c) (.slice A2 ls.length c2) q w h1 h2 hw h)
  unfold IntIs at HT
  have HLT := Lib.hid (itN_lt (nx_lt hw) hd)
  have HR := Lib.hid (show walkN ns ls d = wkL ns ls d (perN ns ls d) from rfl)
  have HLN := Lib.hid (wkL_len ns ls d)
  have HST := Lib.hid (wkL_succ ns ls d)
  have HZ := Lib.hid (show wkL ns ls d 0 = [] from rfl)
  have HIT := Lib.hid (fun k => show nxN ns ls (itN (nxN ns ls) k d) = itN (nxN ns ls) (k + 1) d from rfl)
  have HI0 := Lib.hid (show itN (nxN ns ls) 0 d = d from rfl)
  have HP2 := Lib.hid p2
  have HP3 := Lib.hid p3
  clear p2 p3 hw hd
  generalize walkN ns ls d = r at *
  generalize wkL ns ls d = wk at *
  generalize perN ns ls d = per at *
  generalize nxN ns ls = nx at *
  generalize itN nx = it at *
  go_enter Tryz.func174, Tryz.ntmps174
  go_wp2_with fail
  refine wp_scope_jumps 0 (fun a' w' => ∃ (m : Nat) (v u7 u8 u9 u10 u11 u12 u13 u14 u15 u16 u17 u18 : Value), m < per ∧ Ints w' (w.heap.size + 1) v (wk m) ∧ Held w w' [(w.heap.size, 0, .slice A ns.length c), (w.heap.size, 1, .slice A2 ls.length c2)] ∧ a' = { tmps := #[.agg #[.slice A ns.length c, .slice A2 ls.length c2], .int .i64 d, .pointer (some ⟨w.heap.size, 0, none⟩), undef, .slice none 0 0, v, .int .i64 (it m d : Nat), u7, u8, u9, u10, u11, u12, u13, u14, u15, u16, u17, u18, undef], defers := [] }) (fun a' _ => per - sliceLen (a'.tmps.getD 5 undef)) (by rfl) ?_ ?_
  · go_wp2_with fail
    go_step3
    have H1 := Lib.hid (H0.out.alloc (.cells #[] 3))
    have HOWN := Lib.hid (show Ints (((w.alloc (.cells #[.slice A ns.length c, .slice A2 ls.length c2] 96))).alloc (.cells #[] 3)) (w.heap.size + 1) _ (wk 0) from by rw [HZ.out]; exact Ints.made _ _ _ (by simp) (Nat.le_refl _))
    generalize ((w.alloc (.cells #[.slice A ns.length c, .slice A2 ls.length c2] 96))).alloc (.cells #[] 3) = w0 at *
    obtain ⟨x0, x1, _⟩ := H1.out.1
    have HIT0 := HIT.out 0
    have HST0 := HST.out 0
    rw [HI0.out] at HIT0 HST0
    have HTq := Lib.hid (fun w h1 h2 => HT.out d w h1 h2 (by have := HLT.out 0; rw [HI0.out] at this; exact this))
    rw [HIT0] at HTq
    clear HIT0
    have HS := Lib.hid HST0; clear HST0
    have HV := Lib.hid (sliceLen_ints HOWN.out)
    have hll := Nat.le_of_eq (HLN.out 0)
    have HNE := Lib.hid (HP3.out (0 + 1) (by omega))
    have HEQ := Lib.hid (show 0 + 1 = per → it (0 + 1) d = d from fun h => by rw [h]; exact HP2.out)
    have HLM := Lib.hid (HLN.out 0)
    have HLM2 := Lib.hid (HLN.out (0 + 1))
    have hsz1 : w.heap.size + 1 ≤ _ := H1.out.2.1.1
    generalize hq2 : it (0 + 1) d = q2 at *
    have HQ2 := Lib.hid hq2; clear hq2
    obtain ⟨hi, hz0, hzz1, hzz2⟩ := HI.out
    go_wp2_with (at_builtin; refine wpList_append_own _ rfl _ _ 27 rfl (w.heap.size + 1) 3 i0 (.int .i64 0) 1 8 Tryz.underlying27 hi hz0 hzz1 hzz2 rfl (by decide) _ _ _ rfl (World.ownsRow.alloc HOWN.out _) ⟨_, 0, none⟩ 1 1 [.int .i64 d] rfl rfl ?c1 ?c2 ?c3 ?c4 ?c5 ?_)
    case c1 => exact cell_one_new _ _ _
    case c2 => simp [Value.oneCell']
    case c3 => unfold maxLen; omega
    case c4 => omega
    case c5 => simp <;> omega
    intro v' w2 hown hgrow _
    have H2 := Lib.hid (H1.out.stepB (B := w.heap.size + 1) ⟨Nat.lt_succ_self _, Nat.lt_succ_self _, trivial⟩ (grown_below HOWN.out hsz1 hgrow) (Nat.le_succ _))
    have HO2 := Lib.hid (Ints.more hown); clear hown hgrow
    obtain ⟨x0, x1, _⟩ := H2.out.1
    go_wp2_with fail
    refine (HTq.out _ (HN.out.step H2.out.below) (HL.out.step H2.out.below)).mono ?_
    rintro e w3 ⟨rfl, hb⟩
    have H3 := Lib.hid (H2.out.step hb)
    have HO3 := Lib.hid (HO2.out.step hb); clear hb
    clear x0 x1
    by_cases hl : 0 + 1 < per
    · have hne := HNE.out hl
      have g : ((q2 : Int) == (d : Int)) = false := by rw [beq_eq_false_iff_ne]; omega
      have HV3 := Lib.hid (sliceLen_ints HO3.out)
      go_wp2_with fail
      go_step3
      exact ⟨rfl, 0 + 1, _, _, _, _, _, _, _, _, _, _, _, _, _, hl, by rw [HS.out]; exact HO3.out, H3.out, by rw [HQ2.out]⟩
    · have hpe : 0 + 1 = per := by omega
      have hqd := HEQ.out hpe
      have HP := Lib.hid hpe; clear hpe
      have g : ((q2 : Int) == (d : Int)) = true := by simp [hqd]
      go_wp2_with fail
      simp only [Exit.jump]
      go_ret
      exact ⟨_, rfl, by rw [HR.out, ← HP.out, HS.out]; exact HO3.out.mono (Nat.le_succ _), H3.out.below⟩
  · rintro a' w' ⟨m, v, u7, u8, u9, u10, u11, u12, u13, u14, u15, u16, u17, u18, hm, hown, hh, rfl⟩
    have HOWN := Lib.hid hown; clear hown
    have H1 := Lib.hid hh; clear hh
    clear H0
    obtain ⟨x0, x1, _⟩ := H1.out.1
    have HTq := Lib.hid (fun w h1 h2 => HT.out (it m d) w h1 h2 (HLT.out m))
    rw [HIT.out m] at HTq
    have HV := Lib.hid (sliceLen_ints HOWN.out)
    have hll := Nat.le_of_eq (HLN.out m)
    have HS := Lib.hid (HST.out m)
    have HNE := Lib.hid (HP3.out (m + 1) (by omega))
    have HEQ := Lib.hid (show m + 1 = per → it (m + 1) d = d from fun h => by rw [h]; exact HP2.out)
    have HLM := Lib.hid (HLN.out m)
    have HLM2 := Lib.hid (HLN.out (m + 1))
    have hsz1 : w.heap.size + 1 ≤ _ := H1.out.2.1.1
    generalize hq2 : it (m + 1) d = q2 at *
    have HQ2 := Lib.hid hq2; clear hq2
    generalize it m d = q at *
    obtain ⟨hi, hz0, hzz1, hzz2⟩ := HI.out
    go_wp2_with (at_builtin; refine wpList_append_own _ rfl _ _ 27 rfl (w.heap.size + 1) 3 i0 (.int .i64 0) 1 8 Tryz.underlying27 hi hz0 hzz1 hzz2 rfl (by decide) _ _ _ rfl (World.ownsRow.alloc HOWN.out _) ⟨_, 0, none⟩ 1 1 [.int .i64 q] rfl rfl ?c1 ?c2 ?c3 ?c4 ?c5 ?_)
    case c1 => exact cell_one_new _ _ _
    case c2 => simp [Value.oneCell']
    case c3 => unfold maxLen; omega
    case c4 => omega
    case c5 => simp <;> omega
    intro v' w2 hown hgrow _
    have H2 := Lib.hid (H1.out.stepB (B := w.heap.size + 1) ⟨Nat.lt_succ_self _, Nat.lt_succ_self _, trivial⟩ (grown_below HOWN.out hsz1 hgrow) (Nat.le_succ _))
    have HO2 := Lib.hid (Ints.more hown); clear hown hgrow
    obtain ⟨x0, x1, _⟩ := H2.out.1
    go_wp2_with fail
    refine (HTq.out _ (HN.out.step H2.out.below) (HL.out.step H2.out.below)).mono ?_
    rintro e w3 ⟨rfl, hb⟩
    have H3 := Lib.hid (H2.out.step hb)
    have HO3 := Lib.hid (HO2.out.step hb); clear hb
    clear x0 x1
    by_cases hl : m + 1 < per
    · have hne := HNE.out hl
      have g : ((q2 : Int) == (d : Int)) = false := by rw [beq_eq_false_iff_ne]; omega
      have HV3 := Lib.hid (sliceLen_ints HO3.out)
      go_wp2_with fail
      go_step3
      exact ⟨rfl, ⟨m + 1, _, _, _, _, _, _, _, _, _, _, _, _, _, hl, by rw [HS.out]; exact HO3.out, H3.out, by rw [HQ2.out]⟩, by simp; rw [HV3.out, HV.out, ← HS.out, HLM.out, HLM2.out]; omega⟩
    · have hpe : m + 1 = per := by omega
      have hqd := HEQ.out hpe
      have HP := Lib.hid hpe; clear hpe
      have g : ((q2 : Int) == (d : Int)) = true := by simp [hqd]
      go_wp2_with fail
      simp only [Exit.jump]
      go_ret
      exact ⟨_, rfl, by rw [HR.out, ← HP.out, HS.out]; exact HO3.out.mono (Nat.le_succ _), H3.out.below⟩

set_option maxRecDepth 100000 in
set_option maxHeartbeats 1000000 in
theorem specWalkN (ns ls : List Nd) (vn vl : Value) (d : Nat) (w : World) (hn : Prs w vn ns) (hl : Prs w vl ls) (hw : winB ns ls = true) (hd : d < 2 * ls.length) :
    Calls Tryz.prog 133 #[.agg #[vn, vl], .int .i64 d] w (IntsNew (walkN ns ls d) w) := by
  have HN := Lib.hid hn
  have HL := Lib.hid hl
  obtain ⟨A, c, rfl⟩ := prs_form2 hn
  obtain ⟨A2, c2, rfl⟩ := prs_form2 hl
  clear hn hl
  have H0 := Lib.hid (held_pair w (.slice A ns.length c) (.slice A2 ls.length c2) 32)
  obtain ⟨i0, hi, hz0, hz1, hz2⟩ := info_parts infoInt
  have HI := Lib.hid (And.intro hi (And.intro hz0 (And.intro hz1 hz2))); clear hi hz0 hz1 hz2
  have h20 := ((winB_iff ns ls).1 hw).1.2
  obtain ⟨p0, p1, p2, p3⟩ := perN_spec hw hd
  have HT := Lib.hid (fun (q : Nat) w h1 h2 (h : q < 2 * ls.length) => specNextN ns ls (.slice A ns.length c) (.slice A2 ls.length c2) q w h1 h2 hw h)
  unfold IntIs at HT
  have HLT := Lib.hid (itN_lt (nx_lt hw) hd)
  have HR := Lib.hid (show walkN ns ls d = wkL ns ls d (perN ns ls d) from rfl)
  have HLN := Lib.hid (wkL_len ns ls d)
  have HST := Lib.hid (wkL_succ ns ls d)
  have HZ := Lib.hid (show wkL ns ls d 0 = [] from rfl)
  have HIT := Lib.hid (fun k => show nxN ns ls (itN (nxN ns ls) k d) = itN (nxN ns ls) (k + 1) d from rfl)
  have HI0 := Lib.hid (show itN (nxN ns ls) 0 d = d from rfl)
  have HP2 := Lib.hid p2
  have HP3 := Lib.hid p3
  clear p2 p3 hw hd
  generalize walkN ns ls d = r at *
  generalize wkL ns ls d = wk at *
  generalize perN ns ls d = per at *
  generalize nxN ns ls = nx at *
  generalize itN nx = it at *
  go_enter Tryz.func133, Tryz.ntmps133
  go_wp2_with fail
  have HO0 := Lib.hid (Ints.lit (w.alloc (.cells #[.slice A ns.length c, .slice A2 ls.length c2] 32)) (w.heap.size + 1) (w.heap.size + 1) (by simp) (Nat.le_refl _) [(d : Int)] (by simp) _ rfl)
  have HT0 := Lib.hid (fun w h1 h2 => HT.out d w h1 h2 (by have := HLT.out 0; rw [HI0.out] at this; exact this))
  have H1 := Lib.hid (H0.out.alloc (.cells #[.int .i64 d] 3))
  refine (HT0.out _ (HN.out.step H1.out.below) (HL.out.step H1.out.below)).mono ?_
  rintro e w1 ⟨rfl, hb⟩
  have H2 := Lib.hid (H1.out.step hb)
  have HO2 := Lib.hid (HO0.out.step hb); clear hb
  clear H0 H1 HO0
  go_wp2_with fail
  go_loopw [5, 6] (fun v i wr => ∃ m : Nat, 0 < m ∧ m ≤ per ∧ i = .int .i64 (it m d : Nat) ∧ Ints wr (w.heap.size + 1) v (wk m) ∧ Held w wr [(w.heap.size, 0, .slice A ns.length c), (w.heap.size, 1, .slice A2 ls.length c2)]) (fun v _ _ => per - sliceLen v)
  case atStart => exact ⟨1, by omega, by omega, by rw [← HIT.out 0, HI0.out], by rw [HST.out 0, HZ.out, HI0.out]; exact HO2.out, H2.out⟩
  case round =>
    clear H2 HO2
    obtain ⟨m, h0, hm, rfl, hown, hh⟩ := hrel
    have HV := Lib.hid (sliceLen_ints hown)
    have HOWN := Lib.hid hown; clear hown
    have H1 := Lib.hid hh; clear hh
    obtain ⟨x0, x1, _⟩ := H1.out.1
    have hll := Nat.le_of_eq (HLN.out m)
    have hsz1 : w.heap.size + 1 ≤ _ := H1.out.2.1.1
    have HTq := Lib.hid (fun w h1 h2 => HT.out (it m d) w h1 h2 (HLT.out m))
    rw [HIT.out m] at HTq
    have HS := Lib.hid (HST.out m)
    have HNE := Lib.hid (HP3.out m h0)
    have HEQ := Lib.hid (show m = per → it m d = d from fun h => by rw [h]; exact HP2.out)
    have HLM := Lib.hid (HLN.out m)
    have HLM2 := Lib.hid (HLN.out (m + 1))
    generalize hq2 : it (m + 1) d = q2 at *
    have HQ2 := Lib.hid hq2; clear hq2
    generalize it m d = q at *
    by_cases hl : m < per
    · have hne := HNE.out hl
      have g : ((q : Int) == (d : Int)) = false := by rw [beq_eq_false_iff_ne]; omega
      obtain ⟨hi, hz0, hzz1, hzz2⟩ := HI.out
      go_wp2_with (at_builtin; refine wpList_append_own _ rfl _ _ 27 rfl (w.heap.size + 1) 3 i0 (.int .i64 0) 1 8 Tryz.underlying27 hi hz0 hzz1 hzz2 rfl (by decide) _ _ _ rfl (World.ownsRow.alloc HOWN.out _) ⟨_, 0, none⟩ 1 1 [.int .i64 q] rfl rfl ?c1 ?c2 ?c3 ?c4 ?c5 ?_)
      case c1 => exact cell_one_new _ _ _
      case c2 => simp [Value.oneCell']
      case c3 => unfold maxLen; omega
      case c4 => omega
      case c5 => simp <;> omega
      intro v' w2 hown hgrow _
      have H2 := Lib.hid (H1.out.stepB (B := w.heap.size + 1) ⟨Nat.lt_succ_self _, Nat.lt_succ_self _, trivial⟩ (grown_below HOWN.out hsz1 hgrow) (Nat.le_succ _))
      have HO2 := Lib.hid (Ints.more hown); clear hown hgrow
      clear x0 x1
      obtain ⟨x0, x1, _⟩ := H2.out.1
      go_wp2_with fail
      refine (HTq.out _ (HN.out.step H2.out.below) (HL.out.step H2.out.below)).mono ?_
      rintro e w3 ⟨rfl, hb⟩
      have H3 := Lib.hid (H2.out.step hb)
      have HO3 := Lib.hid (HO2.out.step hb); clear hb
      clear x0 x1
      have HV3 := Lib.hid (sliceLen_ints HO3.out)
      go_wp2_with fail
      exact ⟨⟨m + 1, by omega, by omega, by rw [HQ2.out], by rw [HS.out]; exact HO3.out, H3.out⟩, by rw [HV3.out, HV.out, ← HS.out, HLM.out, HLM2.out]; omega⟩
    · have hpe : m = per := by omega
      have hqd := HEQ.out hpe
      have HP := Lib.hid hpe; clear hpe
      have g : ((q : Int) == (d : Int)) = true := by simp [hqd]
      go_wp2_with fail
      go_ret
      exact ⟨_, rfl, by rw [HR.out, ← HP.out]; exact HOWN.out.mono (Nat.le_succ _), H1.out.below⟩

end Go.Proofs.YtepacoacalhdcaaGreat
