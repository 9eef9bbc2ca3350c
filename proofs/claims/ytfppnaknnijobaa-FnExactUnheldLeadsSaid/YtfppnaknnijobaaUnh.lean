/-
  The leads that no bar crosses: of the model and of the program.
-/
import Derived.Test.YtfppnaknnijobaaCross
namespace Go.Proofs.Ytfppnaknnijobaa
open Go.RowKit
set_option linter.unusedVariables false
set_option linter.unusedSimpArgs false

noncomputable def unhL (ns ls : List Nd) (xs : List Int) : Nat → List Int
  | 0 => []
  | n + 1 => if crossV ns ls n xs = 0 then unhL ns ls xs n ++ [(n : Int)] else unhL ns ls xs n
theorem unhL_succ (ns ls : List Nd) (xs : List Int) (n : Nat) : unhL ns ls xs (n + 1) = if crossV ns ls n xs = 0 then unhL ns ls xs n ++ [(n : Int)] else unhL ns ls xs n := rfl
theorem unhL_len (ns ls : List Nd) (xs : List Int) : ∀ n, (unhL ns ls xs n).length ≤ n
  | 0 => Nat.le_refl _
  | n + 1 => by
    have := unhL_len ns ls xs n
    rw [unhL_succ]
    split
    · simp; omega
    · omega

set_option maxRecDepth 100000 in
set_option maxHeartbeats 2000000 in
theorem specUnh (ns ls : List Nd) (xs : List Int) (vn vl v : Value) (w : World) (hn : Prs w vn ns) (hl : Prs w vl ls) (hv : Seq w v xs) (h20 : ls.length ≤ 1048576) :
    Calls Try.prog 21 #[.agg #[vn, vl], v] w (IntsNew (unhL ns ls xs ls.length) w) := by
  have HN := Lib.hid hn
  have HL := Lib.hid hl
  have HV := Lib.hid hv
  obtain ⟨A, c, rfl⟩ := prs_form2 hn
  obtain ⟨A2, c2, rfl⟩ := prs_form2 hl
  obtain ⟨A3, c3, rfl⟩ := seq_form2 hv
  clear hn hl hv
  obtain ⟨i0, hi, hz0, hz1, hz2⟩ := info_parts infoInt
  have HI := Lib.hid (And.intro hi (And.intro hz0 (And.intro hz1 hz2))); clear hi hz0 hz1 hz2
  have H0 := Lib.hid (held_pair w (.slice A ns.length c) (.slice A2 ls.length c2) 32)
  have HC := Lib.hid (fun (m : Nat) w h1 h2 h3 => specCrBy ns ls (m : Int) xs (.slice A ns.length c) (.slice A2 ls.length c2) (.slice A3 xs.length c3) w h1 h2 h3)
  unfold IntIs at HC
  have HST := Lib.hid (unhL_succ ns ls xs)
  have HLN := Lib.hid (unhL_len ns ls xs)
  have HZ := Lib.hid (show unhL ns ls xs 0 = [] from rfl)
  generalize unhL ns ls xs = X at *
  generalize hcr : (fun (m : Nat) => crossV ns ls (m : Int) xs) = CR at *
  have HCR := Lib.hid (fun (m : Nat) => (congrFun hcr m : crossV ns ls (m : Int) xs = CR m)); clear hcr
  go_enter Try.func21, Try.ntmps21
  obtain ⟨x0, x1, _⟩ := H0.out.1
  go_wp2_with fail
  clear x0 x1
  go_loopw [5, 6] (fun v i wr => ∃ m : Nat, m ≤ ls.length ∧ i = .int .i64 m ∧ Ints wr (w.heap.size + 1) v (X m) ∧ Held w wr [(w.heap.size, 0, .slice A ns.length c), (w.heap.size, 1, .slice A2 ls.length c2)]) (fun _ i _ => ls.length - (intOf i).toNat)
  case atStart => exact ⟨0, Nat.zero_le _, rfl, by rw [HZ.out]; exact Ints.made _ _ _ (by simp) (Nat.le_refl _), H0.out.alloc _⟩
  case round =>
    clear H0
    obtain ⟨m, hm, rfl, hown, hh⟩ := hrel
    have HOWN := Lib.hid hown; clear hown
    have H1 := Lib.hid hh; clear hh
    obtain ⟨x0, x1, _⟩ := H1.out.1
    by_cases hlt : m < ls.length
    · have HS := Lib.hid (HST.out m)
      have hll := HLN.out m
      have HCM := Lib.hid (fun w h1 h2 h3 => HC.out m w h1 h2 h3)
      rw [HCR.out m] at HS HCM
      generalize CR m = q at *
      have hz1 : (m : Int) < (ls.length : Int) := by omega
      have hz2 : (0 : Int) ≤ m := by omega
      by_cases eq0 : q = 0
      · have g1 : (q == 0) = true := by simpa using eq0
        have EX := Lib.hid eq0; clear eq0
        go_wp2_with fail
        refine (HCM.out _ (HN.out.step H1.out.below) (HL.out.step H1.out.below) (HV.out.step H1.out.below)).mono ?_
        rintro e w1 ⟨rfl, hb1⟩
        have HO1 := Lib.hid (HOWN.out.step hb1)
        have H3 := Lib.hid (H1.out.step hb1)
        clear hb1 x0 x1
        obtain ⟨x0, x1, _⟩ := H3.out.1
        have hsz1 := H3.out.2.1.1
        obtain ⟨hi, hz0, hz1, hz2⟩ := HI.out
        go_wp2_with (at_builtin; refine wpList_append_own _ rfl _ _ 26 rfl (w.heap.size + 1) 3 i0 (.int .i64 0) 1 8 Try.underlying26 hi hz0 hz1 hz2 rfl (by decide) _ _ _ rfl (World.ownsRow.alloc HO1.out _) ⟨w1.heap.size, 0, none⟩ 1 1 [.int .i64 m] rfl rfl ?c1 ?c2 ?c3 ?c4 ?c5 ?_)
        case c1 => exact cell_one_new _ _ _
        case c2 => simp [Value.oneCell']
        case c3 => unfold maxLen; omega
        case c4 => omega
        case c5 => simp; omega
        intro v' w2 hown hgrow _
        have H4 := Lib.hid (H3.out.stepB (B := w.heap.size + 1) ⟨Nat.lt_succ_self _, Nat.lt_succ_self _, trivial⟩ (grown_below HO1.out hsz1 hgrow) (Nat.le_succ _))
        have HO2 := Lib.hid (Ints.more hown); clear hown hgrow
        go_wp2_with fail
        exact ⟨⟨m + 1, by omega, by go_num, by rw [HS.out, if_pos EX.out]; exact HO2.out, H4.out⟩, by simp [intOf]; omega⟩
      · have g1 : (q == 0) = false := by rw [beq_eq_false_iff_ne]; exact eq0
        have EX := Lib.hid eq0; clear eq0
        go_wp2_with fail
        refine (HCM.out _ (HN.out.step H1.out.below) (HL.out.step H1.out.below) (HV.out.step H1.out.below)).mono ?_
        rintro e w1 ⟨rfl, hb1⟩
        have HO1 := Lib.hid (HOWN.out.step hb1)
        have H3 := Lib.hid (H1.out.step hb1)
        clear hb1 x0 x1
        obtain ⟨x0, x1, _⟩ := H3.out.1
        go_wp2_with fail
        exact ⟨⟨m + 1, by omega, by go_num, by rw [HS.out, if_neg EX.out]; exact HO1.out, H3.out⟩, by simp [intOf]; omega⟩
    · obtain rfl : m = ls.length := by omega
      go_wp2_with fail
      go_ret
      exact ⟨_, rfl, HOWN.out.mono (by omega), H1.out.below⟩

set_option maxRecDepth 100000 in
set_option maxHeartbeats 2000000 in
theorem implUnh (ns ls : List Nd) (xs : List Int) (vn vl v : Value) (w : World) (hn : Prs w vn ns) (hl : Prs w vl ls) (hv : Seq w v xs) (h20 : ls.length ≤ 1048576) :
    Calls Try.prog 22 #[.agg #[vn, vl], v] w (IntsNew (unhL ns ls xs ls.length) w) := by
  have HN := Lib.hid hn
  have HL := Lib.hid hl
  have HV := Lib.hid hv
  obtain ⟨A, c, rfl⟩ := prs_form2 hn
  obtain ⟨A2, c2, rfl⟩ := prs_form2 hl
  obtain ⟨A3, c3, rfl⟩ := seq_form2 hv
  clear hn hl hv
  obtain ⟨i0, hi, hz0, hz1, hz2⟩ := info_parts infoInt
  have HI := Lib.hid (And.intro hi (And.intro hz0 (And.intro hz1 hz2))); clear hi hz0 hz1 hz2
  have H0 := Lib.hid (held_pair w (.slice A ns.length c) (.slice A2 ls.length c2) 32)
  have HC := Lib.hid (fun (m : Nat) w h1 h2 h3 => implCrBy ns ls (m : Int) xs (.slice A ns.length c) (.slice A2 ls.length c2) (.slice A3 xs.length c3) w h1 h2 h3)
  unfold IntIs at HC
  have HST := Lib.hid (unhL_succ ns ls xs)
  have HLN := Lib.hid (unhL_len ns ls xs)
  have HZ := Lib.hid (show unhL ns ls xs 0 = [] from rfl)
  generalize unhL ns ls xs = X at *
  generalize hcr : (fun (m : Nat) => crossV ns ls (m : Int) xs) = CR at *
  have HCR := Lib.hid (fun (m : Nat) => (congrFun hcr m : crossV ns ls (m : Int) xs = CR m)); clear hcr
  go_enter Try.func22, Try.ntmps22
  obtain ⟨x0, x1, _⟩ := H0.out.1
  go_wp2_with fail
  clear x0 x1
  go_loopw [5, 11] (fun v i wr => ∃ m : Nat, m ≤ ls.length ∧ i = .int .i64 m ∧ Ints wr (w.heap.size + 1) v (X m) ∧ Held w wr [(w.heap.size, 0, .slice A ns.length c), (w.heap.size, 1, .slice A2 ls.length c2)]) (fun _ i _ => ls.length - (intOf i).toNat)
  case atStart => exact ⟨0, Nat.zero_le _, rfl, by rw [HZ.out]; exact Ints.made _ _ _ (by simp) (Nat.le_refl _), H0.out.alloc _⟩
  case round =>
    clear H0
    obtain ⟨m, hm, rfl, hown, hh⟩ := hrel
    have HOWN := Lib.hid hown; clear hown
    have H1 := Lib.hid hh; clear hh
    obtain ⟨x0, x1, _⟩ := H1.out.1
    by_cases hlt : m < ls.length
    · have HS := Lib.hid (HST.out m)
      have hll := HLN.out m
      have HCM := Lib.hid (fun w h1 h2 h3 => HC.out m w h1 h2 h3)
      rw [HCR.out m] at HS HCM
      generalize CR m = q at *
      have hz1 : (m : Int) < (ls.length : Int) := by omega
      have hz2 : (0 : Int) ≤ m := by omega
      by_cases eq0 : q = 0
      · have g1 : (q == 0) = true := by simpa using eq0
        have EX := Lib.hid eq0; clear eq0
        go_wp2_with fail
        refine (HCM.out _ (HN.out.step H1.out.below) (HL.out.step H1.out.below) (HV.out.step H1.out.below)).mono ?_
        rintro e w1 ⟨rfl, hb1⟩
        have HO1 := Lib.hid (HOWN.out.step hb1)
        have H3 := Lib.hid (H1.out.step hb1)
        clear hb1 x0 x1
        obtain ⟨x0, x1, _⟩ := H3.out.1
        have hsz1 := H3.out.2.1.1
        obtain ⟨hi, hz0, hz1, hz2⟩ := HI.out
        go_wp2_with (at_builtin; refine wpList_append_own _ rfl _ _ 26 rfl (w.heap.size + 1) 3 i0 (.int .i64 0) 1 8 Try.underlying26 hi hz0 hz1 hz2 rfl (by decide) _ _ _ rfl (World.ownsRow.alloc HO1.out _) ⟨w1.heap.size, 0, none⟩ 1 1 [.int .i64 m] rfl rfl ?c1 ?c2 ?c3 ?c4 ?c5 ?_)
        case c1 => exact cell_one_new _ _ _
        case c2 => simp [Value.oneCell']
        case c3 => unfold maxLen; omega
        case c4 => omega
        case c5 => simp; omega
        intro v' w2 hown hgrow _
        have H4 := Lib.hid (H3.out.stepB (B := w.heap.size + 1) ⟨Nat.lt_succ_self _, Nat.lt_succ_self _, trivial⟩ (grown_below HO1.out hsz1 hgrow) (Nat.le_succ _))
        have HO2 := Lib.hid (Ints.more hown); clear hown hgrow
        go_wp2_with fail
        exact ⟨⟨m + 1, by omega, by go_num, by rw [HS.out, if_pos EX.out]; exact HO2.out, H4.out⟩, by simp [intOf]; omega⟩
      · have g1 : (q == 0) = false := by rw [beq_eq_false_iff_ne]; exact eq0
        have EX := Lib.hid eq0; clear eq0
        go_wp2_with fail
        refine (HCM.out _ (HN.out.step H1.out.below) (HL.out.step H1.out.below) (HV.out.step H1.out.below)).mono ?_
        rintro e w1 ⟨rfl, hb1⟩
        have HO1 := Lib.hid (HOWN.out.step hb1)
        have H3 := Lib.hid (H1.out.step hb1)
        clear hb1 x0 x1
        obtain ⟨x0, x1, _⟩ := H3.out.1
        go_wp2_with fail
        exact ⟨⟨m + 1, by omega, by go_num, by rw [HS.out, if_neg EX.out]; exact HO1.out, H3.out⟩, by simp [intOf]; omega⟩
    · obtain rfl : m = ls.length := by omega
      go_wp2_with fail
      go_ret
      exact ⟨_, rfl, HOWN.out.mono (by omega), H1.out.below⟩

end Go.Proofs.Ytfppnaknnijobaa
