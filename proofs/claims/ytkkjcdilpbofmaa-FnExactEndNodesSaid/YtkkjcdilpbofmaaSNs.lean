/-
  StraightNodes, of the model and of the program.
-/
import Derived.Test.YtkkjcdilpbofmaaStr
namespace Go.Proofs.Ytkkjcdilpbofmaa
open Go.RowKit
set_option linter.unusedVariables false
set_option linter.unusedSimpArgs false

/-- The numbers before n at which p holds. -/
def fltL (p : Int → Bool) : Nat → List Int
  | 0 => []
  | n + 1 => if p n = true then fltL p n ++ [(n : Int)] else fltL p n
theorem fltL_len (p : Int → Bool) : ∀ n, (fltL p n).length ≤ n
  | 0 => Nat.le_refl _
  | n + 1 => by
    have := fltL_len p n
    unfold fltL
    split
    · simp; omega
    · omega
theorem fltL_none (p : Int → Bool) (h : ∀ k, p k = false) : ∀ n, fltL p n = []
  | 0 => rfl
  | n + 1 => by
    unfold fltL
    rw [h, fltL_none p h n]
    simp
theorem strB_has {ns ls : List Nd} {k : Int} (h : strB ns ls k = true) : hasB ns ls k = true := by
  by_cases h2 : (atsI ns ls k).length = 2
  · obtain ⟨_, _, _, _, _, _, _, hh, _⟩ := str_two h2; exact hh
  · rw [str_no h2] at h; cases h
def strsI (ns ls : List Nd) : List Int := fltL (strB ns ls) ns.length
theorem strsI_len (ns ls : List Nd) : (strsI ns ls).length ≤ 20 := by
  by_cases h : winB ns ls = true
  · have := fltL_len (strB ns ls) ns.length
    have := ((winB_iff ns ls).1 h).1.1.2
    unfold strsI; omega
  · unfold strsI
    rw [fltL_none _ (fun k => by
      by_cases hk : strB ns ls k = true
      · obtain ⟨_, _, _, hw, _⟩ := hasB_nat (strB_has hk); exact absurd hw h
      · simpa using hk)]
    simp

set_option maxRecDepth 100000 in
theorem implStrs (ns ls : List Nd) (vn vl : Value) (w : World) (hn : Prs w vn ns) (hl : Prs w vl ls) :
    Calls Try.prog 38 #[.agg #[vn, vl]] w (IntsNew (strsI ns ls) w) := by
  have hlen := hn.len
  have HN := Lib.hid hn
  have HL := Lib.hid hl
  obtain ⟨A, c, rfl⟩ := prs_form2 hn
  obtain ⟨A2, c2, rfl⟩ := prs_form2 hl
  clear hn hl
  obtain ⟨i0, hi, hz0, hz1, hz2⟩ := info_parts infoInt
  have HI := Lib.hid (And.intro hi (And.intro hz0 (And.intro hz1 hz2))); clear hi hz0 hz1 hz2
  have H0 := Lib.hid (held_pair w (.slice A ns.length c) (.slice A2 ls.length c2) 38)
  have HA := Lib.hid (fun (m : Nat) w h1 h2 => implStr ns ls (.slice A ns.length c) (.slice A2 ls.length c2) m w h1 h2)
  have HR := Lib.hid (show strsI ns ls = fltL (strB ns ls) ns.length from rfl)
  have HB12 := Lib.hid (fun (m : Nat) (h : strB ns ls m = true) => (show ns.length ≤ 12 from by obtain ⟨_, _, _, _, h, _⟩ := hasB_nat (strB_has h); exact h))
  have HST := Lib.hid (fun n => (show fltL (strB ns ls) (n + 1) = if strB ns ls n = true then fltL (strB ns ls) n ++ [(n : Int)] else fltL (strB ns ls) n from rfl))
  generalize strsI ns ls = r at *
  generalize strB ns ls = p at *
  go_enter Try.func38, Try.ntmps38
  go_wp2_with fail
  go_loopw [3, 9] (fun v i wr => ∃ m : Nat, m ≤ ns.length ∧ i = .int .i64 m ∧ Ints wr (w.heap.size + 1) v (fltL p m) ∧ Held w wr [(w.heap.size, 0, .slice A ns.length c), (w.heap.size, 1, .slice A2 ls.length c2)]) (fun _ i _ => ns.length - (intOf i).toNat)
  case atStart => exact ⟨0, Nat.zero_le _, rfl, Ints.made _ _ _ (by simp) (Nat.le_refl _), H0.out.alloc _⟩
  case round =>
    clear H0
    obtain ⟨m, hm, rfl, hown, hh⟩ := hrel
    have HOWN := Lib.hid hown; clear hown
    have H1 := Lib.hid hh; clear hh
    obtain ⟨x0, x1, _⟩ := H1.out.1
    by_cases hlt : m < ns.length
    · have HS := Lib.hid (HST.out m)
      have hll := fltL_len p m
      have HC := Lib.hid (fun w h1 h2 => HA.out m w h1 h2)
      have H12 := Lib.hid (HB12.out m)
      have hz1 : (m : Int) < (ns.length : Int) := by omega
      have hz2 : (0 : Int) ≤ m := by omega
      generalize p m = d at *
      cases d
      · go_wp2_with fail
        refine (HC.out _ (HN.out.step H1.out.below) (HL.out.step H1.out.below)).mono ?_
        rintro e w1 ⟨rfl, hb1⟩
        have HO1 := Lib.hid (HOWN.out.step hb1)
        have H3 := Lib.hid (H1.out.step hb1)
        clear hb1 x0 x1
        go_wp2_with fail
        exact ⟨⟨m + 1, by omega, by go_num, by rw [HS.out, if_neg (by simp)]; exact HO1.out, H3.out⟩, by simp [intOf]; omega⟩
      · have h12 := H12.out (by trivial)
        go_wp2_with fail
        refine (HC.out _ (HN.out.step H1.out.below) (HL.out.step H1.out.below)).mono ?_
        rintro e w1 ⟨rfl, hb1⟩
        have HO1 := Lib.hid (HOWN.out.step hb1)
        have H3 := Lib.hid (H1.out.step hb1)
        clear hb1 x0 x1
        have hsz1 := H3.out.2.1.1
        have hsz2 := hsz1
        obtain ⟨hi, hz0, hz1, hz2⟩ := HI.out
        go_wp2_with (at_builtin; refine wpList_append_own _ rfl _ _ 24 rfl (w.heap.size + 1) 3 i0 (.int .i64 0) 1 8 Try.underlying24 hi hz0 hz1 hz2 rfl (by decide) _ _ _ rfl (World.ownsRow.alloc HO1.out _) ⟨w1.heap.size, 0, none⟩ 1 1 [.int .i64 m] rfl rfl ?c1 ?c2 ?c3 ?c4 ?c5 ?_)
        case c1 => exact cell_one_new _ _ _
        case c2 => simp [Value.oneCell']
        case c3 => unfold maxLen; omega
        case c4 => omega
        case c5 => simp; omega
        intro v' w2 hown hgrow _
        have H4 := Lib.hid (H3.out.stepB (B := w.heap.size + 1) ⟨Nat.lt_succ_self _, Nat.lt_succ_self _, trivial⟩ (grown_below HO1.out hsz1 hgrow) (Nat.le_succ _))
        have HO2 := Lib.hid (Ints.more hown); clear hown hgrow
        go_wp2_with fail
        exact ⟨⟨m + 1, by omega, by go_num, by rw [HS.out, if_pos trivial]; exact HO2.out, H4.out⟩, by simp [intOf]; omega⟩
    · obtain rfl : m = ns.length := by omega
      go_wp2_with fail
      go_ret
      exact ⟨_, rfl, by rw [HR.out]; exact HOWN.out.mono (by omega), H1.out.below⟩

set_option maxRecDepth 100000 in
theorem specStrs (ns ls : List Nd) (vn vl : Value) (w : World) (hn : Prs w vn ns) (hl : Prs w vl ls) :
    Calls Try.prog 37 #[.agg #[vn, vl]] w (IntsNew (strsI ns ls) w) := by
  have hlen := hn.len
  have HN := Lib.hid hn
  have HL := Lib.hid hl
  obtain ⟨A, c, rfl⟩ := prs_form2 hn
  obtain ⟨A2, c2, rfl⟩ := prs_form2 hl
  clear hn hl
  obtain ⟨i0, hi, hz0, hz1, hz2⟩ := info_parts infoInt
  have HI := Lib.hid (And.intro hi (And.intro hz0 (And.intro hz1 hz2))); clear hi hz0 hz1 hz2
  have H0 := Lib.hid (held_pair w (.slice A ns.length c) (.slice A2 ls.length c2) 38)
  have HA := Lib.hid (fun (m : Nat) w h1 h2 => specStr ns ls (.slice A ns.length c) (.slice A2 ls.length c2) m w h1 h2)
  have HR := Lib.hid (show strsI ns ls = fltL (strB ns ls) ns.length from rfl)
  have HB12 := Lib.hid (fun (m : Nat) (h : strB ns ls m = true) => (show ns.length ≤ 12 from by obtain ⟨_, _, _, _, h, _⟩ := hasB_nat (strB_has h); exact h))
  have HST := Lib.hid (fun n => (show fltL (strB ns ls) (n + 1) = if strB ns ls n = true then fltL (strB ns ls) n ++ [(n : Int)] else fltL (strB ns ls) n from rfl))
  generalize strsI ns ls = r at *
  generalize strB ns ls = p at *
  go_enter Try.func37, Try.ntmps37
  go_wp2_with fail
  go_loopw [3, 4] (fun v i wr => ∃ m : Nat, m ≤ ns.length ∧ i = .int .i64 m ∧ Ints wr (w.heap.size + 1) v (fltL p m) ∧ Held w wr [(w.heap.size, 0, .slice A ns.length c), (w.heap.size, 1, .slice A2 ls.length c2)]) (fun _ i _ => ns.length - (intOf i).toNat)
  case atStart => exact ⟨0, Nat.zero_le _, rfl, Ints.made _ _ _ (by simp) (Nat.le_refl _), H0.out.alloc _⟩
  case round =>
    clear H0
    obtain ⟨m, hm, rfl, hown, hh⟩ := hrel
    have HOWN := Lib.hid hown; clear hown
    have H1 := Lib.hid hh; clear hh
    obtain ⟨x0, x1, _⟩ := H1.out.1
    by_cases hlt : m < ns.length
    · have HS := Lib.hid (HST.out m)
      have hll := fltL_len p m
      have HC := Lib.hid (fun w h1 h2 => HA.out m w h1 h2)
      have H12 := Lib.hid (HB12.out m)
      have hz1 : (m : Int) < (ns.length : Int) := by omega
      have hz2 : (0 : Int) ≤ m := by omega
      generalize p m = d at *
      cases d
      · go_wp2_with fail
        refine (HC.out _ (HN.out.step H1.out.below) (HL.out.step H1.out.below)).mono ?_
        rintro e w1 ⟨rfl, hb1⟩
        have HO1 := Lib.hid (HOWN.out.step hb1)
        have H3 := Lib.hid (H1.out.step hb1)
        clear hb1 x0 x1
        go_wp2_with fail
        exact ⟨⟨m + 1, by omega, by go_num, by rw [HS.out, if_neg (by simp)]; exact HO1.out, H3.out⟩, by simp [intOf]; omega⟩
      · have h12 := H12.out (by trivial)
        go_wp2_with fail
        refine (HC.out _ (HN.out.step H1.out.below) (HL.out.step H1.out.below)).mono ?_
        rintro e w1 ⟨rfl, hb1⟩
        have HO1 := Lib.hid (HOWN.out.step hb1)
        have H3 := Lib.hid (H1.out.step hb1)
        clear hb1 x0 x1
        have hsz1 := H3.out.2.1.1
        have hsz2 := hsz1
        obtain ⟨hi, hz0, hz1, hz2⟩ := HI.out
        go_wp2_with (at_builtin; refine wpList_append_own _ rfl _ _ 24 rfl (w.heap.size + 1) 3 i0 (.int .i64 0) 1 8 Try.underlying24 hi hz0 hz1 hz2 rfl (by decide) _ _ _ rfl (World.ownsRow.alloc HO1.out _) ⟨w1.heap.size, 0, none⟩ 1 1 [.int .i64 m] rfl rfl ?c1 ?c2 ?c3 ?c4 ?c5 ?_)
        case c1 => exact cell_one_new _ _ _
        case c2 => simp [Value.oneCell']
        case c3 => unfold maxLen; omega
        case c4 => omega
        case c5 => simp; omega
        intro v' w2 hown hgrow _
        have H4 := Lib.hid (H3.out.stepB (B := w.heap.size + 1) ⟨Nat.lt_succ_self _, Nat.lt_succ_self _, trivial⟩ (grown_below HO1.out hsz1 hgrow) (Nat.le_succ _))
        have HO2 := Lib.hid (Ints.more hown); clear hown hgrow
        go_wp2_with fail
        exact ⟨⟨m + 1, by omega, by go_num, by rw [HS.out, if_pos trivial]; exact HO2.out, H4.out⟩, by simp [intOf]; omega⟩
    · obtain rfl : m = ns.length := by omega
      go_wp2_with fail
      go_ret
      exact ⟨_, rfl, by rw [HR.out]; exact HOWN.out.mono (by omega), H1.out.below⟩
end Go.Proofs.Ytkkjcdilpbofmaa
