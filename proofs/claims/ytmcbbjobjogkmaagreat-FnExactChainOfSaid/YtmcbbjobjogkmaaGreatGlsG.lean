/-
  SharedLeads, AreBeside, BesideOf, FaceDegrees, of the program.
-/
import Derived.Test.YtmcbbjobjogkmaaGreatGlsF
namespace Go.Proofs.YtmcbbjobjogkmaaGreat
open Go.RowKit
set_option linter.unusedVariables false
set_option linter.unusedSimpArgs false

theorem g_len (ns ls : List Nd) : (gA ns ls).length = 2 * (gL ns ls).length ∧ (gL ns ls).length ≤ 20 := by
  unfold gA gL
  by_cases hh : wholeB ns ls = true
  · rw [if_pos hh, if_pos hh]
    exact ⟨atW_len ns ls, (whole_win hh).2.2.1⟩
  · rw [if_neg hh, if_neg hh]
    exact ⟨rfl, by simp⟩

noncomputable def sharedW (ns ls : List Nd) (f h : Int) : List Int := fltN (sharedP (gA ns ls) f h) (gL ns ls).length

noncomputable def besB (ns ls : List Nd) (f h : Int) : Bool := decide (f ≠ h) && decide (0 < (sharedW ns ls f h).length)

noncomputable def besW (ns ls : List Nd) (f : Int) : List Int := fltN (fun k => besB ns ls f k) (wF ns ls).length

theorem sharedW_len (ns ls : List Nd) (f h : Int) : (sharedW ns ls f h).length ≤ 20 := by
  have := fltN_len (sharedP (gA ns ls) f h) (gL ns ls).length
  have := (g_len ns ls).2
  unfold sharedW
  omega

set_option maxRecDepth 100000 in
set_option maxHeartbeats 2000000 in
theorem implBesG (v1 v2 v3 v4 : Value) (rs : List (List Int)) (ds : List Int) (ns ls : List Nd) (B B2 : Nat) (f : Int) (w : World) (hn : Prs w v1 ns) (hl : Prs w v2 ls) (hf : Faces w B v3 rs) (ha : Ints w B2 v4 ds) (hk : ds.length = 2 * ls.length) (hd : ls.length ≤ 20) (h40 : rs.length ≤ 40) :
    Calls Tryz.prog 111 #[.agg #[v1, v2, v3, v4], .int .i64 f] w (IntsNew (fltN (fun k => decide (f ≠ (k : Int)) && decide (0 < (fltN (sharedP ds f k) ls.length).length)) rs.length) w) := by
  have HS := Lib.hid (fun (k : Nat) W hb => implBesideG v1 v2 v3 v4 rs ds ns ls B B2 f k W (hn.step hb) (hl.step hb) (hf.step hb) (ha.step hb) hk hd)
  unfold BoolIs at HS
  obtain ⟨A, c, rfl⟩ := prs_form2 hn
  obtain ⟨A2, c2, rfl⟩ := prs_form2 hl
  obtain ⟨A3, c3, rfl⟩ := faces_form hf
  obtain ⟨A4, c4, rfl⟩ := ints_form ha
  have H0 := Lib.hid (heldG w (.slice A ns.length c) (.slice A2 ls.length c2) (.slice A3 rs.length c3) (.slice A4 ds.length c4) 67)
  obtain ⟨i0, hi, hz0, hz1, hz2⟩ := info_parts infoInt
  have HI := Lib.hid (And.intro hi (And.intro hz0 (And.intro hz1 hz2))); clear hi hz0 hz1 hz2
  obtain ⟨p, hp⟩ : ∃ p : Nat → Bool, p = (fun k : Nat => decide (f ≠ (k : Int)) && decide (0 < (fltN (sharedP ds f k) ls.length).length)) := ⟨_, rfl⟩
  rw [← hp]
  have HS := Lib.hid (fun (k : Nat) W hb => (show Calls Tryz.prog 134 _ W (fun e w' => e = .returned (.bool (p k)) ∧ Below W.heap.size W w') from by rw [hp]; exact HS.out k W hb))
  have HU := Lib.hid (fltN_succ p)
  have HLN := Lib.hid (fltN_len p)
  have HZ := Lib.hid (show fltN p 0 = [] from rfl)
  clear hn hl hf ha hk hp hd
  generalize fltN p = X at *
  go_enter Tryz.func111, Tryz.ntmps111
  go_wp2_with fail
  go_loopw [5, 11] (fun v i wr => ∃ m : Nat, m ≤ rs.length ∧ i = .int .i64 m ∧ Ints wr (w.heap.size + 1) v (X m) ∧ Held w wr [(w.heap.size, 0, .slice A ns.length c), (w.heap.size, 1, .slice A2 ls.length c2), (w.heap.size, 2, .slice A3 rs.length c3), (w.heap.size, 3, .slice A4 ds.length c4)]) (fun _ i _ => rs.length - (intOf i).toNat)
  case atStart => exact ⟨0, Nat.zero_le _, rfl, by rw [HZ.out]; exact Ints.made _ _ _ (by simp) (Nat.le_refl _), H0.out.alloc _⟩
  case round =>
    clear H0
    obtain ⟨m, hm, rfl, hown, hh⟩ := hrel
    have HO := Lib.hid hown; clear hown
    have H1 := Lib.hid hh; clear hh
    obtain ⟨x0, x1, x2, x3, _⟩ := H1.out.1
    by_cases hlt : m < rs.length
    · have q1 : (0 : Int) ≤ m := by omega
      have q2 : (m : Int) < (rs.length : Int) := by omega
      have HC := Lib.hid (HS.out m wr H1.out.below)
      have HUM := Lib.hid (HU.out m)
      have hln := HLN.out m
      generalize hpm : p m = b at *
      clear hpm
      go_wp2_with fail
      refine HC.out.mono ?_
      rintro e w2 ⟨rfl, hb⟩
      have H2 := Lib.hid (H1.out.step hb)
      have HO2 := Lib.hid (HO.out.step hb)
      clear hb H1 HO x0 x1 x2 x3
      cases b
      · go_wp2_with fail
        exact ⟨⟨m + 1, by omega, by go_num, by rw [HUM.out]; exact HO2.out, H2.out⟩, by simp [intOf]; omega⟩
      · obtain ⟨hi, hz0, hz1, hz2⟩ := HI.out
        have hsz1 := H2.out.2.1.1
        go_wp2_with (at_builtin; refine wpList_append_own _ rfl _ _ 26 rfl (w.heap.size + 1) 3 i0 (.int .i64 0) 1 8 Tryz.underlying26 hi hz0 hz1 hz2 rfl (by decide) _ _ _ rfl (World.ownsRow.alloc HO2.out _) ⟨_, 0, none⟩ 1 1 [.int .i64 m] rfl rfl ?c1 ?c2 ?c3 ?c4 ?c5 ?_)
        case c1 => exact cell_one_new _ _ _
        case c2 => simp [Value.oneCell']
        case c3 => unfold maxLen; omega
        case c4 => omega
        case c5 => simp <;> omega
        intro v' w5 hown hgrow _
        have H5 := Lib.hid (H2.out.stepB (B := w.heap.size + 1) ⟨Nat.lt_succ_self _, Nat.lt_succ_self _, Nat.lt_succ_self _, Nat.lt_succ_self _, trivial⟩ (grown_below HO2.out hsz1 hgrow) (Nat.le_succ _))
        have HO5 := Lib.hid (Ints.more hown); clear hown hgrow
        go_wp2_with fail
        exact ⟨⟨m + 1, by omega, by go_num, by rw [HUM.out]; exact HO5.out, H5.out⟩, by simp [intOf]; omega⟩
    · obtain rfl : m = rs.length := by omega
      go_wp2_with fail
      go_ret
      exact ⟨_, rfl, HO.out.mono (Nat.le_succ _), H1.out.below⟩

end Go.Proofs.YtmcbbjobjogkmaaGreat
