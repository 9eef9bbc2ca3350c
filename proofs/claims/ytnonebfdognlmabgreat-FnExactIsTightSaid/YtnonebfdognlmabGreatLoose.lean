/-
  IsLoose, LooseLeads, IsTight, of the program and of the model.
-/
import Derived.Test.YtnonebfdognlmabGreatSid
namespace Go.Proofs.YtnonebfdognlmabGreat
open Go.RowKit
set_option linter.unusedVariables false
set_option linter.unusedSimpArgs false

def looseP (ds : List Int) (k : Nat) : Bool := atZ ds (2 * k) == atZ ds (2 * k + 1)
noncomputable def looseW (ns ls : List Nd) : List Int := fltN (looseP (gA ns ls)) (gL ns ls).length
noncomputable def looseB (ns ls : List Nd) (k : Int) : Bool := sidB ns ls k && looseP (atW ns ls) k.toNat
noncomputable def tightB (ns ls : List Nd) : Bool := wholeB ns ls && decide ((looseW ns ls).length = 0)
theorem looseW_len (ns ls : List Nd) : (looseW ns ls).length ≤ 20 := by
  have := fltN_len (looseP (gA ns ls)) (gL ns ls).length
  have := (g_len ns ls).2
  unfold looseW
  omega
set_option maxRecDepth 100000 in
set_option maxHeartbeats 1000000 in
theorem implIsLooseG (v1 v2 v3 v4 : Value) (rs : List (List Int)) (ds : List Int) (ns ls : List Nd) (B B2 k : Nat) (w : World) (hn : Prs w v1 ns) (hl : Prs w v2 ls) (hf : Faces w B v3 rs) (ha : Ints w B2 v4 ds) (hk : 2 * k + 1 < ds.length) (hd : ds.length ≤ 1000) :
    Calls Tryz.prog 72 #[.agg #[v1, v2, v3, v4], .int .i64 k] w (BoolIs (looseP ds k) w) := by
  have HS := Lib.hid (fun W hb => implSides v1 v2 v3 v4 rs ds ns ls B B2 k W (hn.step hb) (hl.step hb) (hf.step hb) (ha.step hb) hk hd)
  unfold ArrIs at HS
  obtain ⟨A, c, rfl⟩ := prs_form2 hn
  obtain ⟨A2, c2, rfl⟩ := prs_form2 hl
  obtain ⟨A3, c3, rfl⟩ := faces_form hf
  obtain ⟨A4, c4, rfl⟩ := ints_form ha
  have H0 := Lib.hid (heldG w (.slice A ns.length c) (.slice A2 ls.length c2) (.slice A3 rs.length c3) (.slice A4 ds.length c4) 66)
  have HP := Lib.hid (show looseP ds k = (atZ ds (2 * k) == atZ ds (2 * k + 1)) from rfl)
  clear hn hl hf ha hk hd
  generalize looseP ds k = res at *
  generalize atZ ds (2 * k) = za at *
  generalize atZ ds (2 * k + 1) = zb at *
  go_enter Tryz.func72, Tryz.ntmps72
  obtain ⟨x0, x1, x2, x3, _⟩ := H0.out.1
  go_wp2_with fail
  refine (HS.out _ H0.out.below).mono ?_
  rintro e w2 ⟨rfl, hb⟩
  have H2 := Lib.hid (H0.out.step hb); clear hb x0 x1 x2 x3
  go_wp2_with fail
  go_ret
  exact ⟨ret_bool (by rw [HP.out]), H2.out.below.trans ((below_alloc _ _).mono H2.out.below.size)⟩

set_option maxRecDepth 100000 in
set_option maxHeartbeats 1000000 in
theorem implLooseG (v1 v2 v3 v4 : Value) (rs : List (List Int)) (ds : List Int) (ns ls : List Nd) (B B2 : Nat) (w : World) (hn : Prs w v1 ns) (hl : Prs w v2 ls) (hf : Faces w B v3 rs) (ha : Ints w B2 v4 ds) (hk : ds.length = 2 * ls.length) (hd : ls.length ≤ 20) :
    Calls Tryz.prog 75 #[.agg #[v1, v2, v3, v4]] w (IntsNew (fltN (looseP ds) ls.length) w) := by
  have HS := Lib.hid (fun k W hb (hk1 : k < ls.length) => implIsLooseG v1 v2 v3 v4 rs ds ns ls B B2 k W (hn.step hb) (hl.step hb) (hf.step hb) (ha.step hb) (by omega) (by omega))
  unfold BoolIs at HS
  obtain ⟨A, c, rfl⟩ := prs_form2 hn
  obtain ⟨A2, c2, rfl⟩ := prs_form2 hl
  obtain ⟨A3, c3, rfl⟩ := faces_form hf
  obtain ⟨A4, c4, rfl⟩ := ints_form ha
  have H0 := Lib.hid (heldG w (.slice A ns.length c) (.slice A2 ls.length c2) (.slice A3 rs.length c3) (.slice A4 ds.length c4) 66)
  obtain ⟨i0, hi, hz0, hz1, hz2⟩ := info_parts infoInt
  have HI := Lib.hid (And.intro hi (And.intro hz0 (And.intro hz1 hz2))); clear hi hz0 hz1 hz2
  have HU := Lib.hid (fltN_succ (looseP ds))
  have HLN := Lib.hid (fltN_len (looseP ds))
  have HZ := Lib.hid (show fltN (looseP ds) 0 = [] from rfl)
  clear hn hl hf ha hk
  generalize fltN (looseP ds) = X at *
  generalize looseP ds = p at *
  go_enter Tryz.func75, Tryz.ntmps75
  go_wp2_with fail
  go_loopw [3, 10] (fun v i wr => ∃ m : Nat, m ≤ ls.length ∧ i = .int .i64 m ∧ Ints wr (w.heap.size + 1) v (X m) ∧ Held w wr [(w.heap.size, 0, .slice A ns.length c), (w.heap.size, 1, .slice A2 ls.length c2), (w.heap.size, 2, .slice A3 rs.length c3), (w.heap.size, 3, .slice A4 ds.length c4)]) (fun _ i _ => ls.length - (intOf i).toNat)
  case atStart => exact ⟨0, Nat.zero_le _, rfl, by rw [HZ.out]; exact Ints.made _ _ _ (by simp) (Nat.le_refl _), H0.out.alloc _⟩
  case round =>
    clear H0
    obtain ⟨m, hm, rfl, hown, hh⟩ := hrel
    have HO := Lib.hid hown; clear hown
    have H1 := Lib.hid hh; clear hh
    obtain ⟨x0, x1, x2, x3, _⟩ := H1.out.1
    by_cases hlt : m < ls.length
    · have q1 : (0 : Int) ≤ m := by omega
      have q2 : (m : Int) < (ls.length : Int) := by omega
      have HC := Lib.hid (HS.out m wr H1.out.below hlt)
      have HUM := Lib.hid (HU.out m)
      have hln := HLN.out m
      generalize hpm : p m = b at *
      clear hpm
      go_wp2_with fail
      refine HC.out.mono ?_
      rintro e w2 ⟨rfl, hb⟩
      have H2 := Lib.hid (H1.out.step hb)
      have HO2 := Lib.hid (HO.out.step hb)
      clear hb H1 HO x0 x1 x2 x3
      cases b
      · go_wp2_with fail
        exact ⟨⟨m + 1, by omega, by go_num, by rw [HUM.out]; exact HO2.out, H2.out⟩, by simp [intOf]; omega⟩
      · obtain ⟨hi, hz0, hz1, hz2⟩ := HI.out
        have hsz1 := H2.out.2.1.1
        go_wp2_with (at_builtin; refine wpList_append_own _ rfl _ _ 27 rfl (w.heap.size + 1) 3 i0 (.int .i64 0) 1 8 Tryz.underlying27 hi hz0 hz1 hz2 rfl (by decide) _ _ _ rfl (World.ownsRow.alloc HO2.out _) ⟨_, 0, none⟩ 1 1 [.int .i64 m] rfl rfl ?c1 ?c2 ?c3 ?c4 ?c5 ?_)
        case c1 => exact cell_one_new _ _ _
        case c2 => simp [Value.oneCell']
        case c3 => unfold maxLen; omega
        case c4 => omega
        case c5 => simp <;> omega
        intro v' w5 hown hgrow _
        have H5 := Lib.hid (H2.out.stepB (B := w.heap.size + 1) ⟨Nat.lt_succ_self _, Nat.lt_succ_self _, Nat.lt_succ_self _, Nat.lt_succ_self _, trivial⟩ (grown_below HO2.out hsz1 hgrow) (Nat.le_succ _))
        have HO5 := Lib.hid (Ints.more hown); clear hown hgrow
        go_wp2_with fail
        exact ⟨⟨m + 1, by omega, by go_num, by rw [HUM.out]; exact HO5.out, H5.out⟩, by simp [intOf]; omega⟩
    · obtain rfl : m = ls.length := by omega
      go_wp2_with fail
      go_ret
      exact ⟨_, rfl, HO.out.mono (Nat.le_succ _), H1.out.below⟩

set_option maxRecDepth 100000 in
theorem implLooseLeads (ns ls : List Nd) (vn vl : Value) (w : World) (hn : Prs w vn ns) (hl : Prs w vl ls) :
    Calls Tryz.prog 40 #[.agg #[vn, vl]] w (IntsNew (looseW ns ls) w) := by
  have HS := Lib.hid (fun v1 v2 v3 v4 B B2 w h1 h2 h3 h4 => implLooseG v1 v2 v3 v4 (wF ns ls) (gA ns ls) (gN ns ls) (gL ns ls) B B2 w h1 h2 h3 h4 (g_len ns ls).1 (g_len ns ls).2)
  unfold IntsNew at HS
  have HN := Lib.hid hn
  have HL := Lib.hid hl
  have HGL := Lib.hid (fun w h1 h2 => implGlass ns ls vn vl w h1 h2)
  unfold GlassNew at HGL
  have H0 := Lib.hid (held_pair w vn vl 32)
  obtain ⟨A, c, rfl⟩ := prs_form2 hn
  obtain ⟨A2, c2, rfl⟩ := prs_form2 hl
  clear hn hl
  unfold looseW
  generalize fltN (looseP (gA ns ls)) (gL ns ls).length = res at *
  generalize gN ns ls = ns' at *
  generalize gL ns ls = ls' at *
  generalize gA ns ls = ds at *
  generalize wF ns ls = rs at *
  generalize wholeB ns ls = ok at *
  go_enter Tryz.func40, Tryz.ntmps40
  go_wp2_with fail
  refine (HGL.out _ (HN.out.step H0.out.below) (HL.out.step H0.out.below)).mono ?_
  rintro e w1 ⟨v1, v2, v3, v4, rfl, g1, g2, g3, g4, hb⟩
  have H1 := Lib.hid (H0.out.step hb)
  have G0 := Lib.hid (heldG w1 v1 v2 v3 v4 66)
  have B1 := Lib.hid (H1.out.below.trans (G0.out.below.mono H1.out.below.size))
  have H1G := Lib.hid (H1.out.step G0.out.below)
  have G1 := Lib.hid (g1.step G0.out.below)
  have G2 := Lib.hid (g2.step G0.out.below)
  have G3 := Lib.hid (g3.step G0.out.below)
  have G4 := Lib.hid (g4.step G0.out.below)
  obtain ⟨A5, c5, rfl⟩ := prs_form2 g1
  obtain ⟨A6, c6, rfl⟩ := prs_form2 g2
  obtain ⟨A7, c7, rfl⟩ := faces_form g3
  obtain ⟨A8, c8, rfl⟩ := ints_form g4
  clear hb g1 g2 g3 g4
  obtain ⟨x0, x1, _⟩ := H1G.out.1
  obtain ⟨y0, y1, y2, y3, _⟩ := G0.out.1
  go_wp2_with fail
  refine (HS.out _ _ _ _ _ _ _ G1.out G2.out G3.out G4.out).mono ?_
  rintro e w2 ⟨vr, rfl, hm, hb⟩
  have B2 := Lib.hid (B1.out.trans (hb.mono B1.out.size))
  have HM := Lib.hid (hm.mono B1.out.size)
  obtain ⟨a9, c9, rfl⟩ := ints_form hm
  clear hb hm
  go_wp2_with fail
  go_ret
  exact ⟨_, rfl, HM.out, B2.out⟩

set_option maxRecDepth 100000 in
set_option maxHeartbeats 1000000 in
theorem implIsTight (ns ls : List Nd) (vn vl : Value) (w : World) (hn : Prs w vn ns) (hl : Prs w vl ls) :
    Calls Tryz.prog 42 #[.agg #[vn, vl]] w (BoolIs (tightB ns ls) w) := by
  have HS := Lib.hid (fun v1 v2 v3 v4 B B2 w h1 h2 h3 h4 => implLooseG v1 v2 v3 v4 (wF ns ls) (gA ns ls) (gN ns ls) (gL ns ls) B B2 w h1 h2 h3 h4 (g_len ns ls).1 (g_len ns ls).2)
  have HR := Lib.hid (show tightB ns ls = (wholeB ns ls && decide ((fltN (looseP (gA ns ls)) (gL ns ls).length).length = 0)) from rfl)
  have HN := Lib.hid hn
  have HL := Lib.hid hl
  have HGL := Lib.hid (fun w h1 h2 => implGlass ns ls vn vl w h1 h2)
  unfold GlassNew at HGL
  have H0 := Lib.hid (held_pair w vn vl 32)
  obtain ⟨A, c, rfl⟩ := prs_form2 hn
  obtain ⟨A2, c2, rfl⟩ := prs_form2 hl
  clear hn hl
  generalize tightB ns ls = res at *
  generalize fltN (looseP (gA ns ls)) (gL ns ls).length = xs at *
  generalize gN ns ls = ns' at *
  generalize gL ns ls = ls' at *
  generalize gA ns ls = ds at *
  generalize wF ns ls = rs at *
  generalize wholeB ns ls = ok at *
  cases ok
  · go_enter Tryz.func42, Tryz.ntmps42
    go_wp2_with fail
    refine (HGL.out _ (HN.out.step H0.out.below) (HL.out.step H0.out.below)).mono ?_
    rintro e w1 ⟨v1, v2, v3, v4, rfl, g1, g2, g3, g4, hb⟩
    have H1 := Lib.hid (H0.out.step hb)
    have G0 := Lib.hid (heldG w1 v1 v2 v3 v4 66)
    have B1 := Lib.hid (H1.out.below.trans (G0.out.below.mono H1.out.below.size))
    have H1G := Lib.hid (H1.out.step G0.out.below)
    have G1 := Lib.hid (g1.step G0.out.below)
    have G2 := Lib.hid (g2.step G0.out.below)
    have G3 := Lib.hid (g3.step G0.out.below)
    have G4 := Lib.hid (g4.step G0.out.below)
    obtain ⟨A5, c5, rfl⟩ := prs_form2 g1
    obtain ⟨A6, c6, rfl⟩ := prs_form2 g2
    obtain ⟨A7, c7, rfl⟩ := faces_form g3
    obtain ⟨A8, c8, rfl⟩ := ints_form g4
    clear hb g1 g2 g3 g4
    obtain ⟨x0, x1, _⟩ := H1G.out.1
    obtain ⟨y0, y1, y2, y3, _⟩ := G0.out.1
    go_wp2_with fail
    go_ret
    exact ⟨ret_bool (by rw [HR.out]; simp), B1.out⟩
  · by_cases hx : xs.length = 0
    · have HX := Lib.hid hx
      have g : ((xs.length : Int) == 0) = true := by simp [hx]
      clear hx
      go_enter Tryz.func42, Tryz.ntmps42
      go_wp2_with fail
      refine (HGL.out _ (HN.out.step H0.out.below) (HL.out.step H0.out.below)).mono ?_
      rintro e w1 ⟨v1, v2, v3, v4, rfl, g1, g2, g3, g4, hb⟩
      have H1 := Lib.hid (H0.out.step hb)
      have G0 := Lib.hid (heldG w1 v1 v2 v3 v4 66)
      have B1 := Lib.hid (H1.out.below.trans (G0.out.below.mono H1.out.below.size))
      have H1G := Lib.hid (H1.out.step G0.out.below)
      have G1 := Lib.hid (g1.step G0.out.below)
      have G2 := Lib.hid (g2.step G0.out.below)
      have G3 := Lib.hid (g3.step G0.out.below)
      have G4 := Lib.hid (g4.step G0.out.below)
      obtain ⟨A5, c5, rfl⟩ := prs_form2 g1
      obtain ⟨A6, c6, rfl⟩ := prs_form2 g2
      obtain ⟨A7, c7, rfl⟩ := faces_form g3
      obtain ⟨A8, c8, rfl⟩ := ints_form g4
      clear hb g1 g2 g3 g4
      obtain ⟨x0, x1, _⟩ := H1G.out.1
      obtain ⟨y0, y1, y2, y3, _⟩ := G0.out.1
      go_wp2_with fail
      refine (HS.out _ _ _ _ _ _ _ G1.out G2.out G3.out G4.out).mono ?_
      intro e w2 hnew
      obtain ⟨a9, c9, rfl, hb⟩ := ints_newform hnew
      have B2 := Lib.hid (B1.out.trans (hb.mono B1.out.size)); clear hb hnew
      go_wp2_with fail
      go_ret
      exact ⟨ret_bool (by rw [HR.out]; simp [HX.out]), B2.out⟩
    · have HX := Lib.hid hx
      have g : ((xs.length : Int) == 0) = false := by rw [beq_eq_false_iff_ne]; omega
      clear hx
      go_enter Tryz.func42, Tryz.ntmps42
      go_wp2_with fail
      refine (HGL.out _ (HN.out.step H0.out.below) (HL.out.step H0.out.below)).mono ?_
      rintro e w1 ⟨v1, v2, v3, v4, rfl, g1, g2, g3, g4, hb⟩
      have H1 := Lib.hid (H0.out.step hb)
      have G0 := Lib.hid (heldG w1 v1 v2 v3 v4 66)
      have B1 := Lib.hid (H1.out.below.trans (G0.out.below.mono H1.out.below.size))
      have H1G := Lib.hid (H1.out.step G0.out.below)
      have G1 := Lib.hid (g1.step G0.out.below)
      have G2 := Lib.hid (g2.step G0.out.below)
      have G3 := Lib.hid (g3.step G0.out.below)
      have G4 := Lib.hid (g4.step G0.out.below)
      obtain ⟨A5, c5, rfl⟩ := prs_form2 g1
      obtain ⟨A6, c6, rfl⟩ := prs_form2 g2
      obtain ⟨A7, c7, rfl⟩ := faces_form g3
      obtain ⟨A8, c8, rfl⟩ := ints_form g4
      clear hb g1 g2 g3 g4
      obtain ⟨x0, x1, _⟩ := H1G.out.1
      obtain ⟨y0, y1, y2, y3, _⟩ := G0.out.1
      go_wp2_with fail
      refine (HS.out _ _ _ _ _ _ _ G1.out G2.out G3.out G4.out).mono ?_
      intro e w2 hnew
      obtain ⟨a9, c9, rfl, hb⟩ := ints_newform hnew
      have B2 := Lib.hid (B1.out.trans (hb.mono B1.out.size)); clear hb hnew
      go_wp2_with fail
      go_ret
      exact ⟨ret_bool (by rw [HR.out]; simp [HX.out]), B2.out⟩

set_option maxRecDepth 100000 in
set_option maxHeartbeats 1000000 in
theorem implIsLoose (ns ls : List Nd) (vn vl : Value) (k : Int) (w : World) (hn : Prs w vn ns) (hl : Prs w vl ls) :
    Calls Tryz.prog 38 #[.agg #[vn, vl], .int .i64 k] w (BoolIs (looseB ns ls k) w) := by
  have HH := Lib.hid (fun w h1 h2 => implHasLd ns ls vn vl k w h1 h2)
  unfold BoolIs at HH
  by_cases hh : wholeB ns ls = true
  · obtain ⟨hw, hl0, h20, h12⟩ := whole_win hh
    have e1 : gN ns ls = ns := if_pos hh
    have e2 : gL ns ls = ls := if_pos hh
    have e3 : gA ns ls = atW ns ls := if_pos hh
    by_cases hi : idxB ls.length k = true
    · obtain ⟨q, rfl, hq⟩ := idx_nat hi
      have hb : sidB ns ls (q : Int) = true := by unfold sidB; rw [hh, hi]; rfl
      have HA := Lib.hid (show looseB ns ls (q : Int) = looseP (atW ns ls) q from by unfold looseB; rw [hb]; simp)
      rw [show hasLd ns ls (q : Int) = true from by unfold hasLd; rw [hw, hi]; rfl] at HH
      have HS := Lib.hid (fun v1 v2 v3 v4 B B2 w h1 h2 h3 h4 => implIsLooseG v1 v2 v3 v4 (wF ns ls) (atW ns ls) ns ls B B2 q w h1 h2 h3 h4 (by rw [atW_len]; omega) (by rw [atW_len]; omega))
      unfold BoolIs at HS
      clear hi hb
      have HN := Lib.hid hn
      have HL := Lib.hid hl
      have HGL := Lib.hid (fun w h1 h2 => implGlass ns ls vn vl w h1 h2)
      unfold GlassNew at HGL
      have H0 := Lib.hid (held_pair w vn vl 32)
      obtain ⟨A, c, rfl⟩ := prs_form2 hn
      obtain ⟨A2, c2, rfl⟩ := prs_form2 hl
      clear hn hl
      rw [hh, e1, e2, e3] at HGL
      clear hh e1 e2 e3 hw
      generalize looseB ns ls (q : Int) = res at *
      generalize wF ns ls = rs at *
      generalize atW ns ls = ds at *
      generalize looseP ds q = lp at *
      go_enter Tryz.func38, Tryz.ntmps38
      go_wp2_with fail
      refine (HGL.out _ (HN.out.step H0.out.below) (HL.out.step H0.out.below)).mono ?_
      rintro e w1 ⟨v1, v2, v3, v4, rfl, g1, g2, g3, g4, hb⟩
      have H1 := Lib.hid (H0.out.step hb)
      have G0 := Lib.hid (heldG w1 v1 v2 v3 v4 66)
      have B1 := Lib.hid (H1.out.below.trans (G0.out.below.mono H1.out.below.size))
      have H1G := Lib.hid (H1.out.step G0.out.below)
      have G1 := Lib.hid (g1.step G0.out.below)
      have G2 := Lib.hid (g2.step G0.out.below)
      have G3 := Lib.hid (g3.step G0.out.below)
      have G4 := Lib.hid (g4.step G0.out.below)
      obtain ⟨A5, c5, rfl⟩ := prs_form2 g1
      obtain ⟨A6, c6, rfl⟩ := prs_form2 g2
      obtain ⟨A7, c7, rfl⟩ := faces_form g3
      obtain ⟨A8, c8, rfl⟩ := ints_form g4
      clear hb g1 g2 g3 g4
      obtain ⟨x0, x1, _⟩ := H1G.out.1
      obtain ⟨y0, y1, y2, y3, _⟩ := G0.out.1
      go_wp2_with fail
      refine (HH.out _ (HN.out.step B1.out) (HL.out.step B1.out)).mono ?_
      rintro e w2 ⟨rfl, hb⟩
      have B2 := Lib.hid (B1.out.trans (hb.mono B1.out.size))
      have G5 := Lib.hid (G1.out.step hb)
      have G6 := Lib.hid (G2.out.step hb)
      have G7 := Lib.hid (G3.out.step hb)
      have G8 := Lib.hid (G4.out.step hb)
      have G9 := Lib.hid (G0.out.step hb)
      clear hb x0 x1 y0 y1 y2 y3
      obtain ⟨y0, y1, y2, y3, _⟩ := G9.out.1
      go_wp2_with fail
      refine (HS.out _ _ _ _ _ _ _ G5.out G6.out G7.out G8.out).mono ?_
      rintro e w3 ⟨rfl, hb⟩
      have B3 := Lib.hid (B2.out.trans (hb.mono B2.out.size)); clear hb
      go_wp2_with fail
      go_ret
      exact ⟨ret_bool (by rw [HA.out]), B3.out⟩
    · have hb : sidB ns ls k = false := by unfold sidB; rw [show idxB ls.length k = false by simpa using hi]; simp
      have HA := Lib.hid (show looseB ns ls k = false from by unfold looseB; rw [hb]; simp)
      rw [show hasLd ns ls k = false from by unfold hasLd; rw [show idxB ls.length k = false by simpa using hi]; simp] at HH
      clear hi hb
      have HN := Lib.hid hn
      have HL := Lib.hid hl
      have HGL := Lib.hid (fun w h1 h2 => implGlass ns ls vn vl w h1 h2)
      unfold GlassNew at HGL
      have H0 := Lib.hid (held_pair w vn vl 32)
      obtain ⟨A, c, rfl⟩ := prs_form2 hn
      obtain ⟨A2, c2, rfl⟩ := prs_form2 hl
      clear hn hl
      rw [hh, e1, e2, e3] at HGL
      clear hh e1 e2 e3 hw
      generalize looseB ns ls k = res at *
      generalize wF ns ls = rs at *
      generalize atW ns ls = ds at *
      go_enter Tryz.func38, Tryz.ntmps38
      go_wp2_with fail
      refine (HGL.out _ (HN.out.step H0.out.below) (HL.out.step H0.out.below)).mono ?_
      rintro e w1 ⟨v1, v2, v3, v4, rfl, g1, g2, g3, g4, hb⟩
      have H1 := Lib.hid (H0.out.step hb)
      have G0 := Lib.hid (heldG w1 v1 v2 v3 v4 66)
      have B1 := Lib.hid (H1.out.below.trans (G0.out.below.mono H1.out.below.size))
      have H1G := Lib.hid (H1.out.step G0.out.below)
      have G1 := Lib.hid (g1.step G0.out.below)
      have G2 := Lib.hid (g2.step G0.out.below)
      have G3 := Lib.hid (g3.step G0.out.below)
      have G4 := Lib.hid (g4.step G0.out.below)
      obtain ⟨A5, c5, rfl⟩ := prs_form2 g1
      obtain ⟨A6, c6, rfl⟩ := prs_form2 g2
      obtain ⟨A7, c7, rfl⟩ := faces_form g3
      obtain ⟨A8, c8, rfl⟩ := ints_form g4
      clear hb g1 g2 g3 g4
      obtain ⟨x0, x1, _⟩ := H1G.out.1
      obtain ⟨y0, y1, y2, y3, _⟩ := G0.out.1
      go_wp2_with fail
      refine (HH.out _ (HN.out.step B1.out) (HL.out.step B1.out)).mono ?_
      rintro e w2 ⟨rfl, hb⟩
      have B2 := Lib.hid (B1.out.trans (hb.mono B1.out.size))
      clear hb x0 x1 y0 y1 y2 y3
      go_wp2_with fail
      go_ret
      exact ⟨ret_bool HA.out.symm, B2.out⟩
  · have hf : wholeB ns ls = false := by simpa using hh
    have hb : sidB ns ls k = false := by unfold sidB; rw [hf]; rfl
    have HA := Lib.hid (show looseB ns ls k = false from by unfold looseB; rw [hb]; simp)
    have HN := Lib.hid hn
    have HL := Lib.hid hl
    have HGL := Lib.hid (fun w h1 h2 => implGlass ns ls vn vl w h1 h2)
    unfold GlassNew at HGL
    have H0 := Lib.hid (held_pair w vn vl 32)
    obtain ⟨A, c, rfl⟩ := prs_form2 hn
    obtain ⟨A2, c2, rfl⟩ := prs_form2 hl
    clear hn hl
    rw [hf] at HGL
    clear hh hf hb HH
    generalize looseB ns ls k = res at *
    generalize gN ns ls = ns' at *
    generalize gL ns ls = ls' at *
    generalize gA ns ls = ds at *
    generalize wF ns ls = rs at *
    go_enter Tryz.func38, Tryz.ntmps38
    go_wp2_with fail
    refine (HGL.out _ (HN.out.step H0.out.below) (HL.out.step H0.out.below)).mono ?_
    rintro e w1 ⟨v1, v2, v3, v4, rfl, g1, g2, g3, g4, hb⟩
    have H1 := Lib.hid (H0.out.step hb)
    have G0 := Lib.hid (heldG w1 v1 v2 v3 v4 66)
    have B1 := Lib.hid (H1.out.below.trans (G0.out.below.mono H1.out.below.size))
    have H1G := Lib.hid (H1.out.step G0.out.below)
    have G1 := Lib.hid (g1.step G0.out.below)
    have G2 := Lib.hid (g2.step G0.out.below)
    have G3 := Lib.hid (g3.step G0.out.below)
    have G4 := Lib.hid (g4.step G0.out.below)
    obtain ⟨A5, c5, rfl⟩ := prs_form2 g1
    obtain ⟨A6, c6, rfl⟩ := prs_form2 g2
    obtain ⟨A7, c7, rfl⟩ := faces_form g3
    obtain ⟨A8, c8, rfl⟩ := ints_form g4
    clear hb g1 g2 g3 g4
    obtain ⟨x0, x1, _⟩ := H1G.out.1
    obtain ⟨y0, y1, y2, y3, _⟩ := G0.out.1
    go_wp2_with fail
    go_ret
    exact ⟨ret_bool HA.out.symm, B1.out⟩
end Go.Proofs.YtnonebfdognlmabGreat
