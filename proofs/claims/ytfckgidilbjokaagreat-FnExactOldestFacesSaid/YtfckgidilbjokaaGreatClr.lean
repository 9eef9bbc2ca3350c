/-
  Lists of one int for each face, of the model and of the program: colors, wishes, a history.
-/
import Derived.Test.YtfckgidilbjokaaGreatLooseS
import Derived.Test.YtfckgidilbjokaaGreatG5
namespace Go.Proofs.YtfckgidilbjokaaGreat
open Go.RowKit
set_option linter.unusedVariables false
set_option linter.unusedSimpArgs false

/-- One int from lo to hi for each face. -/
noncomputable def listB (ns ls : List Nd) (lo hi : Int) (xs : List Int) : Bool := wholeB ns ls && (decide (xs.length = (wF ns ls).length) && inR xs lo hi)


set_option maxRecDepth 100000 in
theorem implIsColors (A1 A2 A3 A4 : Option Addr) (n1 c1 n2 c2 n3 c3 n4 c4 : Nat) (xs : List Int) (v : Value) (w : World) (hv : Seq w v xs) :
    Calls Tryz.prog 60 #[.agg #[.slice A1 n1 c1, .slice A2 n2 c2, .slice A3 n3 c3, .slice A4 n4 c4], v] w (BoolIs (decide (xs.length = n3) && inR xs 0 5) w) := by
  have H0 := Lib.hid (heldG w (.slice A1 n1 c1) (.slice A2 n2 c2) (.slice A3 n3 c3) (.slice A4 n4 c4) 72)
  have HR := Lib.hid (fun W hb => implInR xs v 0 5 W (hv.step hb))
  unfold BoolIs at HR
  obtain ⟨A, c, rfl⟩ := seq_form2 hv
  clear hv
  generalize inR xs 0 5 = r at *
  generalize xs.length = n at *
  by_cases he : n = n3
  · subst he
    rw [decide_eq_true rfl, Bool.true_and]
    go_enter Tryz.func60, Tryz.ntmps60
    obtain ⟨x0, x1, x2, x3, _⟩ := H0.out.1
    go_wp2_with fail
    refine (HR.out _ H0.out.below).mono ?_
    rintro e w1 ⟨rfl, hb⟩
    have H1 := Lib.hid (H0.out.step hb); clear hb
    go_wp2_with fail
    go_ret
    exact ⟨rfl, H1.out.below⟩
  · rw [decide_eq_false he, Bool.false_and]
    have hne : ¬ (n : Int) = (n3 : Int) := by omega
    clear he
    go_enter Tryz.func60, Tryz.ntmps60
    obtain ⟨x0, x1, x2, x3, _⟩ := H0.out.1
    go_wp2_with fail
    go_ret
    exact ⟨rfl, H0.out.below⟩

set_option maxRecDepth 100000 in
theorem implAreWishes (A1 A2 A3 A4 : Option Addr) (n1 c1 n2 c2 n3 c3 n4 c4 : Nat) (xs : List Int) (v : Value) (w : World) (hv : Seq w v xs) :
    Calls Tryz.prog 63 #[.agg #[.slice A1 n1 c1, .slice A2 n2 c2, .slice A3 n3 c3, .slice A4 n4 c4], v] w (BoolIs (decide (xs.length = n3) && inR xs (-1) 5) w) := by
  have H0 := Lib.hid (heldG w (.slice A1 n1 c1) (.slice A2 n2 c2) (.slice A3 n3 c3) (.slice A4 n4 c4) 72)
  have HR := Lib.hid (fun W hb => implInR xs v (-1) 5 W (hv.step hb))
  unfold BoolIs at HR
  obtain ⟨A, c, rfl⟩ := seq_form2 hv
  clear hv
  generalize inR xs (-1) 5 = r at *
  generalize xs.length = n at *
  by_cases he : n = n3
  · subst he
    rw [decide_eq_true rfl, Bool.true_and]
    go_enter Tryz.func63, Tryz.ntmps63
    obtain ⟨x0, x1, x2, x3, _⟩ := H0.out.1
    go_wp2_with fail
    refine (HR.out _ H0.out.below).mono ?_
    rintro e w1 ⟨rfl, hb⟩
    have H1 := Lib.hid (H0.out.step hb); clear hb
    go_wp2_with fail
    go_ret
    exact ⟨rfl, H1.out.below⟩
  · rw [decide_eq_false he, Bool.false_and]
    have hne : ¬ (n : Int) = (n3 : Int) := by omega
    clear he
    go_enter Tryz.func63, Tryz.ntmps63
    obtain ⟨x0, x1, x2, x3, _⟩ := H0.out.1
    go_wp2_with fail
    go_ret
    exact ⟨rfl, H0.out.below⟩

set_option maxRecDepth 100000 in
set_option maxHeartbeats 1000000 in
theorem implWishOk (ns ls : List Nd) (xs : List Int) (vn vl v : Value) (w : World) (hn : Prs w vn ns) (hl : Prs w vl ls) (hv : Seq w v xs) :
    Calls Tryz.prog 25 #[.agg #[vn, vl], v] w (BoolIs (listB ns ls (-1) 5 xs) w) := by
  have HT := Lib.hid (fun (A1 A2 A3 A4 : Option Addr) (n1 c1 n2 c2 c3 n4 c4 : Nat) W hb => implAreWishes A1 A2 A3 A4 n1 c1 n2 c2 (wF ns ls).length c3 n4 c4 xs v W (hv.step hb))
  unfold BoolIs at HT
  have HR := Lib.hid (show listB ns ls (-1) 5 xs = (wholeB ns ls && (decide (xs.length = (wF ns ls).length) && inR xs (-1) 5)) from rfl)
  generalize listB ns ls (-1) 5 xs = res at *
  generalize (decide (xs.length = (wF ns ls).length) && inR xs (-1) 5) = b at *
  have HN := Lib.hid hn
  have HL := Lib.hid hl
  have HGL := Lib.hid (fun w h1 h2 => implGlass ns ls vn vl w h1 h2)
  unfold GlassNew at HGL
  have H0 := Lib.hid (held_pair w vn vl 32)
  obtain ⟨A, c, rfl⟩ := prs_form2 hn
  obtain ⟨A2, c2, rfl⟩ := prs_form2 hl
  clear hn hl
  obtain ⟨A3, c3, rfl⟩ := seq_form2 hv
  clear hv
  generalize gN ns ls = ns' at *
  generalize gL ns ls = ls' at *
  generalize gA ns ls = ds at *
  generalize wF ns ls = rs at *
  generalize wholeB ns ls = ok at *
  go_enter Tryz.func25, Tryz.ntmps25
  cases ok
  · go_wp2_with fail
    refine (HGL.out _ (HN.out.step H0.out.below) (HL.out.step H0.out.below)).mono ?_
    rintro e w1 ⟨v1, v2, v3, v4, rfl, g1, g2, g3, g4, hb⟩
    have H1 := Lib.hid (H0.out.step hb)
    have G0 := Lib.hid (heldG w1 v1 v2 v3 v4 72)
    have B1 := Lib.hid (H1.out.below.trans (G0.out.below.mono H1.out.below.size))
    have G1 := Lib.hid (g1.step G0.out.below)
    have G2 := Lib.hid (g2.step G0.out.below)
    have G3 := Lib.hid (g3.step G0.out.below)
    have G4 := Lib.hid (g4.step G0.out.below)
    obtain ⟨A5, c5, rfl⟩ := prs_form2 g1
    obtain ⟨A6, c6, rfl⟩ := prs_form2 g2
    obtain ⟨A7, c7, rfl⟩ := faces_form g3
    obtain ⟨A8, c8, rfl⟩ := ints_form g4
    clear hb g1 g2 g3 g4
    obtain ⟨x0, x1, _⟩ := H1.out.1
    obtain ⟨y0, y1, y2, y3, _⟩ := G0.out.1
    go_wp2_with fail
    go_ret
    exact ⟨ret_bool (by rw [HR.out]; rfl), B1.out⟩
  · go_wp2_with fail
    refine (HGL.out _ (HN.out.step H0.out.below) (HL.out.step H0.out.below)).mono ?_
    rintro e w1 ⟨v1, v2, v3, v4, rfl, g1, g2, g3, g4, hb⟩
    have H1 := Lib.hid (H0.out.step hb)
    have G0 := Lib.hid (heldG w1 v1 v2 v3 v4 72)
    have B1 := Lib.hid (H1.out.below.trans (G0.out.below.mono H1.out.below.size))
    have G1 := Lib.hid (g1.step G0.out.below)
    have G2 := Lib.hid (g2.step G0.out.below)
    have G3 := Lib.hid (g3.step G0.out.below)
    have G4 := Lib.hid (g4.step G0.out.below)
    obtain ⟨A5, c5, rfl⟩ := prs_form2 g1
    obtain ⟨A6, c6, rfl⟩ := prs_form2 g2
    obtain ⟨A7, c7, rfl⟩ := faces_form g3
    obtain ⟨A8, c8, rfl⟩ := ints_form g4
    clear hb g1 g2 g3 g4
    obtain ⟨x0, x1, _⟩ := H1.out.1
    obtain ⟨y0, y1, y2, y3, _⟩ := G0.out.1
    go_wp2_with fail
    refine (HT.out _ _ _ _ _ _ _ _ _ _ _ _ B1.out).mono ?_
    rintro e w2 ⟨rfl, hb⟩
    have B2 := Lib.hid (B1.out.trans (hb.mono B1.out.size)); clear hb
    go_wp2_with fail
    go_ret
    exact ⟨ret_bool (by rw [HR.out]; rfl), B2.out⟩

set_option maxRecDepth 100000 in
set_option maxHeartbeats 1000000 in
theorem specWishOk (ns ls : List Nd) (xs : List Int) (vn vl v : Value) (w : World) (hn : Prs w vn ns) (hl : Prs w vl ls) (hv : Seq w v xs) :
    Calls Tryz.prog 24 #[.agg #[vn, vl], v] w (BoolIs (listB ns ls (-1) 5 xs) w) := by
  have HW := Lib.hid (fun w h1 h2 => specWhole ns ls vn vl w h1 h2)
  have HF := Lib.hid (fun w h1 h2 => specFacesL ns ls vn vl w h1 h2)
  unfold BoolIs at HW
  unfold FacesNew at HF
  have HN := Lib.hid hn
  have HL := Lib.hid hl
  have H0 := Lib.hid (held_pair w vn vl 32)
  have hlen := hv.len
  have HV := Lib.hid (hv.step H0.out.below)
  obtain ⟨A, c, rfl⟩ := prs_form2 hn
  obtain ⟨A2, c2, rfl⟩ := prs_form2 hl
  obtain ⟨A3, c3, rfl⟩ := seq_form2 hv
  clear hn hl hv
  have h40 := wF_len (ns := ns) (ls := ls)
  have HR := Lib.hid (show listB ns ls (-1) 5 xs = (wholeB ns ls && (decide (xs.length = (wF ns ls).length) && inR xs (-1) 5)) from rfl)
  have HA := Lib.hid (show inR xs (-1) 5 = xs.all fun x => inB x (-1) 5 from rfl)
  have HIN := Lib.hid (fun x w => specIn x (-1) 5 w)
  generalize inR xs (-1) 5 = r at *
  generalize listB ns ls (-1) 5 xs = res at *
  generalize wholeB ns ls = ok at *
  generalize wF ns ls = rs at *
  go_enter Tryz.func24, Tryz.ntmps24
  go_wp2_with fail
  generalize hW0 : w.alloc (.cells #[.slice A ns.length c, .slice A2 ls.length c2] 32) = W0 at *
  clear hW0
  obtain ⟨A3', c3', he3, _, _, hcs⟩ := HV.out.form
  simp only [Value.slice.injEq] at he3
  obtain ⟨rfl, -, -⟩ := he3
  go_loopw [5] (fun i wr => ∃ m : Nat, m ≤ xs.length ∧ i = .int .i64 m ∧ ((xs.take m).all fun x => inB x (-1) 5) = true ∧ wr = W0) (fun i _ => xs.length - (intOf i).toNat)
  case atStart => exact ⟨0, Nat.zero_le _, rfl, by simp, rfl⟩
  case round =>
    obtain ⟨m, hm, rfl, ha, rfl⟩ := hrel
    have HAM := Lib.hid ha; clear ha
    by_cases hlt : m < xs.length
    · obtain ⟨bb, o, rfl, hbl, hc⟩ := hcs m hlt
      have HT := Lib.hid (show xs.take (m + 1) = xs.take m ++ [atZ xs m] from by rw [List.take_succ_eq_append_getElem hlt, atZ_get hlt])
      have HM := Lib.hid (show atZ xs m ∈ xs from by rw [← atZ_get hlt]; exact List.getElem_mem hlt)
      have hz1 : (m : Int) < (xs.length : Int) := by omega
      have hz2 : (0 : Int) ≤ m := by omega
      have HX := Lib.hid (HIN.out (atZ xs m))
      generalize hz : atZ xs m = z at *
      clear hz
      by_cases hb : inB z (-1) 5 = true
      · have HBT := Lib.hid hb
        rw [hb] at HX
        clear hb
        go_wp2_with fail
        refine (HX.out _).mono ?_
        rintro e w' ⟨rfl, rfl⟩
        go_wp2_with fail
        exact ⟨⟨m + 1, by omega, by go_num, by rw [HT.out, List.all_append, HAM.out]; simp [HBT.out], trivial⟩, by simp [intOf]; omega⟩
      · have HBT := Lib.hid hb
        rw [Bool.not_eq_true] at hb
        rw [hb] at HX
        clear hb
        go_wp2_with fail
        refine (HX.out _).mono ?_
        rintro e w' ⟨rfl, rfl⟩
        go_wp2_with fail
        go_ret
        exact ⟨ret_bool (by rw [HR.out, HA.out, show (xs.all fun x => inB x (-1) 5) = false from List.all_eq_false.2 ⟨z, HM.out, HBT.out⟩]; simp), H0.out.below⟩
    · obtain rfl : m = xs.length := by omega
      have HX := Lib.hid (show r = true from by rw [HA.out, ← HAM.out, List.take_length])
      have HR := Lib.hid (show res = (ok && decide (xs.length = rs.length)) from by rw [HR.out, HX.out, Bool.and_true])
      clear HX HA HAM hcs
      obtain ⟨x0, x1, _⟩ := H0.out.1
      cases ok
      · go_wp2_with fail
        refine (HW.out _ (HN.out.step H0.out.below) (HL.out.step H0.out.below)).mono ?_
        rintro e w1 ⟨rfl, hb⟩
        have H1 := Lib.hid (H0.out.step hb); clear hb
        go_wp2_with fail
        go_ret
        exact ⟨ret_bool (by rw [HR.out]; rfl), H1.out.below⟩
      · go_wp2_with fail
        refine (HW.out _ (HN.out.step H0.out.below) (HL.out.step H0.out.below)).mono ?_
        rintro e w1 ⟨rfl, hb⟩
        have H1 := Lib.hid (H0.out.step hb); clear hb x0 x1
        obtain ⟨x0, x1, _⟩ := H1.out.1
        go_wp2_with fail
        refine (HF.out _ (HN.out.step H1.out.below) (HL.out.step H1.out.below)).mono ?_
        rintro e w2 ⟨vf, rfl, hf, hb⟩
        obtain ⟨a, c4, rfl⟩ := faces_form hf
        have H2 := Lib.hid (H1.out.step hb); clear hb hf x0 x1
        by_cases hq : xs.length = rs.length
        · have hq2 : (xs.length : Int) = (rs.length : Int) := by omega
          have HX := Lib.hid (show res = true from by rw [HR.out]; simp [hq])
          have HX2 := Lib.hid hq2
          clear hq hq2
          go_wp2_with fail
          go_ret
          exact ⟨ret_bool (by have := HX.out; have := HX2.out; simp_all), H2.out.below⟩
        · have hq2 : ¬ (xs.length : Int) = (rs.length : Int) := by omega
          have HX := Lib.hid (show res = false from by rw [HR.out]; simp [hq])
          clear hq
          go_wp2_with fail
          go_ret
          exact ⟨ret_bool (by have := HX.out; simp_all), H2.out.below⟩

set_option maxRecDepth 100000 in
set_option maxHeartbeats 1000000 in
theorem specHistOk (ns ls : List Nd) (xs : List Int) (vn vl v : Value) (w : World) (hn : Prs w vn ns) (hl : Prs w vl ls) (hv : Seq w v xs) :
    Calls Tryz.prog 26 #[.agg #[vn, vl], v] w (BoolIs (listB ns ls 0 3000 xs) w) := by
  have HW := Lib.hid (fun w h1 h2 => specWhole ns ls vn vl w h1 h2)
  have HF := Lib.hid (fun w h1 h2 => specFacesL ns ls vn vl w h1 h2)
  unfold BoolIs at HW
  unfold FacesNew at HF
  have HN := Lib.hid hn
  have HL := Lib.hid hl
  have H0 := Lib.hid (held_pair w vn vl 32)
  have hlen := hv.len
  have HV := Lib.hid (hv.step H0.out.below)
  obtain ⟨A, c, rfl⟩ := prs_form2 hn
  obtain ⟨A2, c2, rfl⟩ := prs_form2 hl
  obtain ⟨A3, c3, rfl⟩ := seq_form2 hv
  clear hn hl hv
  have h40 := wF_len (ns := ns) (ls := ls)
  have HR := Lib.hid (show listB ns ls 0 3000 xs = (wholeB ns ls && (decide (xs.length = (wF ns ls).length) && inR xs 0 3000)) from rfl)
  have HA := Lib.hid (show inR xs 0 3000 = xs.all fun x => inB x 0 3000 from rfl)
  have HIN := Lib.hid (fun x w => specIn x 0 3000 w)
  generalize inR xs 0 3000 = r at *
  generalize listB ns ls 0 3000 xs = res at *
  generalize wholeB ns ls = ok at *
  generalize wF ns ls = rs at *
  go_enter Tryz.func26, Tryz.ntmps26
  go_wp2_with fail
  generalize hW0 : w.alloc (.cells #[.slice A ns.length c, .slice A2 ls.length c2] 32) = W0 at *
  clear hW0
  obtain ⟨A3', c3', he3, _, _, hcs⟩ := HV.out.form
  simp only [Value.slice.injEq] at he3
  obtain ⟨rfl, -, -⟩ := he3
  go_loopw [5] (fun i wr => ∃ m : Nat, m ≤ xs.length ∧ i = .int .i64 m ∧ ((xs.take m).all fun x => inB x 0 3000) = true ∧ wr = W0) (fun i _ => xs.length - (intOf i).toNat)
  case atStart => exact ⟨0, Nat.zero_le _, rfl, by simp, rfl⟩
  case round =>
    obtain ⟨m, hm, rfl, ha, rfl⟩ := hrel
    have HAM := Lib.hid ha; clear ha
    by_cases hlt : m < xs.length
    · obtain ⟨bb, o, rfl, hbl, hc⟩ := hcs m hlt
      have HT := Lib.hid (show xs.take (m + 1) = xs.take m ++ [atZ xs m] from by rw [List.take_succ_eq_append_getElem hlt, atZ_get hlt])
      have HM := Lib.hid (show atZ xs m ∈ xs from by rw [← atZ_get hlt]; exact List.getElem_mem hlt)
      have hz1 : (m : Int) < (xs.length : Int) := by omega
      have hz2 : (0 : Int) ≤ m := by omega
      have HX := Lib.hid (HIN.out (atZ xs m))
      generalize hz : atZ xs m = z at *
      clear hz
      by_cases hb : inB z 0 3000 = true
      · have HBT := Lib.hid hb
        rw [hb] at HX
        clear hb
        go_wp2_with fail
        refine (HX.out _).mono ?_
        rintro e w' ⟨rfl, rfl⟩
        go_wp2_with fail
        exact ⟨⟨m + 1, by omega, by go_num, by rw [HT.out, List.all_append, HAM.out]; simp [HBT.out], trivial⟩, by simp [intOf]; omega⟩
      · have HBT := Lib.hid hb
        rw [Bool.not_eq_true] at hb
        rw [hb] at HX
        clear hb
        go_wp2_with fail
        refine (HX.out _).mono ?_
        rintro e w' ⟨rfl, rfl⟩
        go_wp2_with fail
        go_ret
        exact ⟨ret_bool (by rw [HR.out, HA.out, show (xs.all fun x => inB x 0 3000) = false from List.all_eq_false.2 ⟨z, HM.out, HBT.out⟩]; simp), H0.out.below⟩
    · obtain rfl : m = xs.length := by omega
      have HX := Lib.hid (show r = true from by rw [HA.out, ← HAM.out, List.take_length])
      have HR := Lib.hid (show res = (ok && decide (xs.length = rs.length)) from by rw [HR.out, HX.out, Bool.and_true])
      clear HX HA HAM hcs
      obtain ⟨x0, x1, _⟩ := H0.out.1
      cases ok
      · go_wp2_with fail
        refine (HW.out _ (HN.out.step H0.out.below) (HL.out.step H0.out.below)).mono ?_
        rintro e w1 ⟨rfl, hb⟩
        have H1 := Lib.hid (H0.out.step hb); clear hb
        go_wp2_with fail
        go_ret
        exact ⟨ret_bool (by rw [HR.out]; rfl), H1.out.below⟩
      · go_wp2_with fail
        refine (HW.out _ (HN.out.step H0.out.below) (HL.out.step H0.out.below)).mono ?_
        rintro e w1 ⟨rfl, hb⟩
        have H1 := Lib.hid (H0.out.step hb); clear hb x0 x1
        obtain ⟨x0, x1, _⟩ := H1.out.1
        go_wp2_with fail
        refine (HF.out _ (HN.out.step H1.out.below) (HL.out.step H1.out.below)).mono ?_
        rintro e w2 ⟨vf, rfl, hf, hb⟩
        obtain ⟨a, c4, rfl⟩ := faces_form hf
        have H2 := Lib.hid (H1.out.step hb); clear hb hf x0 x1
        by_cases hq : xs.length = rs.length
        · have hq2 : (xs.length : Int) = (rs.length : Int) := by omega
          have HX := Lib.hid (show res = true from by rw [HR.out]; simp [hq])
          have HX2 := Lib.hid hq2
          clear hq hq2
          go_wp2_with fail
          go_ret
          exact ⟨ret_bool (by have := HX.out; have := HX2.out; simp_all), H2.out.below⟩
        · have hq2 : ¬ (xs.length : Int) = (rs.length : Int) := by omega
          have HX := Lib.hid (show res = false from by rw [HR.out]; simp [hq])
          clear hq
          go_wp2_with fail
          go_ret
          exact ⟨ret_bool (by have := HX.out; simp_all), H2.out.below⟩
end Go.Proofs.YtfckgidilbjokaaGreat
