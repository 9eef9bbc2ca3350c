/-
  PaneNodes, IsPane, PanesOf, of the program.
-/
import Derived.Test.YtnonebfdognlmabGreatPane
namespace Go.Proofs.YtnonebfdognlmabGreat
open Go.RowKit
set_option linter.unusedVariables false
set_option linter.unusedSimpArgs false

/-- Is f a pane, where o is the wall around? -/
def testB (ls : List Nd) (rs : List (List Int)) (o f : Int) : Bool := idxB rs.length f && (decide (f ≠ o) && diffB (bord ls (atR rs f.toNat)))
/-- The cells of the test: the wall around, the glass. -/
def tstFs (b1 b2 : Nat) (o : Int) (v1 v2 v3 v4 : Value) : List (Nat × Nat × Value) := [(b2, 0, .int .i64 o), (b1, 0, v1), (b1, 1, v2), (b1, 2, v3), (b1, 3, v4)]
/-- What paneTest returns. -/
def TestNew (v1 v2 v3 v4 : Value) (o : Int) (w : World) (e : Ending) (w' : World) : Prop :=
  ∃ b1 b2 : Nat, e = .returned (.func (.func 90) #[] #[.pointer (some ⟨b1, 0, none⟩), .pointer (some ⟨b2, 0, none⟩)]) ∧ Held w w' (tstFs b1 b2 o v1 v2 v3 v4)

set_option maxRecDepth 100000 in
theorem implTest (ns ls : List Nd) (v1 v2 v3 v4 : Value) (rs : List (List Int)) (ds : List Int) (B : Nat) (w : World) (hn : Prs w v1 ns) (hl : Prs w v2 ls) (hf : Faces w B v3 rs) (ha : Ints w B v4 ds) (hok : RowsOk ns ls rs) :
    Calls Tryz.prog 62 #[.agg #[v1, v2, v3, v4]] w (TestNew v1 v2 v3 v4 (firstI (outP ns ls rs) rs.length) w) := by
  have HO := Lib.hid (fun W hb => implOuter ns ls v1 v2 v3 v4 rs ds B W (hn.step hb) (hl.step hb) (hf.step hb) (ha.step hb) hok)
  unfold IntIs at HO
  obtain ⟨A, c, rfl⟩ := prs_form2 hn
  obtain ⟨A2, c2, rfl⟩ := prs_form2 hl
  obtain ⟨A3, c3, rfl⟩ := faces_form hf
  obtain ⟨A4, c4, rfl⟩ := ints_form ha
  have H0 := Lib.hid (heldG w (.slice A ns.length c) (.slice A2 ls.length c2) (.slice A3 rs.length c3) (.slice A4 ds.length c4) 66)
  clear hn hl hf ha hok
  generalize firstI (outP ns ls rs) rs.length = o at *
  obtain ⟨x0, x1, x2, x3, _⟩ := H0.out.1
  go_enter Tryz.func62, Tryz.ntmps62
  go_wp2_with fail
  refine (HO.out _ H0.out.below).mono ?_
  rintro e w1 ⟨rfl, hb⟩
  have H1 := Lib.hid (H0.out.step hb); clear hb x0 x1 x2 x3
  go_wp2_with fail
  go_ret
  exact ⟨_, _, rfl, H1.out.new2 w1.heap.size rfl [.int .i64 o] 3⟩

set_option maxRecDepth 100000 in
set_option maxHeartbeats 1000000 in
theorem implTest1 (ns ls : List Nd) (v1 v2 v3 v4 : Value) (rs : List (List Int)) (ds : List Int) (B B2 b1 b2 : Nat) (o f : Int) (w0 w : World) (hn : Prs w v1 ns) (hl : Prs w v2 ls) (hf : Faces w B v3 rs) (ha : Ints w B2 v4 ds) (hok : RowsOk ns ls rs) (h20 : ls.length ≤ 20) (hh : Held w0 w (tstFs b1 b2 o v1 v2 v3 v4)) :
    Calls Tryz.prog 90 #[.int .i64 f, .pointer (some ⟨b1, 0, none⟩), .pointer (some ⟨b2, 0, none⟩)] w (BoolIs (testB ls rs o f) w) := by
  have H0 := Lib.hid (Held.start hh.1 hh.2.1); clear hh
  unfold tstFs at H0
  have HH := Lib.hid (fun (A1 A2 A3 A4 : Option Addr) (n1 c1 n2 c2 c3 n4 c4 : Nat) w => implHasFace A1 A2 A3 A4 n1 c1 n2 c2 rs.length c3 n4 c4 f w (by have := hok.1; omega))
  unfold BoolIs at HH
  have h40 := hok.1
  by_cases hi : idxB rs.length f = true
  · obtain ⟨k, rfl, hk⟩ := idx_nat hi
    have HB := Lib.hid (fun W hb => implBorder v1 v2 v3 v4 rs ds ns ls B B2 k W (hn.step hb) (hl.step hb) (hf.step hb) (ha.step hb) hok hk h20)
    unfold IntsNew at HB
    have hln : (bord ls (atR rs k)).length ≤ 1000 := by rw [bord_len]; have := (hok.2 k hk).2.2; omega
    have HR := Lib.hid (show testB ls rs o k = (decide ((k : Int) ≠ o) && diffB (bord ls (atR rs k))) from by unfold testB; rw [hi]; rfl)
    rw [hi] at HH
    obtain ⟨A, c, rfl⟩ := prs_form2 hn
    obtain ⟨A2, c2, rfl⟩ := prs_form2 hl
    obtain ⟨A3, c3, rfl⟩ := faces_form hf
    obtain ⟨A4, c4, rfl⟩ := ints_form ha
    clear hn hl hf ha hok hi hk
    generalize testB ls rs o k = res at *
    generalize bord ls (atR rs k) = xs at *
    generalize hz : (k : Int) = z at *
    clear hz
    obtain ⟨x0, x1, x2, x3, x4, _⟩ := H0.out.1
    by_cases ho : z = o
    · have g : (z != o) = false := by simp [ho]
      have HX := Lib.hid (show res = false from by rw [HR.out]; simp [ho])
      clear ho
      go_enter Tryz.func90, Tryz.ntmps90
      go_wp2_with fail
      refine (HH.out _ _ _ _ _ _ _ _ _ _ _ _).mono ?_
      rintro e w1 ⟨rfl, hb⟩
      have H1 := Lib.hid (H0.out.step hb); clear hb x0 x1 x2 x3 x4
      obtain ⟨x0, x1, x2, x3, x4, _⟩ := H1.out.1
      go_wp2_with fail
      go_ret
      exact ⟨ret_bool HX.out.symm, H1.out.below⟩
    · have g : (z != o) = true := by simp [ho]
      have HX := Lib.hid (show diffB xs = res from by rw [HR.out]; simp [ho])
      clear ho
      go_enter Tryz.func90, Tryz.ntmps90
      go_wp2_with fail
      refine (HH.out _ _ _ _ _ _ _ _ _ _ _ _).mono ?_
      rintro e w1 ⟨rfl, hb⟩
      have H1 := Lib.hid (H0.out.step hb); clear hb x0 x1 x2 x3 x4
      obtain ⟨x0, x1, x2, x3, x4, _⟩ := H1.out.1
      go_wp2_with fail
      refine (HB.out _ H1.out.below).mono ?_
      rintro e w2 ⟨v, rfl, hv, hb⟩
      have H2 := Lib.hid (H1.out.step hb)
      have HD := Lib.hid (implDiff xs _ v w2 hv hln)
      unfold BoolIs at HD
      rw [HX.out] at HD
      clear hb hv x0 x1 x2 x3 x4
      go_wp2_with fail
      refine HD.out.mono ?_
      rintro e w3 ⟨rfl, hb⟩
      have H3 := Lib.hid (H2.out.step hb); clear hb
      go_wp2_with fail
      go_ret
      exact ⟨ret_bool rfl, H3.out.below⟩
  · have hi2 : idxB rs.length f = false := by simpa using hi
    have HR := Lib.hid (show testB ls rs o f = false from by unfold testB; rw [hi2]; rfl)
    rw [hi2] at HH
    obtain ⟨A, c, rfl⟩ := prs_form2 hn
    obtain ⟨A2, c2, rfl⟩ := prs_form2 hl
    obtain ⟨A3, c3, rfl⟩ := faces_form hf
    obtain ⟨A4, c4, rfl⟩ := ints_form ha
    clear hn hl hf ha hok hi hi2
    generalize testB ls rs o f = res at *
    obtain ⟨x0, x1, x2, x3, x4, _⟩ := H0.out.1
    go_enter Tryz.func90, Tryz.ntmps90
    go_wp2_with fail
    refine (HH.out _ _ _ _ _ _ _ _ _ _ _ _).mono ?_
    rintro e w1 ⟨rfl, hb⟩
    have H1 := Lib.hid (H0.out.step hb); clear hb x0 x1 x2 x3 x4
    obtain ⟨x0, x1, x2, x3, x4, _⟩ := H1.out.1
    go_wp2_with fail
    go_ret
    exact ⟨ret_bool HR.out.symm, H1.out.below⟩

noncomputable def paneB (ns ls : List Nd) (f : Int) : Bool := testB ls (wF ns ls) (outW ns ls) f
noncomputable def panesW (ns ls : List Nd) : List Int := fltN (fun k => paneB ns ls k) (wF ns ls).length
theorem panesW_len (ns ls : List Nd) : (panesW ns ls).length ≤ 40 := by
  have := fltN_len (fun k => paneB ns ls k) (wF ns ls).length
  have := wF_len (ns := ns) (ls := ls)
  unfold panesW
  omega
theorem g_bord {ns ls : List Nd} {k : Nat} (h : k < (wF ns ls).length) (r : List Int) : bord (gL ns ls) r = bord ls r := by
  unfold gL
  rw [if_pos (wF_row h).1]
theorem g_test (ns ls : List Nd) (f : Int) : testB (gL ns ls) (wF ns ls) (outW ns ls) f = paneB ns ls f := by
  unfold paneB testB
  by_cases h : idxB (wF ns ls).length f = true
  · obtain ⟨k, rfl, hk⟩ := idx_nat h
    rw [g_bord hk]
  · rw [show idxB (wF ns ls).length f = false by simpa using h]
    rfl

set_option maxRecDepth 100000 in
set_option maxHeartbeats 2000000 in
theorem implPanesG (ns ls : List Nd) (v1 v2 v3 v4 : Value) (rs : List (List Int)) (ds : List Int) (B : Nat) (w : World) (hn : Prs w v1 ns) (hl : Prs w v2 ls) (hf : Faces w B v3 rs) (ha : Ints w B v4 ds) (hok : RowsOk ns ls rs) (h20 : ls.length ≤ 20) :
    Calls Tryz.prog 63 #[.agg #[v1, v2, v3, v4]] w (IntsNew (fltN (fun k => testB ls rs (firstI (outP ns ls rs) rs.length) k) rs.length) w) := by
  have HT := Lib.hid (fun W hb => implTest ns ls v1 v2 v3 v4 rs ds B W (hn.step hb) (hl.step hb) (hf.step hb) (ha.step hb) hok)
  have HS := Lib.hid (fun b1 b2 o (k : Nat) w0 W hb hh => implTest1 ns ls v1 v2 v3 v4 rs ds B B b1 b2 o k w0 W (hn.step hb) (hl.step hb) (hf.step hb) (ha.step hb) hok h20 hh)
  unfold TestNew at HT
  unfold BoolIs at HS
  unfold tstFs at HS HT
  have h40 := hok.1
  obtain ⟨A, c, rfl⟩ := prs_form2 hn
  obtain ⟨A2, c2, rfl⟩ := prs_form2 hl
  obtain ⟨A3, c3, rfl⟩ := faces_form hf
  obtain ⟨A4, c4, rfl⟩ := ints_form ha
  have H0 := Lib.hid (heldG w (.slice A ns.length c) (.slice A2 ls.length c2) (.slice A3 rs.length c3) (.slice A4 ds.length c4) 66)
  obtain ⟨i0, hi, hz0, hz1, hz2⟩ := info_parts infoInt
  have HI := Lib.hid (And.intro hi (And.intro hz0 (And.intro hz1 hz2))); clear hi hz0 hz1 hz2
  clear hn hl hf ha hok
  generalize firstI (outP ns ls rs) rs.length = o at *
  obtain ⟨p, hp⟩ : ∃ p : Nat → Bool, p = (fun k : Nat => testB ls rs o k) := ⟨_, rfl⟩
  rw [← hp]
  have HS := Lib.hid (fun (k : Nat) b1 b2 w0 W hb hh => (show Calls Tryz.prog 90 #[.int .i64 k, .pointer (some ⟨b1, 0, none⟩), .pointer (some ⟨b2, 0, none⟩)] W (fun e w' => e = .returned (.bool (p k)) ∧ Below W.heap.size W w') from by rw [hp]; exact HS.out b1 b2 o k w0 W hb hh))
  have HU := Lib.hid (fltN_succ p)
  have HLN := Lib.hid (fltN_len p)
  have HZ := Lib.hid (show fltN p 0 = [] from rfl)
  clear hp
  generalize fltN p = X at *
  obtain ⟨x0, x1, x2, x3, _⟩ := H0.out.1
  go_enter Tryz.func63, Tryz.ntmps63
  go_wp2_with fail
  refine (HT.out _ H0.out.below).mono ?_
  rintro e w1 ⟨b1, b2, rfl, hh⟩
  have HB1 := Lib.hid (H0.out.below.trans (hh.below.mono H0.out.below.size))
  have H1 := H0.out.step hh.below
  have HH1 := Lib.hid (Held.start (w := w1) (fs := [(w.heap.size, 0, .slice A ns.length c), (w.heap.size, 1, .slice A2 ls.length c2), (w.heap.size, 2, .slice A3 rs.length c3), (w.heap.size, 3, .slice A4 ds.length c4), (b2, 0, .int .i64 o), (b1, 0, .slice A ns.length c), (b1, 1, .slice A2 ls.length c2), (b1, 2, .slice A3 rs.length c3), (b1, 3, .slice A4 ds.length c4)]) ⟨H1.1.1, H1.1.2.1, H1.1.2.2.1, H1.1.2.2.2.1, hh.1⟩ ⟨H1.2.1.1, H1.2.1.1, H1.2.1.1, H1.2.1.1, hh.2.1⟩)
  have HLT := Lib.hid (show w.heap.size < w1.heap.size ∧ b2 < w1.heap.size ∧ b1 < w1.heap.size from ⟨H1.2.1.1, hh.2.1.1, hh.2.1.2.1⟩)
  clear hh H1 H0 x0 x1 x2 x3
  obtain ⟨x0, x1, x2, x3, _⟩ := HH1.out.1
  have z0 := HLT.out.1
  go_wp2_with fail
  clear x0 x1 x2 x3 z0
  go_loopw [4, 12] (fun v i wr => ∃ m : Nat, m ≤ rs.length ∧ i = .int .i64 m ∧ Ints wr w1.heap.size v (X m) ∧ Held w1 wr [(w.heap.size, 0, .slice A ns.length c), (w.heap.size, 1, .slice A2 ls.length c2), (w.heap.size, 2, .slice A3 rs.length c3), (w.heap.size, 3, .slice A4 ds.length c4), (b2, 0, .int .i64 o), (b1, 0, .slice A ns.length c), (b1, 1, .slice A2 ls.length c2), (b1, 2, .slice A3 rs.length c3), (b1, 3, .slice A4 ds.length c4)]) (fun _ i _ => rs.length - (intOf i).toNat)
  case atStart => exact ⟨0, Nat.zero_le _, rfl, by rw [HZ.out]; exact Ints.made _ _ _ rfl (Nat.le_refl _), HH1.out.alloc _⟩
  case round =>
    clear HH1
    obtain ⟨m, hm, rfl, hown, hh⟩ := hrel
    have HO := Lib.hid hown; clear hown
    have H1 := Lib.hid hh; clear hh
    by_cases hlt : m < rs.length
    · have q1 : (0 : Int) ≤ m := by omega
      have q2 : (m : Int) < (rs.length : Int) := by omega
      have HC := Lib.hid (HS.out m b1 b2 w1 wr (HB1.out.trans (H1.out.below.mono HB1.out.size)) ⟨H1.out.1.2.2.2.2, H1.out.2.1.2.2.2.2, H1.out.below⟩)
      have HUM := Lib.hid (HU.out m)
      have hln := HLN.out m
      generalize hpm : p m = b at *
      clear hpm
      go_wp2_with fail
      refine HC.out.mono ?_
      rintro e w2 ⟨rfl, hb⟩
      have H2 := Lib.hid (H1.out.step hb)
      have HO2 := Lib.hid (HO.out.step hb)
      clear hb H1 HO
      cases b
      · go_wp2_with fail
        exact ⟨⟨m + 1, by omega, by go_num, by rw [HUM.out]; exact HO2.out, H2.out⟩, by simp [intOf]; omega⟩
      · obtain ⟨hi, hz0, hz1, hz2⟩ := HI.out
        have hsz1 := H2.out.below.size
        go_wp2_with (at_builtin; refine wpList_append_own _ rfl _ _ 27 rfl w1.heap.size 3 i0 (.int .i64 0) 1 8 Tryz.underlying27 hi hz0 hz1 hz2 rfl (by decide) _ _ _ rfl (World.ownsRow.alloc HO2.out _) ⟨_, 0, none⟩ 1 1 [.int .i64 m] rfl rfl ?c1 ?c2 ?c3 ?c4 ?c5 ?_)
        case c1 => exact cell_one_new _ _ _
        case c2 => simp [Value.oneCell']
        case c3 => unfold maxLen; omega
        case c4 => omega
        case c5 => simp <;> omega
        intro v' w5 hown hgrow _
        have H5 := Lib.hid (H2.out.stepB (B := w1.heap.size) ⟨HLT.out.1, HLT.out.1, HLT.out.1, HLT.out.1, HLT.out.2.1, HLT.out.2.2, HLT.out.2.2, HLT.out.2.2, HLT.out.2.2, trivial⟩ (grown_below HO2.out hsz1 hgrow) (Nat.le_refl _))
        have HO5 := Lib.hid (Ints.more hown); clear hown hgrow
        go_wp2_with fail
        exact ⟨⟨m + 1, by omega, by go_num, by rw [HUM.out]; exact HO5.out, H5.out⟩, by simp [intOf]; omega⟩
    · obtain rfl : m = rs.length := by omega
      go_wp2_with fail
      go_ret
      exact ⟨_, rfl, HO.out.mono HB1.out.size, HB1.out.trans (H1.out.below.mono HB1.out.size)⟩

set_option maxRecDepth 100000 in
theorem implPaneNodes (ns ls : List Nd) (vn vl : Value) (f : Int) (w : World) (hn : Prs w vn ns) (hl : Prs w vl ls) :
    Calls Tryz.prog 18 #[.agg #[vn, vl], .int .i64 f] w (IntsNew (paneW ns ls f) w) := by
  have HH := Lib.hid (fun (A1 A2 A3 A4 : Option Addr) (n1 c1 n2 c2 c3 n4 c4 : Nat) w => implHasFace A1 A2 A3 A4 n1 c1 n2 c2 (wF ns ls).length c3 n4 c4 f w (by have := wF_len (ns := ns) (ls := ls); omega))
  unfold BoolIs at HH
  by_cases hf : idxB (wF ns ls).length f = true
  · obtain ⟨k, rfl, hk⟩ := idx_nat hf
    have HA := Lib.hid (fun v1 v2 v3 v4 B B2 w h1 h2 h3 h4 => implBorder v1 v2 v3 v4 (wF ns ls) (gA ns ls) (gN ns ls) (gL ns ls) B B2 k w h1 h2 h3 h4 (g_ok ns ls) hk (g_len ns ls).2)
    rw [g_bord hk] at HA
    unfold IntsNew at HA
    rw [hf] at HH
    have HR := Lib.hid (show paneW ns ls k = bord ls (atR (wF ns ls) k) from if_pos hf)
    clear hf hk
    have HN := Lib.hid hn
    have HL := Lib.hid hl
    have HGL := Lib.hid (fun w h1 h2 => implGlass ns ls vn vl w h1 h2)
    unfold GlassNew at HGL
    have H0 := Lib.hid (held_pair w vn vl 32)
    obtain ⟨A, c, rfl⟩ := prs_form2 hn
    obtain ⟨A2, c2, rfl⟩ := prs_form2 hl
    clear hn hl
    generalize bord ls (atR (wF ns ls) k) = xs at *
    generalize paneW ns ls (k : Int) = res at *
    generalize gN ns ls = ns' at *
    generalize gL ns ls = ls' at *
    generalize gA ns ls = ds at *
    generalize wF ns ls = rs at *
    generalize wholeB ns ls = ok at *
    go_enter Tryz.func18, Tryz.ntmps18
    go_wp2_with fail
    refine (HGL.out _ (HN.out.step H0.out.below) (HL.out.step H0.out.below)).mono ?_
    rintro e w1 ⟨v1, v2, v3, v4, rfl, g1, g2, g3, g4, hb⟩
    have H1 := Lib.hid (H0.out.step hb)
    have G0 := Lib.hid (heldG w1 v1 v2 v3 v4 66)
    have B1 := Lib.hid (H1.out.below.trans (G0.out.below.mono H1.out.below.size))
    have G1 := Lib.hid (g1.step G0.out.below)
    have G2 := Lib.hid (g2.step G0.out.below)
    have G3 := Lib.hid (g3.step G0.out.below)
    have G4 := Lib.hid (g4.step G0.out.below)
    obtain ⟨A5, c5, rfl⟩ := prs_form2 g1
    obtain ⟨A6, c6, rfl⟩ := prs_form2 g2
    obtain ⟨A7, c7, rfl⟩ := faces_form g3
    obtain ⟨A8, c8, rfl⟩ := ints_form g4
    clear hb g1 g2 g3 g4
    obtain ⟨x0, x1, _⟩ := H1.out.1
    obtain ⟨y0, y1, y2, y3, _⟩ := G0.out.1
    go_wp2_with fail
    refine (HH.out _ _ _ _ _ _ _ _ _ _ _ _).mono ?_
    rintro e w2 ⟨rfl, hb⟩
    have B2 := Lib.hid (B1.out.trans (hb.mono B1.out.size))
    have G5 := Lib.hid (G1.out.step hb)
    have G6 := Lib.hid (G2.out.step hb)
    have G7 := Lib.hid (G3.out.step hb)
    have G8 := Lib.hid (G4.out.step hb)
    have G9 := Lib.hid (G0.out.step hb)
    clear hb x0 x1 y0 y1 y2 y3
    obtain ⟨y0, y1, y2, y3, _⟩ := G9.out.1
    go_wp2_with fail
    refine (HA.out _ _ _ _ _ _ _ G5.out G6.out G7.out G8.out).mono ?_
    rintro e w3 ⟨v, rfl, hi, hb⟩
    have B3 := Lib.hid (B2.out.trans (hb.mono B2.out.size))
    have HV := Lib.hid (hi.mono B2.out.size); clear hb hi
    go_wp2_with fail
    go_ret
    exact ⟨_, rfl, by rw [HR.out]; exact HV.out, B3.out⟩
  · have hff : idxB (wF ns ls).length f = false := by simpa using hf
    have HR := Lib.hid (show paneW ns ls f = [] from if_neg hf)
    rw [hff] at HH
    clear hf hff
    have HN := Lib.hid hn
    have HL := Lib.hid hl
    have HGL := Lib.hid (fun w h1 h2 => implGlass ns ls vn vl w h1 h2)
    unfold GlassNew at HGL
    have H0 := Lib.hid (held_pair w vn vl 32)
    obtain ⟨A, c, rfl⟩ := prs_form2 hn
    obtain ⟨A2, c2, rfl⟩ := prs_form2 hl
    clear hn hl
    generalize paneW ns ls f = res at *
    generalize gN ns ls = ns' at *
    generalize gL ns ls = ls' at *
    generalize gA ns ls = ds at *
    generalize wF ns ls = rs at *
    generalize wholeB ns ls = ok at *
    go_enter Tryz.func18, Tryz.ntmps18
    go_wp2_with fail
    refine (HGL.out _ (HN.out.step H0.out.below) (HL.out.step H0.out.below)).mono ?_
    rintro e w1 ⟨v1, v2, v3, v4, rfl, g1, g2, g3, g4, hb⟩
    have H1 := Lib.hid (H0.out.step hb)
    have G0 := Lib.hid (heldG w1 v1 v2 v3 v4 66)
    have B1 := Lib.hid (H1.out.below.trans (G0.out.below.mono H1.out.below.size))
    have G1 := Lib.hid (g1.step G0.out.below)
    have G2 := Lib.hid (g2.step G0.out.below)
    have G3 := Lib.hid (g3.step G0.out.below)
    have G4 := Lib.hid (g4.step G0.out.below)
    obtain ⟨A5, c5, rfl⟩ := prs_form2 g1
    obtain ⟨A6, c6, rfl⟩ := prs_form2 g2
    obtain ⟨A7, c7, rfl⟩ := faces_form g3
    obtain ⟨A8, c8, rfl⟩ := ints_form g4
    clear hb g1 g2 g3 g4
    obtain ⟨x0, x1, _⟩ := H1.out.1
    obtain ⟨y0, y1, y2, y3, _⟩ := G0.out.1
    go_wp2_with fail
    refine (HH.out _ _ _ _ _ _ _ _ _ _ _ _).mono ?_
    rintro e w2 ⟨rfl, hb⟩
    have B2 := Lib.hid (B1.out.trans (hb.mono B1.out.size))
    clear hb x0 x1 y0 y1 y2 y3
    go_wp2_with fail
    go_ret
    exact ⟨_, rfl, by rw [HR.out]; exact Ints.nil _ _, B2.out⟩

set_option maxRecDepth 100000 in
theorem implIsPane (ns ls : List Nd) (vn vl : Value) (f : Int) (w : World) (hn : Prs w vn ns) (hl : Prs w vl ls) :
    Calls Tryz.prog 25 #[.agg #[vn, vl], .int .i64 f] w (BoolIs (paneB ns ls f) w) := by
  have HT := Lib.hid (fun v1 v2 v3 v4 B w h1 h2 h3 h4 => implTest (gN ns ls) (gL ns ls) v1 v2 v3 v4 (wF ns ls) (gA ns ls) B w h1 h2 h3 h4 (g_ok ns ls))
  have HS := Lib.hid (fun v1 v2 v3 v4 B B2 b1 b2 w0 w h1 h2 h3 h4 hh => implTest1 (gN ns ls) (gL ns ls) v1 v2 v3 v4 (wF ns ls) (gA ns ls) B B2 b1 b2 (outW ns ls) f w0 w h1 h2 h3 h4 (g_ok ns ls) (g_len ns ls).2 hh)
  rw [g_outer] at HT
  rw [g_test] at HS
  unfold TestNew at HT
  unfold BoolIs at HS
  have HN := Lib.hid hn
  have HL := Lib.hid hl
  have HGL := Lib.hid (fun w h1 h2 => implGlass ns ls vn vl w h1 h2)
  unfold GlassNew at HGL
  have H0 := Lib.hid (held_pair w vn vl 32)
  obtain ⟨A, c, rfl⟩ := prs_form2 hn
  obtain ⟨A2, c2, rfl⟩ := prs_form2 hl
  clear hn hl
  generalize paneB ns ls f = res at *
  generalize outW ns ls = o at *
  generalize gN ns ls = ns' at *
  generalize gL ns ls = ls' at *
  generalize gA ns ls = ds at *
  generalize wF ns ls = rs at *
  generalize wholeB ns ls = ok at *
  go_enter Tryz.func25, Tryz.ntmps25
  go_wp2_with fail
  refine (HGL.out _ (HN.out.step H0.out.below) (HL.out.step H0.out.below)).mono ?_
  rintro e w1 ⟨v1, v2, v3, v4, rfl, g1, g2, g3, g4, hb⟩
  have H1 := Lib.hid (H0.out.step hb)
  have G0 := Lib.hid (heldG w1 v1 v2 v3 v4 66)
  have B1 := Lib.hid (H1.out.below.trans (G0.out.below.mono H1.out.below.size))
  have G1 := Lib.hid (g1.step G0.out.below)
  have G2 := Lib.hid (g2.step G0.out.below)
  have G3 := Lib.hid (g3.step G0.out.below)
  have G4 := Lib.hid (g4.step G0.out.below)
  obtain ⟨A5, c5, rfl⟩ := prs_form2 g1
  obtain ⟨A6, c6, rfl⟩ := prs_form2 g2
  obtain ⟨A7, c7, rfl⟩ := faces_form g3
  obtain ⟨A8, c8, rfl⟩ := ints_form g4
  clear hb g1 g2 g3 g4
  obtain ⟨x0, x1, _⟩ := H1.out.1
  obtain ⟨y0, y1, y2, y3, _⟩ := G0.out.1
  go_wp2_with fail
  refine (HT.out _ _ _ _ _ _ G1.out G2.out G3.out G4.out).mono ?_
  rintro e w2 ⟨b1, b2, rfl, hh⟩
  have hb := hh.below
  have B2 := Lib.hid (B1.out.trans (hb.mono B1.out.size))
  have HC := Lib.hid (HS.out _ _ _ _ _ _ _ _ _ _ (G1.out.step hb) (G2.out.step hb) (G3.out.step hb) (G4.out.step hb) hh)
  clear hb hh x0 x1 y0 y1 y2 y3
  go_wp2_with fail
  refine HC.out.mono ?_
  rintro e w3 ⟨rfl, hb⟩
  have B3 := Lib.hid (B2.out.trans (hb.mono B2.out.size)); clear hb
  go_wp2_with fail
  go_ret
  exact ⟨ret_bool rfl, B3.out⟩

set_option maxRecDepth 100000 in
theorem implPanesOf (ns ls : List Nd) (vn vl : Value) (w : World) (hn : Prs w vn ns) (hl : Prs w vl ls) :
    Calls Tryz.prog 27 #[.agg #[vn, vl]] w (IntsNew (panesW ns ls) w) := by
  have HA := Lib.hid (fun v1 v2 v3 v4 B w h1 h2 h3 h4 => implPanesG (gN ns ls) (gL ns ls) v1 v2 v3 v4 (wF ns ls) (gA ns ls) B w h1 h2 h3 h4 (g_ok ns ls) (g_len ns ls).2)
  rw [g_outer, show (fun k : Nat => testB (gL ns ls) (wF ns ls) (outW ns ls) k) = (fun k : Nat => paneB ns ls k) from funext fun k => g_test ns ls k, show fltN (fun k : Nat => paneB ns ls k) (wF ns ls).length = panesW ns ls from rfl] at HA
  unfold IntsNew at HA
  have HN := Lib.hid hn
  have HL := Lib.hid hl
  have HGL := Lib.hid (fun w h1 h2 => implGlass ns ls vn vl w h1 h2)
  unfold GlassNew at HGL
  have H0 := Lib.hid (held_pair w vn vl 32)
  obtain ⟨A, c, rfl⟩ := prs_form2 hn
  obtain ⟨A2, c2, rfl⟩ := prs_form2 hl
  clear hn hl
  generalize panesW ns ls = res at *
  generalize gN ns ls = ns' at *
  generalize gL ns ls = ls' at *
  generalize gA ns ls = ds at *
  generalize wF ns ls = rs at *
  generalize wholeB ns ls = ok at *
  go_enter Tryz.func27, Tryz.ntmps27
  go_wp2_with fail
  refine (HGL.out _ (HN.out.step H0.out.below) (HL.out.step H0.out.below)).mono ?_
  rintro e w1 ⟨v1, v2, v3, v4, rfl, g1, g2, g3, g4, hb⟩
  have H1 := Lib.hid (H0.out.step hb)
  have G0 := Lib.hid (heldG w1 v1 v2 v3 v4 66)
  have B1 := Lib.hid (H1.out.below.trans (G0.out.below.mono H1.out.below.size))
  have G1 := Lib.hid (g1.step G0.out.below)
  have G2 := Lib.hid (g2.step G0.out.below)
  have G3 := Lib.hid (g3.step G0.out.below)
  have G4 := Lib.hid (g4.step G0.out.below)
  obtain ⟨A5, c5, rfl⟩ := prs_form2 g1
  obtain ⟨A6, c6, rfl⟩ := prs_form2 g2
  obtain ⟨A7, c7, rfl⟩ := faces_form g3
  obtain ⟨A8, c8, rfl⟩ := ints_form g4
  clear hb g1 g2 g3 g4
  obtain ⟨x0, x1, _⟩ := H1.out.1
  obtain ⟨y0, y1, y2, y3, _⟩ := G0.out.1
  go_wp2_with fail
  refine (HA.out _ _ _ _ _ _ G1.out G2.out G3.out G4.out).mono ?_
  rintro e w2 ⟨v, rfl, hi, hb⟩
  have B2 := Lib.hid (B1.out.trans (hb.mono B1.out.size))
  have HV := Lib.hid (hi.mono B1.out.size); clear hb hi
  go_wp2_with fail
  go_ret
  exact ⟨_, rfl, HV.out, B2.out⟩
end Go.Proofs.YtnonebfdognlmabGreat
