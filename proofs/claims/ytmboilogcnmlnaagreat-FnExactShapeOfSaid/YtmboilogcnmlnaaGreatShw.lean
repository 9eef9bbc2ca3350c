/-
  ShapeOf, of the program and of the model.
-/
import Derived.Test.YtmboilogcnmlnaaGreatTurns
import Derived.Test.YtmboilogcnmlnaaGreatShpT
import Derived.Test.YtmboilogcnmlnaaGreatG7
import Derived.Test.YtmboilogcnmlnaaGreatDetF
namespace Go.Proofs.YtmboilogcnmlnaaGreat
open Go.RowKit
set_option linter.unusedVariables false
set_option linter.unusedSimpArgs false

/-- The nodes that the first n ints name. -/
def nodL (ns : List Nd) (xs : List Int) (n : Nat) : List Nd := (xs.take n).map fun k => atN ns k.toNat

theorem nodL_succ {ns : List Nd} {xs : List Int} {n a : Nat} (h : n < xs.length) (hq : atZ xs n = (a : Int)) : nodL ns xs (n + 1) = nodL ns xs n ++ [atN ns a] := by
  unfold nodL
  rw [List.take_succ_eq_append_getElem h, atZ_get h, hq]
  simp

theorem nodL_len (ns : List Nd) (xs : List Int) (n : Nat) : (nodL ns xs n).length ≤ n := by unfold nodL; rw [List.length_map, List.length_take]; omega

theorem nodL_full (ns : List Nd) (xs : List Int) : (nodL ns xs xs.length).length = xs.length := by unfold nodL; simp

theorem nodL_sml {ns : List Nd} {xs : List Int} (h : NodesOf ns xs) : SmlN (nodL ns xs xs.length) := by
  intro k hk
  rw [nodL_full] at hk
  obtain ⟨a, ha, _, ho⟩ := h k hk
  have e : atN (nodL ns xs xs.length) k = atN ns a := by
    have : atN (nodL ns xs xs.length) k = atN ns (atZ xs k).toNat := by
      unfold nodL atN atZ
      rw [List.take_length]
      simp [List.getD, hk]
    rw [this, ha, Int.toNat_natCast]
  rw [e]
  obtain ⟨h1, h2, h3, h4⟩ := area_okb ho
  omega

noncomputable def shpW (ns ls : List Nd) (f : Int) : List Nd := if paneB ns ls f = true then fitL (nodL ns (paneW ns ls f) (paneW ns ls f).length) else []

theorem shpW_len (ns ls : List Nd) (f : Int) : (shpW ns ls f).length ≤ 40 := by
  unfold shpW
  split
  · rw [fitL_len, nodL_full]; exact paneW_len _ _ _
  · simp

theorem pane_idx {ns ls : List Nd} {f : Int} (h : paneB ns ls f = true) : idxB (wF ns ls).length f = true := by
  unfold paneB testB at h
  simp only [Bool.and_eq_true] at h
  exact h.1

theorem pane_pos {ns ls : List Nd} {f : Int} (h : paneB ns ls f = true) : 0 < (paneW ns ls f).length := by
  obtain ⟨k, rfl, hk⟩ := idx_nat (pane_idx h)
  unfold paneW
  rw [if_pos (pane_idx h), bord_len, Int.toNat_natCast]
  exact (row_len hk).2

set_option maxRecDepth 100000 in
set_option maxHeartbeats 2000000 in
theorem implShapeG (v1 v2 v3 v4 : Value) (rs : List (List Int)) (ds : List Int) (ns ls : List Nd) (B B2 k : Nat) (w : World) (hn : Prs w v1 ns) (hl : Prs w v2 ls) (hf : Faces w B v3 rs) (ha : Ints w B2 v4 ds) (hok : RowsOk ns ls rs) (hk : k < rs.length) (h20 : ls.length ≤ 20) (h0 : 0 < (bord ls (atR rs k)).length) :
    Calls Tryz.prog 54 #[.agg #[v1, v2, v3, v4], .int .i64 k] w (OwnRet 39 (fitL (nodL ns (bord ls (atR rs k)) (bord ls (atR rs k)).length)) w) := by
  have HB := Lib.hid (fun W hb => implBorder v1 v2 v3 v4 rs ds ns ls B B2 k W (hn.step hb) (hl.step hb) (hf.step hb) (ha.step hb) hok hk h20)
  unfold IntsNew at HB
  obtain ⟨hw, hd, h4⟩ := hok.2 k hk
  have HNO := Lib.hid (bord_nodes hw hd)
  have hxl : (bord ls (atR rs k)).length ≤ 40 := by rw [bord_len]; exact h4
  have HSM := Lib.hid (nodL_sml HNO.out)
  have HFU := Lib.hid (nodL_full ns (bord ls (atR rs k)))
  have HN := Lib.hid hn
  obtain ⟨A, c, rfl⟩ := prs_form2 hn
  obtain ⟨A2, c2, rfl⟩ := prs_form2 hl
  obtain ⟨A3, c3, rfl⟩ := faces_form hf
  obtain ⟨A4, c4, rfl⟩ := ints_form ha
  have HG := Lib.hid ((heldG w (.slice A ns.length c) (.slice A2 ls.length c2) (.slice A3 rs.length c3) (.slice A4 ds.length c4) 66).alloc (.cells #[] 39))
  have HO0 := Lib.hid (Own.made (w.alloc (.cells #[.slice A ns.length c, .slice A2 ls.length c2, .slice A3 rs.length c3, .slice A4 ds.length c4] 66)) (w.heap.size + 1) (w.heap.size + 1) 39 (by simp) (Nat.le_refl _))
  clear hn hl hf ha hok hk h20 hw hd h4
  generalize bord ls (atR rs k) = xs at *
  have HU := Lib.hid (fun n a h hq => nodL_succ (ns := ns) (xs := xs) (n := n) (a := a) h hq)
  have HLN := Lib.hid (nodL_len ns xs)
  have HZ := Lib.hid (show nodL ns xs 0 = [] from rfl)
  have HFT := Lib.hid (fun v w h hpos => implSettled (nodL ns xs xs.length) v w h hpos (by have := HFU.out; omega) HSM.out)
  unfold OwnSome at HFT
  unfold OwnRet
  generalize fitL (nodL ns xs xs.length) = R at *
  generalize nodL ns xs = X at *
  obtain ⟨i0, hi', hz0, hz1, hz2⟩ := info_parts infoNode
  have HI := Lib.hid (And.intro hi' (And.intro hz0 (And.intro hz1 hz2))); clear hi' hz0 hz1 hz2
  go_enter Tryz.func54, Tryz.ntmps54
  obtain ⟨x0, x1, x2, x3, _⟩ := HG.out.1
  go_wp2_with fail
  refine (HB.out _ HG.out.below).mono ?_
  rintro e w1 ⟨v, rfl, hv, hb⟩
  have H2 := Lib.hid (HG.out.step hb)
  have HO2 := Lib.hid (HO0.out.step hb)
  rw [show ((w.alloc (.cells #[.slice A ns.length c, .slice A2 ls.length c2, .slice A3 rs.length c3, .slice A4 ds.length c4] 66)).alloc (.cells #[] 39)).heap.size = w.heap.size + 1 + 1 by simp] at hv
  have HV := Lib.hid hv
  clear hb hv HG HO0 x0 x1 x2 x3
  obtain ⟨V, cv, rfl⟩ := ints_form HV.out
  have hw1 := (H2.out.2.1.1)
  go_wp2_with fail
  go_loopw [5, 13] (fun u i wr => ∃ m : Nat, m ≤ xs.length ∧ i = .int .i64 m ∧ Own wr (w.heap.size + 1) 39 u (X m) ∧ (∀ k, u.ownBlock = some k → k < w.heap.size + 1 + 1 ∨ w1.heap.size ≤ k) ∧ Keeps (w.heap.size + 1 + 1) w1 wr ∧ Held w wr [(w.heap.size, 0, .slice A ns.length c), (w.heap.size, 1, .slice A2 ls.length c2), (w.heap.size, 2, .slice A3 rs.length c3), (w.heap.size, 3, .slice A4 ds.length c4)]) (fun _ i _ => xs.length - (intOf i).toNat)
  case atStart => exact ⟨0, Nat.zero_le _, rfl, by rw [HZ.out]; exact HO2.out, fun k e => by simp [Value.ownBlock] at e; omega, Keeps.refl _ _, H2.out⟩
  case round =>
    clear H2 HO2
    obtain ⟨m, hm, rfl, hown, hwhere, hkeep, hh⟩ := hrel
    have HO := Lib.hid hown; clear hown
    have HW := Lib.hid hwhere; clear hwhere
    have HK := Lib.hid hkeep; clear hkeep
    have H1 := Lib.hid hh; clear hh
    by_cases hlt : m < xs.length
    · obtain ⟨a, haz, hna, -⟩ := HNO.out m hlt
      have HVR := (HV.out.keep (w' := wr) fun k e => HK.out.2 k (HV.out.own k e).1 (HV.out.own k e).2).seq
      obtain ⟨A6, c6, e6, -, -, hcs⟩ := HVR.form
      simp only [Value.slice.injEq] at e6
      obtain ⟨rfl, -, -⟩ := e6
      obtain ⟨bb, oo, rfl, hbl', k0⟩ := hcs m hlt
      rw [haz] at k0
      obtain ⟨bn, on, cn', he, hbn', hcn⟩ := prs_at2 (HN.out.step H1.out.below) hna
      simp only [Value.slice.injEq] at he
      obtain ⟨rfl, -, -⟩ := he
      obtain ⟨k1, k2⟩ := hcn a hna
      clear hcs hcn HVR
      have HUM := Lib.hid (HU.out m a hlt haz)
      have hln : (X m).length ≤ 40 := by have := HLN.out m; omega
      have HNA := Lib.hid haz; clear haz
      generalize atN ns a = nd at *
      obtain ⟨tx, ty⟩ := nd
      simp only at k1 k2
      have p1 : (0 : Int) ≤ m := by omega
      have p2 : (m : Int) < (xs.length : Int) := by omega
      have p3 : (0 : Int) ≤ a := by omega
      have p4 : (a : Int) < (ns.length : Int) := by omega
      obtain ⟨x0, x1, x2, x3, _⟩ := H1.out.1
      obtain ⟨hi', hz0, hz1', hz2'⟩ := HI.out
      have hsz1 := H1.out.2.1.1
      have HT1 := Lib.hid ((Held.none_ wr).new2 wr.heap.size rfl [.int .i64 tx, .int .i64 ty] 39)
      obtain ⟨z0, z1, _⟩ := HT1.out.1
      go_wp2_with (at_builtin; refine wpList_append_lies _ rfl _ _ 27 rfl (w.heap.size + 1) 39 i0 (.agg #[.int .i64 0, .int .i64 0]) 2 16 Tryz.underlying27 hi' hz0 hz1' hz2' rfl (by decide) _ _ _ rfl (World.ownsRow.alloc HO.out _) ⟨wr.heap.size, 0, none⟩ 1 1 [.int .i64 tx, .int .i64 ty] rfl rfl ?c1 ?c2 (by decide) ?c3 ?c4 ?c5 (wr.heap.size + 1) ?c6 ?_)
      try (case c1 => exact two_news z0 z1)
      case c2 => simp [Value.oneCell']
      case c3 => unfold maxLen; omega
      case c4 => omega
      case c5 => first | (simp; omega) | omega
      case c6 => simp
      intro g8 c8 w5 hown hgrow hfresh hlt8
      clear z0 z1
      have ba := below_alloc wr (.cells #[.int .i64 tx, .int .i64 ty] 39)
      have H5 := Lib.hid (H1.out.stepB (B := w.heap.size + 1) ⟨Nat.lt_succ_self _, Nat.lt_succ_self _, Nat.lt_succ_self _, Nat.lt_succ_self _, trivial⟩ (own_below HO.out (by omega) hgrow) (Nat.le_succ _))
      have HK5 := Lib.hid ((HK.out.below ba).grown hgrow (fun k e => HW.out k e))
      have HW5 := Lib.hid (show ∀ k, (Value.slice (some ⟨g8, 0, none⟩) ((X m).length + 1) c8).ownBlock = some k → k < w.heap.size + 1 + 1 ∨ w1.heap.size ≤ k from fun k hk => by
        have hk2 : g8 = k := by simpa [Value.ownBlock] using hk
        have h9 := HK.out.1
        rcases hfresh with e | e
        · exact HW.out k (by rw [← hk2]; exact e)
        · omega)
      have HO5 := Lib.hid (own_one hown); clear hown hgrow hfresh ba hlt8
      clear x0 x1 x2 x3 k0 k1 k2
      go_wp2_with fail
      exact ⟨⟨m + 1, by omega, by go_num, by rw [HUM.out]; exact HO5.out, HW5.out, HK5.out, H5.out⟩, by simp [intOf]; omega⟩
    · obtain rfl : m = xs.length := by omega
      have hXl := HFU.out
      have hpos : 0 < (X xs.length).length := by omega
      clear hXl
      obtain ⟨g9, c9, rfl⟩ := own_some HO.out hpos
      have hs := H1.out.below.size
      go_wp2_with fail
      refine (HFT.out _ _ HO.out.prs hpos).mono ?_
      rintro e w4 ⟨g, cg, rfl, ho, hb⟩
      have H4 := Lib.hid (H1.out.step hb)
      have HO4 := Lib.hid (ho.mono hs); clear ho hb
      go_wp2_with fail
      go_ret
      exact ⟨_, rfl, HO4.out, H4.out.below⟩

theorem g_nodes {ns ls : List Nd} {k : Nat} (h : k < (wF ns ls).length) : gN ns ls = ns := if_pos (wF_row h).1

set_option maxRecDepth 100000 in
set_option maxHeartbeats 1000000 in
theorem implShapeOf (ns ls : List Nd) (vn vl : Value) (f : Int) (w : World) (hn : Prs w vn ns) (hl : Prs w vl ls) :
    Calls Tryz.prog 16 #[.agg #[vn, vl], .int .i64 f] w (OwnRet 39 (shpW ns ls f) w) := by
  have HT := Lib.hid (fun v1 v2 v3 v4 B w h1 h2 h3 h4 => implTest (gN ns ls) (gL ns ls) v1 v2 v3 v4 (wF ns ls) (gA ns ls) B w h1 h2 h3 h4 (g_ok ns ls))
  have HS := Lib.hid (fun v1 v2 v3 v4 B B2 b1 b2 w0 w h1 h2 h3 h4 hh => implTest1 (gN ns ls) (gL ns ls) v1 v2 v3 v4 (wF ns ls) (gA ns ls) B B2 b1 b2 (outW ns ls) f w0 w h1 h2 h3 h4 (g_ok ns ls) (g_len ns ls).2 hh)
  rw [g_outer] at HT
  rw [g_test] at HS
  unfold TestNew at HT
  unfold BoolIs at HS
  unfold OwnRet
  by_cases hp : paneB ns ls f = true
  · obtain ⟨k, rfl, hk⟩ := idx_nat (pane_idx hp)
    have HR := Lib.hid (show shpW ns ls k = fitL (nodL ns (paneW ns ls k) (paneW ns ls k).length) from if_pos hp)
    have hpw : paneW ns ls k = bord ls (atR (wF ns ls) k) := if_pos (pane_idx hp)
    have hpos := pane_pos hp
    rw [hpw] at HR hpos
    have HA := Lib.hid (fun v1 v2 v3 v4 B B2 w h1 h2 h3 h4 => implShapeG v1 v2 v3 v4 (wF ns ls) (gA ns ls) (gN ns ls) (gL ns ls) B B2 k w h1 h2 h3 h4 (g_ok ns ls) hk (g_len ns ls).2 (by rw [g_bord hk]; exact hpos))
    have e8 : fitL (nodL (gN ns ls) (bord ls (atR (wF ns ls) k)) (bord ls (atR (wF ns ls) k)).length) = shpW ns ls k := by rw [g_nodes hk, HR.out]
    rw [g_bord hk, e8] at HA
    clear e8
    unfold OwnRet at HA
    rw [hp] at HS
    clear hp hk hpw hpos HR
    have HN := Lib.hid hn
    have HL := Lib.hid hl
    have HGL := Lib.hid (fun w h1 h2 => implGlass ns ls vn vl w h1 h2)
    unfold GlassNew at HGL
    have H0 := Lib.hid (held_pair w vn vl 31)
    obtain ⟨A, c, rfl⟩ := prs_form2 hn
    obtain ⟨A2, c2, rfl⟩ := prs_form2 hl
    clear hn hl
    generalize shpW ns ls (k : Int) = res at *
    generalize outW ns ls = o at *
    generalize gN ns ls = ns' at *
    generalize gL ns ls = ls' at *
    generalize gA ns ls = ds at *
    generalize wF ns ls = rs at *
    generalize wholeB ns ls = ok at *
    go_enter Tryz.func16, Tryz.ntmps16
    go_wp2_with fail
    refine (HGL.out _ (HN.out.step H0.out.below) (HL.out.step H0.out.below)).mono ?_
    rintro e w1 ⟨v1, v2, v3, v4, rfl, g1, g2, g3, g4, hb⟩
    have H1 := Lib.hid (H0.out.step hb)
    have G0 := Lib.hid (heldG w1 v1 v2 v3 v4 66)
    have B1 := Lib.hid (H1.out.below.trans (G0.out.below.mono H1.out.below.size))
    have G1 := Lib.hid (g1.step G0.out.below)
    have G2 := Lib.hid (g2.step G0.out.below)
    have G3 := Lib.hid (g3.step G0.out.below)
    have G4 := Lib.hid (g4.step G0.out.below)
    obtain ⟨A5, c5, rfl⟩ := prs_form2 g1
    obtain ⟨A6, c6, rfl⟩ := prs_form2 g2
    obtain ⟨A7, c7, rfl⟩ := faces_form g3
    obtain ⟨A8, c8, rfl⟩ := ints_form g4
    clear hb g1 g2 g3 g4
    obtain ⟨x0, x1, _⟩ := H1.out.1
    obtain ⟨y0, y1, y2, y3, _⟩ := G0.out.1
    go_wp2_with fail
    refine (HT.out _ _ _ _ _ _ G1.out G2.out G3.out G4.out).mono ?_
    rintro e w2 ⟨b1, b2, rfl, hh⟩
    have hb := hh.below
    have B2 := Lib.hid (B1.out.trans (hb.mono B1.out.size))
    have HC := Lib.hid (HS.out _ _ _ _ _ _ _ _ _ _ (G1.out.step hb) (G2.out.step hb) (G3.out.step hb) (G4.out.step hb) hh)
    have G5 := Lib.hid (G1.out.step hb)
    have G6 := Lib.hid (G2.out.step hb)
    have G7 := Lib.hid (G3.out.step hb)
    have G8 := Lib.hid (G4.out.step hb)
    have G9 := Lib.hid (G0.out.step hb)
    clear hb hh x0 x1 y0 y1 y2 y3
    go_wp2_with fail
    refine HC.out.mono ?_
    rintro e w3 ⟨rfl, hb⟩
    have B3 := Lib.hid (B2.out.trans (hb.mono B2.out.size))
    have K1 := Lib.hid (G5.out.step hb)
    have K2 := Lib.hid (G6.out.step hb)
    have K3 := Lib.hid (G7.out.step hb)
    have K4 := Lib.hid (G8.out.step hb)
    have K0 := Lib.hid (G9.out.step hb)
    clear hb
    obtain ⟨y0, y1, y2, y3, _⟩ := K0.out.1
    go_wp2_with fail
    refine (HA.out _ _ _ _ _ _ _ K1.out K2.out K3.out K4.out).mono ?_
    rintro e w4 ⟨v, rfl, ho, hb⟩
    have B4 := Lib.hid (B3.out.trans (hb.mono B3.out.size))
    have HO4 := Lib.hid (ho.mono B3.out.size); clear ho hb
    obtain ⟨a9, c9, rfl, -⟩ := HO4.out.form
    go_wp2_with fail
    go_ret
    exact ⟨_, rfl, HO4.out, B4.out⟩
  · have hpf : paneB ns ls f = false := by simpa using hp
    have HR := Lib.hid (show shpW ns ls f = [] from if_neg hp)
    rw [hpf] at HS
    clear hp hpf
    have HN := Lib.hid hn
    have HL := Lib.hid hl
    have HGL := Lib.hid (fun w h1 h2 => implGlass ns ls vn vl w h1 h2)
    unfold GlassNew at HGL
    have H0 := Lib.hid (held_pair w vn vl 31)
    obtain ⟨A, c, rfl⟩ := prs_form2 hn
    obtain ⟨A2, c2, rfl⟩ := prs_form2 hl
    clear hn hl
    generalize shpW ns ls f = res at *
    generalize outW ns ls = o at *
    generalize gN ns ls = ns' at *
    generalize gL ns ls = ls' at *
    generalize gA ns ls = ds at *
    generalize wF ns ls = rs at *
    generalize wholeB ns ls = ok at *
    go_enter Tryz.func16, Tryz.ntmps16
    go_wp2_with fail
    refine (HGL.out _ (HN.out.step H0.out.below) (HL.out.step H0.out.below)).mono ?_
    rintro e w1 ⟨v1, v2, v3, v4, rfl, g1, g2, g3, g4, hb⟩
    have H1 := Lib.hid (H0.out.step hb)
    have G0 := Lib.hid (heldG w1 v1 v2 v3 v4 66)
    have B1 := Lib.hid (H1.out.below.trans (G0.out.below.mono H1.out.below.size))
    have G1 := Lib.hid (g1.step G0.out.below)
    have G2 := Lib.hid (g2.step G0.out.below)
    have G3 := Lib.hid (g3.step G0.out.below)
    have G4 := Lib.hid (g4.step G0.out.below)
    obtain ⟨A5, c5, rfl⟩ := prs_form2 g1
    obtain ⟨A6, c6, rfl⟩ := prs_form2 g2
    obtain ⟨A7, c7, rfl⟩ := faces_form g3
    obtain ⟨A8, c8, rfl⟩ := ints_form g4
    clear hb g1 g2 g3 g4
    obtain ⟨x0, x1, _⟩ := H1.out.1
    obtain ⟨y0, y1, y2, y3, _⟩ := G0.out.1
    go_wp2_with fail
    refine (HT.out _ _ _ _ _ _ G1.out G2.out G3.out G4.out).mono ?_
    rintro e w2 ⟨b1, b2, rfl, hh⟩
    have hb := hh.below
    have B2 := Lib.hid (B1.out.trans (hb.mono B1.out.size))
    have HC := Lib.hid (HS.out _ _ _ _ _ _ _ _ _ _ (G1.out.step hb) (G2.out.step hb) (G3.out.step hb) (G4.out.step hb) hh)
    clear hb hh x0 x1 y0 y1 y2 y3
    go_wp2_with fail
    refine HC.out.mono ?_
    rintro e w3 ⟨rfl, hb⟩
    have B3 := Lib.hid (B2.out.trans (hb.mono B2.out.size)); clear hb
    go_wp2_with fail
    go_ret
    exact ⟨_, rfl, by rw [HR.out]; exact Own.nil _ _ _, B3.out⟩

set_option maxRecDepth 100000 in
set_option maxHeartbeats 2000000 in
theorem specShapeOf (ns ls : List Nd) (vn vl : Value) (f : Int) (w : World) (hn : Prs w vn ns) (hl : Prs w vl ls) :
    Calls Tryz.prog 14 #[.agg #[vn, vl], .int .i64 f] w (OwnRet 39 (shpW ns ls f) w) := by
  have HN := Lib.hid hn
  have HL := Lib.hid hl
  have HIP := Lib.hid (fun w h1 h2 => specIsPane ns ls vn vl f w h1 h2)
  unfold BoolIs at HIP
  have HP := Lib.hid (fun w h1 h2 => specPaneNodes ns ls vn vl f w h1 h2)
  unfold IntsNew at HP
  have h40 := paneW_len ns ls f
  have HNO := Lib.hid (show NodesOf ns (paneW ns ls f) from by
    unfold paneW
    by_cases h : idxB (wF ns ls).length f = true
    · rw [if_pos h]
      obtain ⟨k, rfl, hk⟩ := idx_nat h
      obtain ⟨hw, hd, _⟩ := (wF_ok ns ls).2 k hk
      exact bord_nodes hw hd
    · rw [if_neg h]
      intro i hi
      simp at hi)
  have HSM := Lib.hid (nodL_sml HNO.out)
  have HFU := Lib.hid (nodL_full ns (paneW ns ls f))
  have HPO := Lib.hid (fun h => pane_pos (ns := ns) (ls := ls) (f := f) h)
  have HRT := Lib.hid (fun (h : paneB ns ls f = true) => (show shpW ns ls f = fitL (nodL ns (paneW ns ls f) (paneW ns ls f).length) from if_pos h))
  have HRF := Lib.hid (fun (h : ¬ paneB ns ls f = true) => (show shpW ns ls f = [] from if_neg h))
  have H0 := Lib.hid ((held_pair w vn vl 31).alloc (.cells #[] 39))
  have HO0 := Lib.hid (Own.made (w.alloc (.cells #[vn, vl] 31)) (w.heap.size + 1) (w.heap.size + 1) 39 (by simp) (Nat.le_refl _))
  obtain ⟨A, c, rfl⟩ := prs_form2 hn
  obtain ⟨A2, c2, rfl⟩ := prs_form2 hl
  clear hn hl
  unfold OwnRet
  generalize shpW ns ls f = R at *
  generalize paneW ns ls f = xs at *
  have HU := Lib.hid (fun n a h hq => nodL_succ (ns := ns) (xs := xs) (n := n) (a := a) h hq)
  have HLN := Lib.hid (nodL_len ns xs)
  have HZ := Lib.hid (show nodL ns xs 0 = [] from rfl)
  have HFT := Lib.hid (fun v w h hpos => specFit (nodL ns xs xs.length) v w h hpos (by have := HFU.out; omega) HSM.out)
  unfold OwnSome at HFT
  generalize fitL (nodL ns xs xs.length) = RT at *
  generalize nodL ns xs = X at *
  generalize paneB ns ls f = pb at *
  cases pb
  · have HRR := Lib.hid (HRF.out (by simp))
    go_enter Tryz.func14, Tryz.ntmps14
    obtain ⟨x0, x1, _⟩ := H0.out.1
    go_wp2_with fail
    refine (HIP.out _ (HN.out.step H0.out.below) (HL.out.step H0.out.below)).mono ?_
    rintro e w1 ⟨rfl, hb⟩
    have H1 := Lib.hid (H0.out.step hb)
    have HO1 := Lib.hid (HO0.out.step hb)
    clear hb x0 x1
    go_wp2_with fail
    go_ret
    exact ⟨_, rfl, by rw [HRR.out]; exact HO1.out.mono (Nat.le_succ _), H1.out.below⟩
  · have HRR := Lib.hid (HRT.out rfl)
    have hpos := HPO.out rfl
    clear HRF HRT HPO
    go_enter Tryz.func14, Tryz.ntmps14
    obtain ⟨x0, x1, _⟩ := H0.out.1
    go_wp2_with fail
    refine (HIP.out _ (HN.out.step H0.out.below) (HL.out.step H0.out.below)).mono ?_
    rintro e w1 ⟨rfl, hb⟩
    have H1 := Lib.hid (H0.out.step hb)
    have HO1 := Lib.hid (HO0.out.step hb)
    have hs1 := hb.size
    simp only [show ((w.alloc (.cells #[.slice A ns.length c, .slice A2 ls.length c2] 31)).alloc (.cells #[] 39)).heap.size = w.heap.size + 1 + 1 by simp] at hs1
    clear hb x0 x1 H0 HO0
    obtain ⟨x0, x1, _⟩ := H1.out.1
    go_wp2_with fail
    refine (HP.out _ (HN.out.step H1.out.below) (HL.out.step H1.out.below)).mono ?_
    rintro e w3 ⟨v, rfl, hv, hb⟩
    have H2 := Lib.hid (H1.out.step hb)
    have HO2 := Lib.hid (HO1.out.step hb)
    have hs3 := hb.size
    have HV := Lib.hid (hv.mono (b' := w.heap.size + 1 + 1) hs1)
    clear hb hv H1 HO1 x0 x1
    obtain ⟨gv, cv, rfl⟩ := HV.out.some_ hpos
    have HGV := Lib.hid (HV.out.own gv rfl)
    have HRW := Lib.hid (show RowF w3 (w.heap.size + 1) (.slice (some ⟨w.heap.size + 1, 0, none⟩) 0 0) (X 0) w3 from ⟨by rw [HZ.out]; exact HO2.out, fun k e => by simp [Value.ownBlock] at e; omega, Keeps.refl _ _, by omega⟩)
    clear HO2
    go_wp2_with fail
    go_loopw [5, 7] (fun u i wr => ∃ m : Nat, m ≤ xs.length ∧ i = .int .i64 m ∧ RowF w3 (w.heap.size + 1) u (X m) wr ∧ Held w wr [(w.heap.size, 0, .slice A ns.length c), (w.heap.size, 1, .slice A2 ls.length c2)]) (fun _ i _ => xs.length - (intOf i).toNat)
    case atStart => exact ⟨0, Nat.zero_le _, rfl, HRW.out, H2.out⟩
    case round =>
      clear H2 HRW
      obtain ⟨m, hm, rfl, hrw, hh⟩ := hrel
      have HRW := Lib.hid hrw; clear hrw
      have H1 := Lib.hid hh; clear hh
      by_cases hlt : m < xs.length
      · obtain ⟨a, haz, hna, -⟩ := HNO.out m hlt
        have HVR := HV.out.keep (w' := wr) fun k e => HRW.out.2.2.1.2 k (HV.out.own k e).1 (HV.out.own k e).2
        obtain ⟨k0, -, hgl, -, -⟩ := HVR.at_ hlt
        rw [haz] at k0
        obtain ⟨bn, on, cn', he, hbn', hcn⟩ := prs_at2 HN.out hna
        simp only [Value.slice.injEq] at he
        obtain ⟨rfl, -, -⟩ := he
        have k1 := (H1.out.below.cell (p := ⟨bn, on + a * 2, none⟩) hbn').trans (hcn a hna).1
        have k2 := (H1.out.below.cell (p := ⟨bn, on + a * 2 + 1, none⟩) hbn').trans (hcn a hna).2
        have hbr := Nat.lt_of_lt_of_le hbn' H1.out.below.size
        clear hcn HVR
        have HUM := Lib.hid (HU.out m a hlt haz)
        have hln : (X m).length ≤ 1048576 := by have := HLN.out m; omega
        have HLX := Lib.hid hln; clear hln
        have HNA := Lib.hid haz; clear haz
        generalize atN ns a = nd at *
        obtain ⟨tx, ty⟩ := nd
        simp only at k1 k2
        have p1 : (0 : Int) ≤ m := by omega
        have p2 : (m : Int) < (xs.length : Int) := by omega
        have p3 : (0 : Int) ≤ a := by omega
        have p4 : (a : Int) < (ns.length : Int) := by omega
        have HH := Lib.hid (held_plus H1.out (gs := [(gv, m, .int .i64 a), (bn, on + a * 2, .int .i64 tx), (bn, on + a * 2 + 1, .int .i64 ty)]) ⟨k0, k1, k2, trivial⟩ ⟨hgl, hbr, hbr, trivial⟩)
        have HFI := Lib.hid (show Fit (w.heap.size + 1) w3.heap.size [(w.heap.size, 0, .slice (some ⟨bn, on, none⟩) ns.length c), (w.heap.size, 1, .slice A2 ls.length c2), (gv, m, .int .i64 a), (bn, on + a * 2, .int .i64 tx), (bn, on + a * 2 + 1, .int .i64 ty)] from
          ⟨.inl (Nat.lt_succ_self _), .inl (Nat.lt_succ_self _), .inr ⟨HGV.out.1, HGV.out.2⟩, .inl (Nat.lt_succ_of_lt hbn'), .inl (Nat.lt_succ_of_lt hbn'), trivial⟩)
        clear k0 k1 k2 hgl hbr hbn'
        obtain ⟨x0, x1, x2, x3, x4, _⟩ := HH.out.1
        go_wp2_with fail
        refine regionC (C := fun W => Held w W [(w.heap.size, 0, .slice (some ⟨bn, on, none⟩) ns.length c), (w.heap.size, 1, .slice A2 ls.length c2), (gv, m, .int .i64 (a)), (bn, on + a * 2, .int .i64 (tx)), (bn, on + a * 2 + 1, .int .i64 (ty))]) (fun W => Held w W [(w.heap.size, 0, .slice (some ⟨bn, on, none⟩) ns.length c), (w.heap.size, 1, .slice A2 ls.length c2), (gv, m, .int .i64 (a)), (bn, on + a * 2, .int .i64 (tx)), (bn, on + a * 2 + 1, .int .i64 (ty))] ∧ RowF w3 (w.heap.size + 1) u5 (X m) W) (by kernel_rfl) ⟨HH.out.drew, HRW.out.step ((Below.refl _ _).drew)⟩ ?_
        refine takeC (i := 0) (v := ?_) (Stable.and (Stable.held _ _) (stable_rowF _ _ _ _)) (fun _ h => h.1) rfl (by kernel_rfl) (by kernel_rfl) (by kernel_rfl) (fun _ _ _ h => h) ?_ ?_
        rotate_left
        · first | (refine Or.inl ⟨by rfl, fun W hS => detR_value (w' := W) ?_ (Below.refl _ _)⟩; obtain ⟨x0, x1, x2, x3, x4, _⟩ := hS.1; go_simp; first | done | with_reducible rfl) | fail
        simp only [Act.put, List.setIfInBounds_toArray, List.set_cons_zero, List.set_cons_succ]
        refine takeC (i := 1) (v := ?_) (Stable.and (Stable.held _ _) (stable_rowF _ _ _ _)) (fun _ h => h.1) rfl (by kernel_rfl) (by kernel_rfl) (by kernel_rfl) (fun _ _ _ h => h) ?_ ?_
        rotate_left
        · first | (refine Or.inl ⟨by rfl, fun W hS => detR_value (w' := W) ?_ (Below.refl _ _)⟩; obtain ⟨x0, x1, x2, x3, x4, _⟩ := hS.1; go_simp; first | done | with_reducible rfl) | fail
        simp only [Act.put, List.setIfInBounds_toArray, List.set_cons_zero, List.set_cons_succ]
        refine takeC (i := 2) (v := ?_) (Stable.and (Stable.held _ _) (stable_rowF _ _ _ _)) (fun _ h => h.1) rfl (by kernel_rfl) (by kernel_rfl) (by kernel_rfl) (fun _ _ _ h => h) ?_ ?_
        rotate_left
        · first | (refine Or.inl ⟨by rfl, fun W hS => detR_value (w' := W) ?_ (Below.refl _ _)⟩; obtain ⟨x0, x1, x2, x3, x4, _⟩ := hS.1; go_simp; first | done | with_reducible rfl) | fail
        simp only [Act.put, List.setIfInBounds_toArray, List.set_cons_zero, List.set_cons_succ]
        refine takeC (i := 3) (v := ?_) (Stable.and (Stable.held _ _) (stable_rowF _ _ _ _)) (fun _ h => h.1) rfl (by kernel_rfl) (by kernel_rfl) (by kernel_rfl) (fun _ _ _ h => h) ?_ ?_
        rotate_left
        · first | (refine Or.inl ⟨by rfl, fun W hS => detR_value (w' := W) ?_ (Below.refl _ _)⟩; obtain ⟨x0, x1, x2, x3, x4, _⟩ := hS.1; go_simp; first | done | with_reducible rfl) | fail
        simp only [Act.put, List.setIfInBounds_toArray, List.set_cons_zero, List.set_cons_succ]
        refine takeC (i := 4) (v := ?_) (Stable.and (Stable.held _ _) (stable_rowF _ _ _ _)) (fun _ h => h.1) rfl (by kernel_rfl) (by kernel_rfl) (by kernel_rfl) (fun _ _ _ h => h) ?_ ?_
        rotate_left
        · first | (refine Or.inl ⟨by rfl, fun W hS => detR_value (w' := W) ?_ (Below.refl _ _)⟩; obtain ⟨x0, x1, x2, x3, x4, _⟩ := hS.1; go_simp; first | done | with_reducible rfl) | fail
        simp only [Act.put, List.setIfInBounds_toArray, List.set_cons_zero, List.set_cons_succ]
        refine takeC (i := 5) (v := ?_) (Stable.and (Stable.held _ _) (stable_rowF _ _ _ _)) (fun _ h => h.1) rfl (by kernel_rfl) (by kernel_rfl) (by kernel_rfl) (fun _ _ _ h => h) ?_ ?_
        rotate_left
        · first | (refine Or.inl ⟨by rfl, fun W hS => detR_value (w' := W) ?_ (Below.refl _ _)⟩; obtain ⟨x0, x1, x2, x3, x4, _⟩ := hS.1; go_simp; first | done | with_reducible rfl) | fail
        simp only [Act.put, List.setIfInBounds_toArray, List.set_cons_zero, List.set_cons_succ]
        refine takeC (i := 6) (v := ?_) (Stable.and (Stable.held _ _) (stable_rowF _ _ _ _)) (fun _ h => h.1) rfl (by kernel_rfl) (by kernel_rfl) (by kernel_rfl) (fun _ _ _ h => h) ?_ ?_
        rotate_left
        · first | (refine Or.inl ⟨by rfl, fun W hS => detR_value (w' := W) ?_ (Below.refl _ _)⟩; obtain ⟨x0, x1, x2, x3, x4, _⟩ := hS.1; go_simp; first | done | with_reducible rfl) | fail
        simp only [Act.put, List.setIfInBounds_toArray, List.set_cons_zero, List.set_cons_succ]
        refine takeC (i := 7) (v := ?_) (Stable.and (Stable.held _ _) (stable_rowF _ _ _ _)) (fun _ h => h.1) rfl (by kernel_rfl) (by kernel_rfl) (by kernel_rfl) (fun _ _ _ h => h) ?_ ?_
        rotate_left
        · first | (refine Or.inl ⟨by rfl, fun W hS => detR_value (w' := W) ?_ (Below.refl _ _)⟩; obtain ⟨x0, x1, x2, x3, x4, _⟩ := hS.1; go_simp; first | done | with_reducible rfl) | fail
        simp only [Act.put, List.setIfInBounds_toArray, List.set_cons_zero, List.set_cons_succ]
        refine takeC (i := 8) (v := ?_) (Stable.and (Stable.held _ _) (stable_rowF _ _ _ _)) (fun _ h => h.1) rfl (by kernel_rfl) (by kernel_rfl) (by kernel_rfl) (fun _ _ _ h => h) ?_ ?_
        rotate_left
        · first | (refine Or.inl ⟨by rfl, fun W hS => detR_value (w' := W) ?_ (Below.refl _ _)⟩; obtain ⟨x0, x1, x2, x3, x4, _⟩ := hS.1; go_simp; first | done | with_reducible rfl) | fail
        simp only [Act.put, List.setIfInBounds_toArray, List.set_cons_zero, List.set_cons_succ]
        refine freeC (i := 9) (OneN (tx) (ty)) (Stable.and (Stable.held _ _) (stable_rowF _ _ _ _)) (fun _ h => h.1) (fun v => stable_oneN _ _ v) rfl (by kernel_rfl) (by rfl) (fun W hS => freeR_oneN (by go_simp; first | done | with_reducible rfl)) (fun v1H3 => ?_)
        simp only [Act.put, List.setIfInBounds_toArray, List.set_cons_zero, List.set_cons_succ]
        refine appF (i := 10) (px := tx) (py := ty) (Operand.tmp 23) (Operand.tmp 32) rfl (by kernel_rfl) (by rfl) rfl (by rfl) (by rfl) HFI.out (Nat.le_succ _) HLX.out (fun vaH3 => ?_)
        simp only [Act.put, List.setIfInBounds_toArray, List.set_cons_zero, List.set_cons_succ]
        refine takeC (i := 11) (v := ?_) (Stable.and (Stable.held _ _) (stable_rowF _ _ _ _)) (fun _ h => h.1) rfl (by kernel_rfl) (by kernel_rfl) (by kernel_rfl) (fun _ _ _ h => h) ?_ ?_
        rotate_left
        · first | (refine Or.inl ⟨by rfl, fun W hS => detR_value (w' := W) ?_ (Below.refl _ _)⟩; obtain ⟨x0, x1, x2, x3, x4, _⟩ := hS.1; go_simp; first | done | with_reducible rfl) | fail
        simp only [Act.put, List.setIfInBounds_toArray, List.set_cons_zero, List.set_cons_succ]
        refine doneC (by kernel_rfl) fun wH3 HG => ?_
        obtain ⟨hH, hR⟩ := HG
        have H3 := Lib.hid hH; clear hH
        have RH3 := Lib.hid hR; clear hR
        try clear x0 x1 x2 x3 x4
        obtain ⟨x0, x1, x2, x3, x4, _⟩ := H3.out.1
        go_wp2_with fail
        exact ⟨⟨m + 1, by omega, by go_num, by rw [HUM.out]; exact RH3.out, H3.out.only (fun ⟨a, b, _⟩ => ⟨a, b, trivial⟩) (fun ⟨a, b, _⟩ => ⟨a, b, trivial⟩)⟩, by simp [intOf]; omega⟩
      · obtain rfl : m = xs.length := by omega
        have hXl := HFU.out
        have hposX : 0 < (X xs.length).length := by omega
        clear hXl
        have HO := Lib.hid HRW.out.1
        obtain ⟨g9, c9, rfl⟩ := own_some HO.out hposX
        have hs := H1.out.below.size
        go_wp2_with fail
        refine (HFT.out _ _ HO.out.prs hposX).mono ?_
        rintro e w4 ⟨g4, c4, rfl, ho, hb⟩
        have H4 := Lib.hid (H1.out.step hb)
        have HO4 := Lib.hid (ho.mono hs); clear ho hb
        go_wp2_with fail
        go_ret
        exact ⟨_, rfl, by rw [HRR.out]; exact HO4.out, H4.out.below⟩
end Go.Proofs.YtmboilogcnmlnaaGreat
