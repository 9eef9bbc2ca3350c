/-
  GreedyColors, of the program.
-/
import Derived.Test.YtmboilogcnmlnaaGreatBlk
import Derived.Test.YtmboilogcnmlnaaGreatG10
import Derived.Test.YtmboilogcnmlnaaGreatFcnt
namespace Go.Proofs.YtmboilogcnmlnaaGreat
open Go.RowKit
set_option linter.unusedVariables false
set_option linter.unusedSimpArgs false

theorem grdW_g (ns ls : List Nd) : grdW ns ls = grdL (besM (gA ns ls) (gL ns ls).length) (wF ns ls).length := by
  by_cases hh : wholeB ns ls = true
  · unfold grdW gA gL
    rw [if_pos hh, if_pos hh, if_pos hh]
  · unfold grdW wF
    rw [if_neg hh, if_neg hh]
    rfl

theorem grdW_le (ns ls : List Nd) : (grdW ns ls).length ≤ 20 := by
  rw [grdW_g, grdL_len]
  have := wF_thirteen ns ls
  omega

theorem besR (ds : List Int) (q n : Nat) : (fun k : Nat => fltN (fun h : Nat => decide ((k : Int) ≠ (h : Int)) && decide (0 < (fltN (sharedP ds k h) q).length)) n) = rowM (besM ds q) n := by
  funext k
  unfold rowM
  exact fltN_congr n fun h _ => (besM_sub ds k h q).symm

theorem Held.setN {w W : World} {fs : List (Nat × Nat × Value)} {g o : Nat} {x : Value} (h : Held w W fs) (hn : Nblk g fs) (hg : w.heap.size ≤ g) : Held w (W.setCell ⟨g, o, none⟩ x) fs :=
  ⟨h.1.setFar hn, by rw [heap_setCell_size]; exact h.2.1, below_setCell h.2.2 hg⟩

theorem Cls.setC {W : World} {B g c k n : Nat} {vb : Value} {us : List Value} {rs : List (List Int)} {xs : List Int} (h : Cls W B vb (.slice (some ⟨g, 0, none⟩) n c) us rs xs) (hn : n = xs.length) (z : Int) : Cls (W.setCell ⟨g, k, none⟩ (.int .i64 z)) B vb (.slice (some ⟨g, 0, none⟩) n c) us rs (xs.set k z) := by
  refine ⟨h.rows.heap_ fun j _ _ e => Below.heap_setCell _ _ _ _ ?_, h.cols.set_ hn k z, h.apart⟩
  show j ≠ g
  rintro rfl
  rcases e with e | ⟨i, hi, e⟩
  · exact h.rows.row.far h.cols (k := j) rfl e
  · exact h.apart i hi j e rfl

set_option maxRecDepth 100000 in
set_option maxHeartbeats 4000000 in
theorem implGreedy (ns ls : List Nd) (vn vl : Value) (w : World) (hn : Prs w vn ns) (hl : Prs w vl ls) :
    Calls Tryz.prog 35 #[.agg #[vn, vl]] w (IntsNew (grdW ns ls) w) := by
  have HBK := Lib.hid (fun v1 v2 v3 v4 B B2 w h1 h2 h3 h4 => implBlank v1 v2 v3 v4 (wF ns ls) (gA ns ls) (gN ns ls) (gL ns ls) B B2 ((wF ns ls).length : Nat) w h1 h2 h3 h4 (g_len ns ls).1 (g_len ns ls).2 wF_len)
  unfold BlankRet at HBK
  rw [besR] at HBK
  rw [grdW_g]
  have h40 := wF_len (ns := ns) (ls := ls)
  generalize besM (gA ns ls) (gL ns ls).length = M at *
  have HN := Lib.hid hn
  have HL := Lib.hid hl
  have HGL := Lib.hid (fun w h1 h2 => implGlass ns ls vn vl w h1 h2)
  unfold GlassNew at HGL
  have H0 := Lib.hid (held_pair w vn vl 31)
  obtain ⟨A, c, rfl⟩ := prs_form2 hn
  obtain ⟨A2, c2, rfl⟩ := prs_form2 hl
  clear hn hl
  generalize gN ns ls = ns' at *
  generalize gL ns ls = ls' at *
  generalize gA ns ls = ds at *
  generalize wF ns ls = rs at *
  generalize wholeB ns ls = ok at *
  have HFL := Lib.hid (fun k (h : k ≤ rs.length) => fillL_len M h)
  have HFZ := Lib.hid (fillL_zero M rs.length)
  have HFE := Lib.hid (fillL_end M rs.length)
  have HFN := Lib.hid (fun k (h : k < rs.length) => fillL_next M h)
  have HCF := Lib.hid (fun k (h : k < rs.length) => chL_first M h)
  have HRL := Lib.hid (fun k j (h : j < (rowM M rs.length k).length) => rowM_lt (M := M) (n := rs.length) (k := k) h)
  have HRK := Lib.hid (fun k => fltN_len (fun h => M k h) rs.length)
  have HAT := Lib.hid (fun k (h : k < rs.length) => gath_at (rowM M rs.length) h)
  have HGN := Lib.hid (gath_len (rowM M rs.length) rs.length)
  generalize grdL M rs.length = res at *
  generalize hX : (fun k => mexZ M (grdL M k) k) = X at *
  have HFN := Lib.hid (fun k (h : k < rs.length) => (show (fillL M rs.length k).set k (X k) = fillL M rs.length (k + 1) from by rw [← hX]; exact HFN.out k h))
  have HCF := Lib.hid (fun k (h : k < rs.length) => (show 0 < (chL (rowM M rs.length k) (fillL M rs.length k) rs.length).length ∧ atZ (chL (rowM M rs.length k) (fillL M rs.length k) rs.length) 0 = X k from by rw [← hX]; exact HCF.out k h))
  clear hX
  have HRK := Lib.hid (fun k => (show (rowM M rs.length k).length ≤ rs.length from HRK.out k))
  generalize gath (rowM M rs.length) rs.length = GR at *
  generalize rowM M rs.length = RM at *
  generalize fillL M rs.length = F at *
  go_enter Tryz.func35, Tryz.ntmps35
  go_wp2_with fail
  refine (HGL.out _ (HN.out.step H0.out.below) (HL.out.step H0.out.below)).mono ?_
  rintro e w1 ⟨v1, v2, v3, v4, rfl, g1, g2, g3, g4, hb⟩
  have H1 := Lib.hid (H0.out.step hb)
  have G0 := Lib.hid (heldG w1 v1 v2 v3 v4 66)
  have B1 := Lib.hid (H1.out.below.trans (G0.out.below.mono H1.out.below.size))
  have G1 := Lib.hid (g1.step G0.out.below)
  have G2 := Lib.hid (g2.step G0.out.below)
  have G3 := Lib.hid (g3.step G0.out.below)
  have G4 := Lib.hid (g4.step G0.out.below)
  obtain ⟨A5, c5, rfl⟩ := prs_form2 g1
  obtain ⟨A6, c6, rfl⟩ := prs_form2 g2
  obtain ⟨A7, c7, rfl⟩ := faces_form g3
  obtain ⟨A8, c8, rfl⟩ := ints_form g4
  clear hb g1 g2 g3 g4
  obtain ⟨x0, x1, _⟩ := H1.out.1
  obtain ⟨y0, y1, y2, y3, _⟩ := G0.out.1
  go_wp2_with fail
  refine (HBK.out _ _ _ _ _ _ _ G1.out G2.out G3.out G4.out).mono ?_
  rintro e w2 ⟨vb, vc, us, rfl, hcl, hb⟩
  have B2 := Lib.hid (B1.out.trans (hb.mono B1.out.size))
  have hZ0 := B1.out.size
  have hZ1 := hb.size
  obtain ⟨Z, hZ⟩ : ∃ Z, Z = (w1.alloc (.cells #[.slice A5 ns'.length c5, .slice A6 ls'.length c6, .slice A7 rs.length c7, .slice A8 ds.length c8] 66)).heap.size := ⟨_, rfl⟩
  rw [← hZ] at hcl hZ0
  rw [← HFZ.out] at hcl
  clear hZ hb B1 G0 G1 G2 G3 G4 x0 x1 y0 y1 y2 y3 H1 H0 HGL HBK hZ1
  obtain ⟨ab, cb, rfl, -⟩ := hcl.rows.form
  obtain ⟨ac, cc, rfl, -⟩ := hcl.cols.form
  have HC2 := Lib.hid hcl; clear hcl
  rw [HGN.out] at HC2 ⊢
  rw [HFL.out 0 (Nat.zero_le _)] at HC2 ⊢
  have HOWN := Lib.hid (fun j e => HC2.out.cols.own j e)
  have H2 := Lib.hid ((show Held w w2 [] from ⟨trivial, trivial, B2.out⟩).new2 w2.heap.size rfl [.slice ab rs.length cb, .slice ac rs.length cc, .int .i64 rs.length] 88)
  have HC3 := Lib.hid (HC2.out.step (below_alloc w2 (.cells #[.slice ab rs.length cb, .slice ac rs.length cc, .int .i64 rs.length] 88)))
  clear HC2
  have hbw := B2.out.size
  obtain ⟨x0, x1, x2, _⟩ := H2.out.1
  go_wp2_with fail
  clear x0 x1 x2
  go_loopw [20] (fun i wr => ∃ k : Nat, k ≤ rs.length ∧ i = .int .i64 k ∧ Cls wr Z (.slice ab rs.length cb) (.slice ac rs.length cc) us GR (F k) ∧ Held w wr [(w2.heap.size, 0, .slice ab rs.length cb), (w2.heap.size, 1, .slice ac rs.length cc), (w2.heap.size, 2, .int .i64 rs.length)]) (fun i _ => rs.length - (intOf i).toNat)
  case atStart => exact ⟨0, Nat.zero_le _, rfl, HC3.out, H2.out⟩
  case round =>
    clear HC3 H2
    obtain ⟨k, hk, rfl, hcl, hh⟩ := hrel
    have HC := Lib.hid hcl; clear hcl
    have H1 := Lib.hid hh; clear hh
    obtain ⟨x0, x1, x2, _⟩ := H1.out.1
    have hsz := H1.out.2.1.1
    by_cases hlt : k < rs.length
    · have q1 : (0 : Int) ≤ k := by omega
      have q2 : (k : Int) < (rs.length : Int) := by omega
      have HFK := Lib.hid (HFL.out k (by omega))
      have HCK := Lib.hid (HCF.out k hlt)
      have HNK := Lib.hid (HFN.out k hlt)
      have HCH := Lib.hid (implChoices (.slice ab rs.length cb) (.slice ac rs.length cc) us GR (F k) rs.length k Z Z wr.drew (HC.out.rows.step (Below.refl _ _).drew) (HC.out.cols.step (Below.refl _ _).drew) (by rw [HGN.out]; exact hlt) (fun j hj => by rw [HAT.out k hlt] at hj ⊢; rw [HFK.out]; exact HRL.out k j hj) h40 (by rw [HAT.out k hlt]; have := HRK.out k; omega) (by rw [HFK.out]; exact h40) (by rw [HGN.out]; exact h40))
      unfold IntsNew at HCH
      rw [HAT.out k hlt] at HCH
      obtain ⟨gc, cc2, hvc⟩ := HC.out.cols.some_ (by rw [HFK.out]; omega)
      rw [HFK.out] at hvc
      simp only [Value.slice.injEq] at hvc
      obtain ⟨rfl, -, rfl⟩ := hvc
      have HCI := Lib.hid (show Ints wr Z (.slice (some ⟨gc, 0, none⟩) rs.length cc) (F k) from HC.out.cols)
      obtain ⟨z0, z3, z1, -, -⟩ := HCI.out.at_ (j := k) (by rw [HFK.out]; exact hlt)
      have hgz := (HCI.out.own gc rfl).1
      have hgb := (HOWN.out gc rfl).2
      have hlt0 : 0 < (chL (RM k) (F k) rs.length).length := HCK.out.1
      have HSET := Lib.hid (HC.out.setC (k := k) HFK.out.symm (X k))
      generalize hL : chL (RM k) (F k) rs.length = L at *
      clear hL
      have hz3 : w2.heap.size < wr.drew.heap.size := hsz
      have hz4 : gc < wr.drew.heap.size := Nat.lt_trans hgb hz3
      go_wp2_with fail
      go_region_law (first
        | (go_simp
           go_at_call 69
           refine HCH.out.mono ?_
           rintro e w5 ⟨vr, rfl, hm5, hb5⟩
           obtain ⟨g9, c9, rfl⟩ := hm5.some_ hlt0
           obtain ⟨p0, -, p1, -, -⟩ := hm5.at_ hlt0
           rw [HCK.out.2] at p0
           have k5 := (hb5.cell (p := ⟨w2.heap.size, 1, none⟩) hz3).trans x1
           have t5 := (hb5.cell (p := ⟨gc, k, none⟩) hz4).trans z0
           have g5 := (hb5.frozen (p := ⟨gc, k, none⟩) hz4).trans z3))
      all_goals
        have hb7 := (Below.refl _ _).drew.trans hb5
        have HC5 := Lib.hid ((HC.out.step hb7).setC (k := k) HFK.out.symm (X k))
        rw [HNK.out] at HC5
        have H5 := Lib.hid ((H1.out.step hb7).setN (g := gc) (o := k) (x := .int .i64 (X k)) ⟨by omega, by omega, by omega, trivial⟩ (by omega))
        clear hb7 hb5 hm5 p0 p1 k5 t5 g5 x0 x1 x2 z0 z1 z3
        go_wp2_with fail
        exact ⟨⟨k + 1, by omega, by go_num, HC5.out, H5.out⟩, by simp [intOf]; omega⟩
    · obtain rfl : k = rs.length := by omega
      go_wp2_with fail
      go_ret
      exact ⟨_, rfl, by rw [← HFE.out]; exact HC.out.cols.mono (by omega), H1.out.below⟩
end Go.Proofs.YtmboilogcnmlnaaGreat
