/-
  FacesAround, of the program and of the model.
-/
import Derived.Test.YtnonebfdognlmaaGreatGlsV
import Derived.Test.YtnonebfdognlmaaGreatG3
namespace Go.Proofs.YtnonebfdognlmaaGreat
open Go.RowKit
set_option linter.unusedVariables false
set_option linter.unusedSimpArgs false

set_option maxRecDepth 100000 in
set_option maxHeartbeats 2000000 in
theorem implAroundNo (ns ls : List Nd) (vn vl : Value) (k : Int) (w : World) (hn : Prs w vn ns) (hl : Prs w vl ls) (h20 : ls.length ≤ 20) (hno : ∀ d : Nat, d < 2 * ls.length → dF ls d ≠ k) :
    Calls Tryz.prog 75 #[.agg #[vn, vl], .int .i64 k, .func (.func 76) #[] #[]] w (IntsNew [] w) := by
  have HN := Lib.hid hn
  have HL := Lib.hid hl
  obtain ⟨A, c, rfl⟩ := prs_form2 hn
  obtain ⟨A2, c2, rfl⟩ := prs_form2 hl
  clear hn hl
  have HE := Lib.hid (fun (d : Nat) w hv (hd : d < 2 * ls.length) => dEnds ls (.slice A ns.length c) (.slice A2 ls.length c2) d w hv hd h20)
  unfold TwoIs at HE
  have HNO := Lib.hid hno; clear hno
  have H0 := Lib.hid (held_around w (.slice A ns.length c) (.slice A2 ls.length c2) (.func (.func 76) #[] #[]) k 59 3 102)
  have HO0 := Lib.hid (Ints.made (((w.alloc (.cells #[.slice A ns.length c, .slice A2 ls.length c2] 59)).alloc (.cells #[.int .i64 k] 3)).alloc (.cells #[.func (.func 76) #[] #[]] 102)) (w.heap.size + 3) (w.heap.size + 3) (by simp) (Nat.le_refl _))
  go_enter Tryz.func75, Tryz.ntmps75
  obtain ⟨x0, x1, x2, x3, _⟩ := H0.out.1
  go_wp2_with fail
  clear x0 x1 x2 x3
  go_loopw [7, 16] (fun v i wr => ∃ m : Nat, m ≤ 2 * ls.length ∧ i = .int .i64 m ∧ v = .slice (some ⟨w.heap.size + 3, 0, none⟩) 0 0 ∧ Ints wr (w.heap.size + 3) (.slice (some ⟨w.heap.size + 3, 0, none⟩) 0 0) [] ∧ Held w wr [(w.heap.size, 0, .slice A ns.length c), (w.heap.size, 1, .slice A2 ls.length c2), (w.heap.size + 2, 0, .func (.func 76) #[] #[]), (w.heap.size + 1, 0, .int .i64 k)]) (fun _ i _ => 2 * ls.length - (intOf i).toNat)
  case atStart => exact ⟨0, Nat.zero_le _, rfl, rfl, HO0.out, H0.out.alloc _⟩
  case round =>
    clear H0 HO0
    obtain ⟨m, hm, rfl, rfl, hown, hh⟩ := hrel
    have HOWN := Lib.hid hown; clear hown
    have H1 := Lib.hid hh; clear hh
    by_cases hlt : m < 2 * ls.length
    · have HX := Lib.hid (fun w hv => HE.out m w hv hlt)
      have gq : (dF ls m == k) = false := by rw [beq_eq_false_iff_ne]; exact HNO.out m hlt
      have hz1 : (m : Int) < 2 * (ls.length : Int) := by omega
      have hz2 : (0 : Int) ≤ m := by omega
      generalize dF ls m = a at *
      generalize dT ls m = b at *
      obtain ⟨x0, x1, x2, x3, _⟩ := H1.out.1
      go_wp2_with fail
      refine (HX.out _ (HL.out.step H1.out.below)).mono ?_
      rintro e w1 ⟨rfl, hb1⟩
      have HO1 := Lib.hid (HOWN.out.step hb1)
      have H3 := Lib.hid (H1.out.step hb1)
      clear hb1 x0 x1 x2 x3
      obtain ⟨x0, x1, x2, x3, _⟩ := H3.out.1
      go_wp2_with fail
      exact ⟨⟨m + 1, by omega, by go_num, rfl, HO1.out, H3.out⟩, by simp [intOf]; omega⟩
    · obtain rfl : m = 2 * ls.length := by omega
      have HSO := Lib.hid (sortFunc (w0 := w) (B := w.heap.size + 3) (g := w.heap.size + 3) (cp := 0) (fs := [(w.heap.size, 0, .slice A ns.length c), (w.heap.size, 1, .slice A2 ls.length c2), (w.heap.size + 2, 0, .func (.func 76) #[] #[]), (w.heap.size + 1, 0, .int .i64 k)]) (.pointer (some ⟨w.heap.size, 0, none⟩)) (.pointer (some ⟨w.heap.size + 2, 0, none⟩)) (.pointer (some ⟨w.heap.size + 1, 0, none⟩)) (fun _ _ => 0) [] wr (by omega) ⟨by omega, by omega, by omega, by omega, trivial⟩ H1.out HOWN.out (by simp) (fun W x y hx _ _ => by simp at hx))
      have HSE := Lib.hid (show sortL (fun _ _ => decide ((0 : Int) < 0)) [] = [] from List.eq_nil_of_length_eq_zero (sortL_len _ 0 [] rfl))
      rw [HSE.out] at HSO
      rw [show (([] : List Int).length) = 0 from rfl] at HSO
      go_wp2_with fail
      refine HSO.out.mono ?_
      rintro e w2 ⟨rfl, h1, h2⟩
      have HO2 := Lib.hid h1
      have HB2 := Lib.hid h2.below
      clear h1 h2
      go_wp2_with fail
      go_ret
      exact ⟨_, rfl, HO2.out.mono (by omega), HB2.out⟩

def nodB (ns ls : List Nd) (k : Int) : Bool := wholeB ns ls && idxB ns.length k
def aroG (ns ls : List Nd) (k : Int) : List Int := if nodB ns ls k = true then aroL ns ls k.toNat (2 * ls.length) else []
def farL (ds ys : List Int) (n : Nat) : List Int := (ys.take n).map fun d => atZ ds d.toNat
theorem farL_succ {ds ys : List Int} {n q : Nat} (h : n < ys.length) (hq : atZ ys n = (q : Int)) : farL ds ys (n + 1) = farL ds ys n ++ [atZ ds q] := by
  unfold farL
  rw [List.take_succ_eq_append_getElem h, atZ_get h, hq]
  simp
theorem farL_len (ds ys : List Int) (n : Nat) : (farL ds ys n).length ≤ n := by unfold farL; rw [List.length_map, List.length_take]; omega
noncomputable def farW (ns ls : List Nd) (k : Int) : List Int := farL (gA ns ls) (aroG ns ls k) (aroG ns ls k).length
theorem aroG_len (ns ls : List Nd) (k : Int) : (aroG ns ls k).length ≤ 20 := by
  unfold aroG
  split
  · rename_i h
    have hw := (whole_win (by unfold nodB at h; simp at h; exact h.1)).1
    rw [aro_len hw]
    have := from_le hw k.toNat
    omega
  · simp
theorem farW_len (ns ls : List Nd) (k : Int) : (farW ns ls k).length ≤ 40 := by
  have := farL_len (gA ns ls) (aroG ns ls k) (aroG ns ls k).length
  have := aroG_len ns ls k
  unfold farW
  omega
theorem aroG_at {ns ls : List Nd} {k : Int} {m : Nat} (h : m < (aroG ns ls k).length) : ∃ q : Nat, atZ (aroG ns ls k) m = q ∧ q < (gA ns ls).length := by
  unfold aroG at h ⊢
  by_cases hh : nodB ns ls k = true
  · rw [if_pos hh] at h ⊢
    obtain ⟨d, e, hd, _⟩ := aroL_at h
    have hw : wholeB ns ls = true := by unfold nodB at hh; simp at hh; exact hh.1
    exact ⟨d, e, by unfold gA; rw [if_pos hw, atW_len]; exact hd⟩
  · rw [if_neg hh] at h; simp at h
theorem implAroG (ns ls : List Nd) (k : Int) (vn vl : Value) (w : World) (hn : Prs w vn (gN ns ls)) (hl : Prs w vl (gL ns ls)) :
    Calls Tryz.prog 75 #[.agg #[vn, vl], .int .i64 k, .func (.func 76) #[] #[]] w (IntsNew (aroG ns ls k) w) := by
  by_cases hh : wholeB ns ls = true
  · obtain ⟨hw, _, h20, _⟩ := whole_win hh
    unfold gN at hn
    unfold gL at hl
    rw [if_pos hh] at hn hl
    by_cases hk : idxB ns.length k = true
    · obtain ⟨q, rfl, hq⟩ := idx_nat hk
      have := implAround ns ls vn vl q w hn hl hw hq
      unfold aroG nodB
      rw [hh, hk]
      exact this
    · have hkf : idxB ns.length k = false := by simpa using hk
      have := implAroundNo ns ls vn vl k w hn hl h20 (fun d hd e => by
        obtain ⟨a, b, ha, hb, h1, _⟩ := dart_nat hw hd
        exact hk ((idxB_iff _ _).2 (by omega)))
      unfold aroG nodB
      rw [hh, hkf]
      exact this
  · have hf : wholeB ns ls = false := by simpa using hh
    unfold gN at hn
    unfold gL at hl
    rw [if_neg hh] at hn hl
    have := implAroundNo [] [] vn vl k w hn hl (by simp) (fun d hd => by simp at hd)
    unfold aroG nodB
    rw [hf]
    exact this

set_option maxRecDepth 100000 in
set_option maxHeartbeats 4000000 in
theorem implFAround (ns ls : List Nd) (vn vl : Value) (k : Int) (w : World) (hn : Prs w vn ns) (hl : Prs w vl ls) :
    Calls Tryz.prog 46 #[.agg #[vn, vl], .int .i64 k] w (IntsNew (farW ns ls k) w) := by
  have HA := Lib.hid (fun v1 v2 w h1 h2 => implAroG ns ls k v1 v2 w h1 h2)
  unfold IntsNew at HA
  have HAT := Lib.hid (fun m => aroG_at (ns := ns) (ls := ls) (k := k) (m := m))
  have hy20 := aroG_len ns ls k
  have HR := Lib.hid (show farW ns ls k = farL (gA ns ls) (aroG ns ls k) (aroG ns ls k).length from rfl)
  have HU := Lib.hid (fun n q (h : n < (aroG ns ls k).length) (hq : atZ (aroG ns ls k) n = (q : Nat)) => farL_succ (ds := gA ns ls) h hq)
  have HLN := Lib.hid (farL_len (gA ns ls) (aroG ns ls k))
  have HZ := Lib.hid (show farL (gA ns ls) (aroG ns ls k) 0 = [] from rfl)
  obtain ⟨i0, hi, hz0, hz1, hz2⟩ := info_parts infoInt
  have HI := Lib.hid (And.intro hi (And.intro hz0 (And.intro hz1 hz2))); clear hi hz0 hz1 hz2
  have HN := Lib.hid hn
  have HL := Lib.hid hl
  have HGL := Lib.hid (fun w h1 h2 => implGlass ns ls vn vl w h1 h2)
  unfold GlassNew at HGL
  have H0 := Lib.hid (held_pair w vn vl 32)
  obtain ⟨A, c, rfl⟩ := prs_form2 hn
  obtain ⟨A2, c2, rfl⟩ := prs_form2 hl
  clear hn hl
  generalize farW ns ls k = res at *
  generalize farL (gA ns ls) (aroG ns ls k) = X at *
  generalize aroG ns ls k = ys at *
  generalize gN ns ls = ns' at *
  generalize gL ns ls = ls' at *
  generalize gA ns ls = ds at *
  generalize wF ns ls = rs at *
  generalize wholeB ns ls = ok at *
  go_enter Tryz.func46, Tryz.ntmps46
  go_wp2_with fail
  refine (HGL.out _ (HN.out.step H0.out.below) (HL.out.step H0.out.below)).mono ?_
  rintro e w1 ⟨v1, v2, v3, v4, rfl, g1, g2, g3, g4, hb⟩
  have B1 := Lib.hid (H0.out.below.trans (hb.mono H0.out.below.size))
  have G0 := Lib.hid ((heldG w1 v1 v2 v3 v4 61).alloc (.cells #[] 3))
  have HO0 := Lib.hid (Ints.made (w1.alloc (.cells #[v1, v2, v3, v4] 61)) (w1.heap.size + 1) (w1.heap.size + 1) (by simp) (Nat.le_refl _))
  have G1 := Lib.hid (g1.step G0.out.below)
  have G2 := Lib.hid (g2.step G0.out.below)
  have G4 := Lib.hid g4
  obtain ⟨A5, c5, rfl⟩ := prs_form2 g1
  obtain ⟨A6, c6, rfl⟩ := prs_form2 g2
  obtain ⟨A7, c7, rfl⟩ := faces_form g3
  obtain ⟨A8, c8, rfl⟩ := ints_form g4
  clear hb g1 g2 g3 g4 H0
  obtain ⟨y0, y1, y2, y3, _⟩ := G0.out.1
  go_wp2_with fail
  refine (HA.out _ _ _ G1.out G2.out).mono ?_
  rintro e w2 ⟨vy, rfl, hy, hb⟩
  have G9 := Lib.hid (G0.out.step hb)
  have HO9 := Lib.hid (HO0.out.step hb)
  have hw2 := hb.size
  have hw1 : ((w1.alloc (.cells #[.slice A5 ns'.length c5, .slice A6 ls'.length c6, .slice A7 rs.length c7, .slice A8 ds.length c8] 61)).alloc (.cells #[] 3)).heap.size = w1.heap.size + 1 + 1 := by simp
  clear hb y0 y1 y2 y3 G0 HO0 G1 G2
  by_cases h0 : 0 < ys.length
  · obtain ⟨gy, cy, rfl⟩ := hy.some_ h0
    have hgy := (hy.own gy rfl).1
    have HY9 := Lib.hid hy
    obtain ⟨q9, hq9, hq9N⟩ := HAT.out 0 h0
    obtain ⟨gd, cd, ed⟩ := G4.out.some_ (by omega)
    simp only [Value.slice.injEq] at ed
    obtain ⟨rfl, -, rfl⟩ := ed
    obtain ⟨BB, hBB⟩ : ∃ BB, BB = w1.heap.size + 1 := ⟨_, rfl⟩
    have HDC := Lib.hid (fun W (hb : Below w1.heap.size w1 W) j (hj : j < ds.length) => (show W.cell? ⟨gd, j, none⟩ = some (.int .i64 (atZ ds j)) ∧ gd < W.heap.size from by
      obtain ⟨d0, -, hgd, -, -⟩ := G4.out.at_ hj
      exact ⟨by rw [hb.cell (p := ⟨gd, j, none⟩) hgd]; exact d0, Nat.lt_of_lt_of_le hgd hb.size⟩))
    rw [hw1] at hgy
    have HN0 : ∀ k, (Value.slice (some ⟨w1.heap.size + 1, 0, none⟩) 0 0).ownBlock = some k → k ≠ gy := by
      intro k hk
      have hk' : w1.heap.size + 1 = k := by simpa [Value.ownBlock] using hk
      omega
    have HLT := Lib.hid (show w1.heap.size < BB ∧ w.heap.size ≤ BB from ⟨by omega, by have := B1.out.size; omega⟩)
    have HY9 := Lib.hid (hy.mono (b' := BB) (by rw [hw1]; omega))
    have HO8 := Lib.hid (HO9.out.mono (b' := BB) (by omega))
    have HBE := Lib.hid hBB
    clear hy HO9 hw1 hw2 hq9 hBB
    go_wp2_with fail
    go_loopw [7, 21] (fun v i wr => ∃ m : Nat, m ≤ ys.length ∧ i = .int .i64 m ∧ Ints wr BB v (X m) ∧ Ints wr BB (.slice (some ⟨gy, 0, none⟩) ys.length cy) ys ∧ (∀ k, v.ownBlock = some k → k ≠ gy) ∧ Held w1 wr [(w1.heap.size, 0, .slice A5 ns'.length c5), (w1.heap.size, 1, .slice A6 ls'.length c6), (w1.heap.size, 2, .slice A7 rs.length c7), (w1.heap.size, 3, .slice (some ⟨gd, 0, none⟩) ds.length c8)]) (fun _ i _ => ys.length - (intOf i).toNat)
    case atStart => exact ⟨0, Nat.zero_le _, rfl, by rw [HZ.out]; exact HO8.out, HY9.out, HN0, G9.out⟩
    case round =>
      clear HO8 HY9 G9 HN0 hgy
      obtain ⟨m, hm, rfl, hown, hyy, hne, hh⟩ := hrel
      have HO := Lib.hid hown; clear hown
      have HY := Lib.hid hyy; clear hyy
      have HNE := Lib.hid hne; clear hne
      have H1 := Lib.hid hh; clear hh
      obtain ⟨x0, x1, x2, x3, _⟩ := H1.out.1
      by_cases hlt : m < ys.length
      · obtain ⟨q, hq, hqN⟩ := HAT.out m hlt
        obtain ⟨c0, -, hgl, -, -⟩ := HY.out.at_ hlt
        obtain ⟨d0, hgd⟩ := HDC.out wr H1.out.below q hqN
        have HUM := Lib.hid (HU.out m q hlt hq)
        have hln := HLN.out m
        rw [hq] at c0
        have p1 : (0 : Int) ≤ m := by omega
        have p2 : (m : Int) < (ys.length : Int) := by omega
        have p3 : (0 : Int) ≤ q := by omega
        have p4 : (q : Int) < (ds.length : Int) := by omega
        generalize atZ ds q = z at *
        clear hq
        obtain ⟨hi, hz0, hz1, hz2⟩ := HI.out
        have hsz1 : BB ≤ wr.heap.size := by have := HBE.out; have := (H1.out.2.1.1); omega
        go_wp2_with (at_builtin; refine wpList_append_int rfl _ _ 41 rfl Tryz.underlying41 hi hz0 hz1 hz2 (World.ownsRow.alloc HO.out _) rfl rfl (cell_new0 _ _ _) (by omega) (by simp; omega) ?_)
        intro v' w5 hown hgrow hfresh
        have H5 := Lib.hid (H1.out.stepB (B := BB) ⟨HLT.out.1, HLT.out.1, HLT.out.1, HLT.out.1, trivial⟩ (grown_below HO.out hsz1 hgrow) (Nat.le_of_lt HLT.out.1))
        have HY5 := Lib.hid ((Ints.step HY.out ((Below.refl _ _).alloc (Nat.le_refl _) _)).grown hgrow (fun k hk e => by
          have hk' : gy = k := by simpa [Value.ownBlock] using hk
          exact HNE.out k e hk'.symm))
        have HN5 := Lib.hid (show ∀ k, v'.ownBlock = some k → k ≠ gy from fun k hk => by
          rcases hfresh with e | e
          · exact HNE.out k (by rw [← e]; exact hk)
          · rw [e] at hk
            have hk2 : wr.heap.size + 1 = k := by simpa using hk
            omega)
        have HO5 := Lib.hid (Ints.more (xs := X m) (x := z) (by simpa using hown))
        clear hown hgrow hfresh
        go_wp2_with fail
        exact ⟨⟨m + 1, by omega, by go_num, by rw [HUM.out]; exact HO5.out, HY5.out, HN5.out, H5.out⟩, by simp [intOf]; omega⟩
      · obtain rfl : m = ys.length := by omega
        go_wp2_with fail
        go_ret
        exact ⟨_, rfl, by rw [HR.out]; exact HO.out.mono HLT.out.2, B1.out.trans (H1.out.below.mono B1.out.size)⟩
  · have hx : ys = [] := List.eq_nil_of_length_eq_zero (by omega)
    subst hx
    obtain ⟨a, cv, rfl⟩ := ints_form hy
    have HE := Lib.hid (show res = [] from by rw [HR.out]; exact HZ.out)
    have hB1 := B1.out.size
    clear hy hw1 hw2
    go_wp2_with fail
    refine wp_loop_rounds 1 ?_
    rw [rounds_succ]
    go_wp2_with fail
    go_ret
    exact ⟨_, rfl, by rw [HE.out]; exact HO9.out.mono (by omega), B1.out.trans (G9.out.below.mono hB1)⟩

set_option maxRecDepth 100000 in
set_option maxHeartbeats 4000000 in
theorem specFAround (ns ls : List Nd) (vn vl : Value) (k : Int) (w : World) (hn : Prs w vn ns) (hl : Prs w vl ls) :
    Calls Tryz.prog 45 #[.agg #[vn, vl], .int .i64 k] w (IntsNew (farW ns ls k) w) := by
  have HN := Lib.hid hn
  have HL := Lib.hid hl
  have HW := Lib.hid (fun w h1 h2 => specWhole ns ls vn vl w h1 h2)
  unfold BoolIs at HW
  have HIN := Lib.hid (fun w => idxB_in ns.length k ▸ specIn k 0 ((ns.length : Int) - 1) w)
  have hlen := hn.len
  have H0 := Lib.hid (held_pair w vn vl 32)
  obtain ⟨A, c, rfl⟩ := prs_form2 hn
  obtain ⟨A2, c2, rfl⟩ := prs_form2 hl
  have H1 := Lib.hid (H0.out.alloc (.cells #[] 3))
  have HO1 := Lib.hid (Ints.made (w.alloc (.cells #[.slice A ns.length c, .slice A2 ls.length c2] 32)) (w.heap.size + 1) (w.heap.size + 1) (by simp) (Nat.le_refl _))
  clear hn hl H0
  have hy20 := aroG_len ns ls k
  have HAT := Lib.hid (fun m => aroG_at (ns := ns) (ls := ls) (k := k) (m := m))
  have HR := Lib.hid (show farW ns ls k = farL (gA ns ls) (aroG ns ls k) (aroG ns ls k).length from rfl)
  have HU := Lib.hid (fun n q (h : n < (aroG ns ls k).length) (hq : atZ (aroG ns ls k) n = (q : Nat)) => farL_succ (ds := gA ns ls) h hq)
  have HLN := Lib.hid (farL_len (gA ns ls) (aroG ns ls k))
  have HZ := Lib.hid (show farL (gA ns ls) (aroG ns ls k) 0 = [] from rfl)
  by_cases hh : nodB ns ls k = true
  · obtain ⟨hwh, hid⟩ : wholeB ns ls = true ∧ idxB ns.length k = true := by unfold nodB at hh; simpa using hh
    obtain ⟨hw, hl0, h20, h12⟩ := whole_win hwh
    have HSI := Lib.hid (fun w h1 h2 => specSides9 ns ls (.slice A ns.length c) (.slice A2 ls.length c2) w h1 h2 hwh)
    unfold IntsNew at HSI
    have hgA : gA ns ls = atW ns ls := if_pos hwh
    rw [← hgA] at HSI
    have hgl := (g_len ns ls).1
    have hgl2 : 0 < (gA ns ls).length := by rw [hgA, atW_len]; omega
    obtain ⟨q0, rfl, hq0⟩ := idx_nat hid
    have HP := Lib.hid (fun w h1 h2 => specAro ns ls (.slice A ns.length c) (.slice A2 ls.length c2) q0 w h1 h2 hw hq0)
    unfold IntsNew at HP
    rw [show aroL ns ls q0 (2 * ls.length) = aroG ns ls q0 from by unfold aroG; rw [if_pos hh]; rfl] at HP
    rw [hwh] at HW
    rw [hid] at HIN
    clear hh hwh hid hw hgA hgl hl0 h20 h12
    obtain ⟨i0, hi, hz0, hz1, hz2⟩ := info_parts infoInt
    have HI := Lib.hid (And.intro hi (And.intro hz0 (And.intro hz1 hz2))); clear hi hz0 hz1 hz2
    generalize farW ns ls (q0 : Int) = res at *
    generalize farL (gA ns ls) (aroG ns ls (q0 : Int)) = X at *
    generalize aroG ns ls (q0 : Int) = ys at *
    generalize gA ns ls = ds at *
    go_enter Tryz.func45, Tryz.ntmps45
    go_wp2_with fail
    refine (HW.out _ (HN.out.step H1.out.below) (HL.out.step H1.out.below)).mono ?_
    rintro e w1 ⟨rfl, hb⟩
    have H2 := Lib.hid (H1.out.step hb)
    have HO2 := Lib.hid (HO1.out.step hb)
    clear hb H1 HO1
    obtain ⟨x0, x1, _⟩ := H2.out.1
    go_wp2_with fail
    refine (HIN.out _).mono ?_
    rintro e w9 ⟨rfl, rfl⟩
    go_wp2_with fail
    refine (HSI.out _ (HN.out.step H2.out.below) (HL.out.step H2.out.below)).mono ?_
    rintro e w3 ⟨vd, rfl, hd, hb⟩
    have hw1 := H2.out.2.1.1
    have hb1 := (HO2.out.own (w.heap.size + 1) rfl).2
    have H3 := Lib.hid (H2.out.step hb)
    have HO3 := Lib.hid (HO2.out.step hb)
    obtain ⟨gd, cd, rfl⟩ := hd.some_ hgl2
    have hgd := (hd.own gd rfl).1
    have HD3 := Lib.hid hd
    clear hb hd H2 HO2 x0 x1
    obtain ⟨x0, x1, _⟩ := H3.out.1
    go_wp2_with fail
    refine (HP.out _ (HN.out.step H3.out.below) (HL.out.step H3.out.below)).mono ?_
    rintro e w4 ⟨vy, rfl, hy, hb⟩
    have hb3 := (HO3.out.own (w.heap.size + 1) rfl).2
    have hw3 := H3.out.2.1.1
    have H4 := Lib.hid (H3.out.step hb)
    have HO4 := Lib.hid (HO3.out.step hb)
    have HD4 := Lib.hid ((HD3.out.step hb).mono (b' := w.heap.size + 1) (by omega))
    clear hb H3 HO3 HD3 x0 x1
    by_cases h0 : 0 < ys.length
    · obtain ⟨gy, cy, rfl⟩ := hy.some_ h0
      have hgy := (hy.own gy rfl).1
      have HY4 := Lib.hid (hy.mono (b' := w.heap.size + 1) (by omega))
      have HN0 : ∀ k, (Value.slice (some ⟨w.heap.size + 1, 0, none⟩) 0 0).ownBlock = some k → k ≠ gd ∧ k ≠ gy := by
        intro k hk
        have hk' : w.heap.size + 1 = k := by simpa [Value.ownBlock] using hk
        omega
      clear hy hgy hgd hb1 hb3 hw1 hw3 hgl2
      go_wp2_with fail
      go_loopw [5, 8] (fun v i wr => ∃ m : Nat, m ≤ ys.length ∧ i = .int .i64 m ∧ Ints wr (w.heap.size + 1) v (X m) ∧ Ints wr (w.heap.size + 1) (.slice (some ⟨gd, 0, none⟩) ds.length cd) ds ∧ Ints wr (w.heap.size + 1) (.slice (some ⟨gy, 0, none⟩) ys.length cy) ys ∧ (∀ k, v.ownBlock = some k → k ≠ gd ∧ k ≠ gy) ∧ Held w wr [(w.heap.size, 0, .slice A ns.length c), (w.heap.size, 1, .slice A2 ls.length c2)]) (fun _ i _ => ys.length - (intOf i).toNat)
      case atStart => exact ⟨0, Nat.zero_le _, rfl, by rw [HZ.out]; exact HO4.out, HD4.out, HY4.out, HN0, H4.out⟩
      case round =>
        clear HO4 HD4 HY4 H4 HN0
        obtain ⟨m, hm, rfl, hown, hdd, hyy, hne, hh⟩ := hrel
        have HO := Lib.hid hown; clear hown
        have HD := Lib.hid hdd; clear hdd
        have HY := Lib.hid hyy; clear hyy
        have HNE := Lib.hid hne; clear hne
        have H1 := Lib.hid hh; clear hh
        by_cases hlt : m < ys.length
        · obtain ⟨q, hq, hqN⟩ := HAT.out m hlt
          obtain ⟨c0, -, hgl, -, -⟩ := HY.out.at_ hlt
          obtain ⟨d0, -, hgl3, -, -⟩ := HD.out.at_ hqN
          have HUM := Lib.hid (HU.out m q hlt hq)
          have hln := HLN.out m
          rw [hq] at c0
          have p1 : (0 : Int) ≤ m := by omega
          have p2 : (m : Int) < (ys.length : Int) := by omega
          have p3 : (0 : Int) ≤ q := by omega
          have p4 : (q : Int) < (ds.length : Int) := by omega
          generalize atZ ds q = z at *
          clear hq
          obtain ⟨hi, hz0, hz1, hz2⟩ := HI.out
          have hsz1 := H1.out.2.1.1
          go_wp2_with (at_builtin; refine wpList_append_int rfl _ _ 41 rfl Tryz.underlying41 hi hz0 hz1 hz2 (World.ownsRow.alloc HO.out _) rfl rfl (cell_new0 _ _ _) (by omega) (by simp; omega) ?_)
          intro v' w5 hown hgrow hfresh
          have H5 := Lib.hid (H1.out.stepB (B := w.heap.size + 1) ⟨Nat.lt_succ_self _, Nat.lt_succ_self _, trivial⟩ (grown_below HO.out hsz1 hgrow) (Nat.le_succ _))
          have HY5 := Lib.hid ((Ints.step HY.out ((Below.refl _ _).alloc (Nat.le_refl _) _)).grown hgrow (fun k hk e => by
            have hk' : gy = k := by simpa [Value.ownBlock] using hk
            exact (HNE.out k e).2 hk'.symm))
          have HD5 := Lib.hid ((Ints.step HD.out ((Below.refl _ _).alloc (Nat.le_refl _) _)).grown hgrow (fun k hk e => by
            have hk' : gd = k := by simpa [Value.ownBlock] using hk
            exact (HNE.out k e).1 hk'.symm))
          have HN5 := Lib.hid (show ∀ k, v'.ownBlock = some k → k ≠ gd ∧ k ≠ gy from fun k hk => by
            rcases hfresh with e | e
            · exact HNE.out k (by rw [← e]; exact hk)
            · rw [e] at hk
              have hk2 : wr.heap.size + 1 = k := by simpa using hk
              omega)
          have HO5 := Lib.hid (Ints.more (xs := X m) (x := z) (by simpa using hown))
          clear hown hgrow hfresh
          go_wp2_with fail
          exact ⟨⟨m + 1, by omega, by go_num, by rw [HUM.out]; exact HO5.out, HD5.out, HY5.out, HN5.out, H5.out⟩, by simp [intOf]; omega⟩
        · obtain rfl : m = ys.length := by omega
          go_wp2_with fail
          go_ret
          exact ⟨_, rfl, by rw [HR.out]; exact HO.out.mono (Nat.le_succ _), H1.out.below⟩
    · have hx : ys = [] := List.eq_nil_of_length_eq_zero (by omega)
      subst hx
      obtain ⟨a, cv, rfl⟩ := ints_form hy
      have HE := Lib.hid (show res = [] from by rw [HR.out]; exact HZ.out)
      clear hy
      go_wp2_with fail
      refine wp_loop_rounds 1 ?_
      rw [rounds_succ]
      go_wp2_with fail
      go_ret
      exact ⟨_, rfl, by rw [HE.out]; exact HO4.out.mono (Nat.le_succ _), H4.out.below⟩
  · have HE := Lib.hid (show farW ns ls k = [] from by
      rw [HR.out, show aroG ns ls k = [] from if_neg hh]
      rfl)
    clear HR HU HLN HZ HAT hy20
    generalize farW ns ls k = res at *
    by_cases hwh : wholeB ns ls = true
    · have hid : idxB ns.length k = false := by unfold nodB at hh; rw [hwh] at hh; simpa using hh
      rw [hwh] at HW
      rw [hid] at HIN
      clear hh hwh hid
      go_enter Tryz.func45, Tryz.ntmps45
      go_wp2_with fail
      refine (HW.out _ (HN.out.step H1.out.below) (HL.out.step H1.out.below)).mono ?_
      rintro e w1 ⟨rfl, hb⟩
      have H2 := Lib.hid (H1.out.step hb)
      have HO2 := Lib.hid (HO1.out.step hb)
      clear hb H1 HO1
      obtain ⟨x0, x1, _⟩ := H2.out.1
      go_wp2_with fail
      refine (HIN.out _).mono ?_
      rintro e w9 ⟨rfl, rfl⟩
      go_wp2_with fail
      go_ret
      exact ⟨_, rfl, by rw [HE.out]; exact HO2.out.mono (Nat.le_succ _), H2.out.below⟩
    · rw [show wholeB ns ls = false by simpa using hwh] at HW
      clear hh hwh
      go_enter Tryz.func45, Tryz.ntmps45
      go_wp2_with fail
      refine (HW.out _ (HN.out.step H1.out.below) (HL.out.step H1.out.below)).mono ?_
      rintro e w1 ⟨rfl, hb⟩
      have H2 := Lib.hid (H1.out.step hb)
      have HO2 := Lib.hid (HO1.out.step hb)
      clear hb H1 HO1
      go_wp2_with fail
      go_ret
      exact ⟨_, rfl, by rw [HE.out]; exact HO2.out.mono (Nat.le_succ _), H2.out.below⟩
end Go.Proofs.YtnonebfdognlmaaGreat
