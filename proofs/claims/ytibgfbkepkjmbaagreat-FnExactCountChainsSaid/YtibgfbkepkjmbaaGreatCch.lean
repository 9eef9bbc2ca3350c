/-
  CountChains, of the model and of the program.
-/
import Derived.Test.YtibgfbkepkjmbaaGreatSwp
namespace Go.Proofs.YtibgfbkepkjmbaaGreat
open Go.RowKit
set_option linter.unusedVariables false
set_option linter.unusedSimpArgs false

noncomputable def ccB (ns ls : List Nd) (xs : List Int) (x y : Int) : Bool := properB ns ls xs && (!decide (x = y) && (inB x 0 5 && inB y 0 5))

noncomputable def ccW (ns ls : List Nd) (xs : List Int) (x y : Int) : Int := if ccB ns ls xs x y = true then (cntH (ccP (besM (atW ns ls) ls.length) (wF ns ls).length xs x y) (wF ns ls).length : Nat) else 0

theorem ccW_no {ns ls : List Nd} {xs : List Int} {x y : Int} (h : ccB ns ls xs x y = false) : ccW ns ls xs x y = 0 := if_neg (by rw [h]; simp)

theorem ccW_yes {ns ls : List Nd} {xs : List Int} {x y : Int} (h : ccB ns ls xs x y = true) : ccW ns ls xs x y = (cntH (ccP (besM (atW ns ls) ls.length) (wF ns ls).length xs x y) (wF ns ls).length : Nat) := if_pos h

theorem ccP_x {M : Nat → Nat → Bool} {N f : Nat} {xs : List Int} {x y : Int} (hxy : x ≠ y) (h : atZ xs f = x) : ccP M N xs x y f = decide (atZ (chnL M (chnP xs f y) N f) 0 = (f : Int)) := by
  unfold ccP otherC
  rw [if_neg (by rw [h]; exact hxy), h]
  simp

theorem ccP_y {M : Nat → Nat → Bool} {N f : Nat} {xs : List Int} {x y : Int} (h : atZ xs f = y) : ccP M N xs x y f = decide (atZ (chnL M (chnP xs f x) N f) 0 = (f : Int)) := by
  unfold ccP otherC
  rw [if_pos h, h]
  simp

theorem ccP_no {M : Nat → Nat → Bool} {N f : Nat} {xs : List Int} {x y : Int} (h1 : atZ xs f ≠ x) (h2 : atZ xs f ≠ y) : ccP M N xs x y f = false := by
  unfold ccP
  rw [decide_eq_false h1, decide_eq_false h2]
  rfl

theorem cntH_succ (p : Nat → Bool) (n : Nat) : cntH p (n + 1) = if p n = true then cntH p n + 1 else cntH p n := rfl

theorem cntH_up {p : Nat → Bool} {n : Nat} (h : p n = true) : cntH p (n + 1) = cntH p n + 1 := by rw [cntH_succ, if_pos h]

theorem cntH_same {p : Nat → Bool} {n : Nat} (h : p n = false) : cntH p (n + 1) = cntH p n := by rw [cntH_succ, if_neg (by rw [h]; simp)]

theorem chn_len {M : Nat → Nat → Bool} {P : Int → Bool} {N f : Nat} : (chnL M P N f).length ≤ N := fltN_len _ _

set_option maxRecDepth 100000 in
set_option maxHeartbeats 1000000 in
theorem specCch (ns ls : List Nd) (xs : List Int) (vn vl v : Value) (x y : Int) (w : World) (hn : Prs w vn ns) (hl : Prs w vl ls) (hv : Seq w v xs) :
    Calls Tryz.prog 24 #[.agg #[vn, vl], v, .int .i64 x, .int .i64 y] w (IntIs (ccW ns ls xs x y) w) := by
  have HW := Lib.hid (fun w h1 h2 h3 => specProper ns ls xs vn vl v w h1 h2 h3)
  unfold BoolIs at HW
  have HMT := Lib.hid (fun w h1 h2 (hh : wholeB ns ls = true) => specMat ns ls vn vl w h1 h2 hh)
  unfold MatNew at HMT
  have HI1 := Lib.hid (fun w => specIn x 0 5 w)
  have HI2 := Lib.hid (fun w => specIn y 0 5 w)
  have HCH := Lib.hid (fun (q : Nat) (c : Int) (hq : q < (wF ns ls).length) (hxl : xs.length = (wF ns ls).length) am cm g w h1 h2 => specChn (besM (atW ns ls) ls.length) (wF ns ls).length (wF_thirteen ns ls) am cm g xs v q hq c w hxl h1 h2)
  unfold IntsNew at HCH
  have HCPO := Lib.hid (fun (q : Nat) (c : Int) (hq : q < (wF ns ls).length) => chn_pos (M := besM (atW ns ls) ls.length) (P := chnP xs q c) hq)
  have HNO := Lib.hid (fun h => ccW_no (ns := ns) (ls := ls) (xs := xs) (x := x) (y := y) h)
  have HY := Lib.hid (fun h1 => ccW_yes (ns := ns) (ls := ls) (xs := xs) (x := x) (y := y) h1)
  have HB0 := Lib.hid (show ccB ns ls xs x y = (properB ns ls xs && (!decide (x = y) && (inB x 0 5 && inB y 0 5))) from rfl)
  have HPT := Lib.hid (fun h => co_list (ns := ns) (ls := ls) (xs := xs) h)
  have h13 := wF_thirteen ns ls
  have HN := Lib.hid hn
  have HL := Lib.hid hl
  have HV := Lib.hid hv
  have H0 := Lib.hid (held_pair w vn vl 30)
  obtain ⟨A, c1, rfl⟩ := prs_form2 hn
  obtain ⟨A2, c2, rfl⟩ := prs_form2 hl
  obtain ⟨A3, c3, rfl⟩ := seq_form2 hv
  clear hn hl hv
  have HPX := Lib.hid (fun f hxy h => ccP_x (M := besM (atW ns ls) ls.length) (N := (wF ns ls).length) (f := f) (xs := xs) (x := x) (y := y) hxy h)
  have HPY := Lib.hid (fun f h => ccP_y (M := besM (atW ns ls) ls.length) (N := (wF ns ls).length) (f := f) (xs := xs) (x := x) (y := y) h)
  have HPN := Lib.hid (fun f h1 h2 => ccP_no (M := besM (atW ns ls) ls.length) (N := (wF ns ls).length) (f := f) (xs := xs) (x := x) (y := y) h1 h2)
  generalize ccW ns ls xs x y = R at *
  generalize ccB ns ls xs x y = cb at *
  generalize ccP (besM (atW ns ls) ls.length) (wF ns ls).length xs x y = P at *
  generalize properB ns ls xs = pb at *
  generalize hix : inB x 0 5 = ix at *
  generalize hiy : inB y 0 5 = iy at *
  clear hix hiy
  generalize besM (atW ns ls) ls.length = M at *
  generalize (wF ns ls).length = N at *
  generalize wholeB ns ls = wh at *
  have HCU := Lib.hid (fun n h => cntH_up (p := P) (n := n) h)
  have HCS := Lib.hid (fun n h => cntH_same (p := P) (n := n) h)
  have HCL := Lib.hid (fun n => cntH_le P n)
  have HC0 := Lib.hid (show cntH P 0 = 0 from rfl)
  generalize cntH P = Q at *
  go_enter Tryz.func24, Tryz.ntmps24
  obtain ⟨x0, x1, _⟩ := H0.out.1
  go_wp2_with fail
  refine (HW.out _ (HN.out.step H0.out.below) (HL.out.step H0.out.below) (HV.out.step H0.out.below)).mono ?_
  rintro e w1 ⟨rfl, hb⟩
  have H1 := Lib.hid (H0.out.step hb)
  clear hb x0 x1
  obtain ⟨x0, x1, _⟩ := H1.out.1
  cases pb
  · have HCB := Lib.hid (show cb = false from HB0.out)
    have HF := Lib.hid (HNO.out HCB.out)
    go_wp2_with fail
    go_ret
    exact ⟨ret_int HF.out.symm, H1.out.below⟩
  · by_cases hxy : x = y
    · have HCB := Lib.hid (show cb = false from by rw [HB0.out]; simp [hxy])
      have e1 : (x == y) = true := by simp [hxy]
      clear HPX
      generalize hyy : y = y' at *
      clear hxy hyy
      have HF := Lib.hid (HNO.out HCB.out)
      go_wp2_with fail
      go_ret
      exact ⟨ret_int HF.out.symm, H1.out.below⟩
    · have e1 : (x == y) = false := by rw [beq_eq_false_iff_ne]; exact hxy
      have HXY := Lib.hid hxy
      rw [decide_eq_false hxy] at HB0
      clear hxy
      go_wp2_with fail
      refine (HI1.out _).mono ?_
      rintro e w2 ⟨rfl, rfl⟩
      cases ix
      · have HCB := Lib.hid (show cb = false from HB0.out)
        have HF := Lib.hid (HNO.out HCB.out)
        go_wp2_with fail
        go_ret
        exact ⟨ret_int HF.out.symm, H1.out.below⟩
      · go_wp2_with fail
        refine (HI2.out _).mono ?_
        rintro e w2 ⟨rfl, rfl⟩
        cases iy
        · have HCB := Lib.hid (show cb = false from HB0.out)
          have HF := Lib.hid (HNO.out HCB.out)
          go_wp2_with fail
          go_ret
          exact ⟨ret_int HF.out.symm, H1.out.below⟩
        · obtain ⟨hwh, hxl⟩ := HPT.out (by first | rfl | trivial)
          have HF := Lib.hid (HY.out HB0.out)
          have HWH := Lib.hid hwh
          have HXL := Lib.hid hxl
          clear hwh hxl HNO HY HB0
          go_wp2_with fail
          refine (HMT.out _ (HN.out.step H1.out.below) (HL.out.step H1.out.below) HWH.out).mono ?_
          rintro e w3 ⟨vm, gm, rfl, hm, hb⟩
          have H3 := Lib.hid (H1.out.step hb)
          have HM3 := Lib.hid (hm.mono (b' := 0) (Nat.zero_le _))
          obtain ⟨am, cm, rfl, -⟩ := hm.form
          clear hm hb x0 x1
          go_wp2_with fail
          go_loopw [10, 11] (fun n i wr => ∃ k : Nat, k ≤ N ∧ i = .int .i64 k ∧ n = .int .i64 (Q k : Nat) ∧ MatG wr 0 (.slice am N cm) gm N N M ∧ Below w.heap.size w wr) (fun _ i _ => N - (intOf i).toNat)
          case atStart => exact ⟨0, Nat.zero_le _, rfl, by rw [HC0.out]; rfl, HM3.out, H3.out.below⟩
          case round =>
            obtain ⟨k, hk, rfl, rfl, hm, hb⟩ := hrel
            clear HM3
            have HM := Lib.hid hm; clear hm
            have HH := Lib.hid hb; clear hb
            have hql := HCL.out k
            by_cases hlt : k < N
            · obtain ⟨bx, ox, rfl, hbx, hcx⟩ := seq_at (HV.out.step HH.out) k (by rw [HXL.out]; exact hlt)
              have cz := hcx k (by rw [HXL.out]; exact hlt)
              have q0 : (0 : Int) ≤ k := by omega
              have q1 : (k : Int) < (xs.length : Int) := by rw [HXL.out]; omega
              have hcut := HCU.out k
              have hcut2 := HCS.out k
              have HPXk := Lib.hid (HPX.out k HXY.out)
              have HPYk := Lib.hid (HPY.out k)
              have HPNk := Lib.hid (HPN.out k)
              clear hcx hbx
              by_cases hx : atZ xs k = x
              · have HPK := Lib.hid (HPXk.out hx)
                have HCHk := Lib.hid (fun (w5 : World) (hb : Below w.heap.size w wr) => HCH.out k y hlt HXL.out am cm gm wr HM.out (HV.out.step hb))
                have HCP := Lib.hid (HCPO.out k y hlt)
                generalize chnL M (chnP xs k y) N k = T at *
                rw [hx] at cz
                clear hx HPXk HPYk HPNk
                go_wp2_with fail
                refine (HCHk.out wr HH.out).mono ?_
                rintro e w4 ⟨v4, rfl, hT, hb⟩
                have HH4 := Lib.hid (HH.out.trans (hb.mono HH.out.size))
                have HM4 := Lib.hid (HM.out.step hb)
                obtain ⟨gT, cT, rfl⟩ := hT.some_ HCP.out
                obtain ⟨t0, -, t1, -, -⟩ := hT.at_ HCP.out
                have t2 : (0 : Int) < (T.length : Int) := by have := HCP.out; omega
                clear hb hT
                by_cases h0 : atZ T 0 = (k : Int)
                · have EP := Lib.hid (hcut (by rw [HPK.out]; exact decide_eq_true h0))
                  rw [h0] at t0
                  clear h0 hcut2
                  go_wp2_with fail
                  exact ⟨⟨k + 1, by omega, by go_num, by rw [EP.out]; go_num, HM4.out, HH4.out⟩, by simp [intOf]; omega⟩
                · have EP := Lib.hid (hcut2 (by rw [HPK.out]; exact decide_eq_false h0))
                  have e0 : (atZ T 0 == (k : Int)) = false := by rw [beq_eq_false_iff_ne]; exact h0
                  generalize atZ T 0 = t at *
                  clear h0 hcut
                  go_wp2_with fail
                  exact ⟨⟨k + 1, by omega, by go_num, by rw [EP.out], HM4.out, HH4.out⟩, by simp [intOf]; omega⟩
              · by_cases hy : atZ xs k = y
                · have HPK := Lib.hid (HPYk.out hy)
                  have e2 : (y == x) = false := by rw [beq_eq_false_iff_ne]; exact fun h => HXY.out h.symm
                  have HCHk := Lib.hid (fun (w5 : World) (hb : Below w.heap.size w wr) => HCH.out k x hlt HXL.out am cm gm wr HM.out (HV.out.step hb))
                  have HCP := Lib.hid (HCPO.out k x hlt)
                  generalize chnL M (chnP xs k x) N k = T at *
                  rw [hy] at cz
                  clear hx hy HPXk HPYk HPNk
                  go_wp2_with fail
                  refine (HCHk.out wr HH.out).mono ?_
                  rintro e w4 ⟨v4, rfl, hT, hb⟩
                  have HH4 := Lib.hid (HH.out.trans (hb.mono HH.out.size))
                  have HM4 := Lib.hid (HM.out.step hb)
                  obtain ⟨gT, cT, rfl⟩ := hT.some_ HCP.out
                  obtain ⟨t0, -, t1, -, -⟩ := hT.at_ HCP.out
                  have t2 : (0 : Int) < (T.length : Int) := by have := HCP.out; omega
                  clear hb hT
                  by_cases h0 : atZ T 0 = (k : Int)
                  · have EP := Lib.hid (hcut (by rw [HPK.out]; exact decide_eq_true h0))
                    rw [h0] at t0
                    clear h0 hcut2
                    go_wp2_with fail
                    exact ⟨⟨k + 1, by omega, by go_num, by rw [EP.out]; go_num, HM4.out, HH4.out⟩, by simp [intOf]; omega⟩
                  · have EP := Lib.hid (hcut2 (by rw [HPK.out]; exact decide_eq_false h0))
                    have e0 : (atZ T 0 == (k : Int)) = false := by rw [beq_eq_false_iff_ne]; exact h0
                    generalize atZ T 0 = t at *
                    clear h0 hcut
                    go_wp2_with fail
                    exact ⟨⟨k + 1, by omega, by go_num, by rw [EP.out], HM4.out, HH4.out⟩, by simp [intOf]; omega⟩
                · have e2 : (atZ xs k == x) = false := by rw [beq_eq_false_iff_ne]; exact hx
                  have e3 : (atZ xs k == y) = false := by rw [beq_eq_false_iff_ne]; exact hy
                  have EP := Lib.hid (hcut2 (HPNk.out hx hy))
                  generalize atZ xs k = z at *
                  clear hx hy HPXk HPYk HPNk hcut hcut2
                  go_wp2_with fail
                  exact ⟨⟨k + 1, by omega, by go_num, by rw [EP.out], HM.out, HH.out⟩, by simp [intOf]; omega⟩
            · obtain rfl : k = N := by omega
              have q1 : ¬ (k : Int) < (xs.length : Int) := by rw [HXL.out]; omega
              go_wp2_with fail
              go_ret
              exact ⟨ret_int HF.out.symm, HH.out⟩

set_option maxRecDepth 100000 in
set_option maxHeartbeats 1000000 in
theorem implCch (ns ls : List Nd) (xs : List Int) (vn vl v : Value) (x y : Int) (w : World) (hn : Prs w vn ns) (hl : Prs w vl ls) (hv : Seq w v xs) :
    Calls Tryz.prog 25 #[.agg #[vn, vl], v, .int .i64 x, .int .i64 y] w (IntIs (ccW ns ls xs x y) w) := by
  have HWG := Lib.hid (fun w h1 h2 h3 => implProperG ns ls xs vn vl v w h1 h2 h3)
  unfold GlassL at HWG
  have HIC := Lib.hid (fun c w => implIsColor1 c w)
  unfold BoolIs at HIC
  have HICx := Lib.hid (fun w => HIC.out x w)
  have HICy := Lib.hid (fun w => HIC.out y w)
  clear HIC
  have HCH := Lib.hid (fun (q : Nat) (c : Int) (hq : q < (wF ns ls).length) (hxl : xs.length = (wF ns ls).length) v1 v2 v3 v4 vx B w h1 h2 h3 h4 h5 => implChain v1 v2 v3 v4 vx (wF ns ls) (gA ns ls) xs (gN ns ls) (gL ns ls) B B q c w h1 h2 h3 h4 h5 (g_len ns ls).1 (g_len ns ls).2 (wF_thirteen ns ls) hxl hq)
  unfold IntsNew at HCH
  have HCPO := Lib.hid (fun (q : Nat) (c : Int) (hq : q < (wF ns ls).length) => chn_pos (M := besM (gA ns ls) (gL ns ls).length) (P := chnP xs q c) hq)
  have HNO := Lib.hid (fun h => ccW_no (ns := ns) (ls := ls) (xs := xs) (x := x) (y := y) h)
  have HY := Lib.hid (fun (hp : properB ns ls xs = true) (h1 : ccB ns ls xs x y = true) => (show ccW ns ls xs x y = (cntH (ccP (besM (gA ns ls) (gL ns ls).length) (wF ns ls).length xs x y) (wF ns ls).length : Nat) from by
    rw [ccW_yes h1, (gA_whole2 (co_list hp).1).1, (gA_whole2 (co_list hp).1).2]))
  have HB0 := Lib.hid (show ccB ns ls xs x y = (properB ns ls xs && (!decide (x = y) && (inB x 0 5 && inB y 0 5))) from rfl)
  have HPT := Lib.hid (fun h => (co_list (ns := ns) (ls := ls) (xs := xs) h).2)
  have HI1 := Lib.hid (inB_iff x 0 5)
  have HI2 := Lib.hid (inB_iff y 0 5)
  have h13 := wF_thirteen ns ls
  have HN := Lib.hid hn
  have HL := Lib.hid hl
  have HV := Lib.hid hv
  have H0 := Lib.hid (held_pair w vn vl 30)
  obtain ⟨A, c1, rfl⟩ := prs_form2 hn
  obtain ⟨A2, c2, rfl⟩ := prs_form2 hl
  obtain ⟨A3, c3, rfl⟩ := seq_form2 hv
  clear hn hl hv
  have HPX := Lib.hid (fun f hxy h => ccP_x (M := besM (gA ns ls) (gL ns ls).length) (N := (wF ns ls).length) (f := f) (xs := xs) (x := x) (y := y) hxy h)
  have HPY := Lib.hid (fun f h => ccP_y (M := besM (gA ns ls) (gL ns ls).length) (N := (wF ns ls).length) (f := f) (xs := xs) (x := x) (y := y) h)
  have HPN := Lib.hid (fun f h1 h2 => ccP_no (M := besM (gA ns ls) (gL ns ls).length) (N := (wF ns ls).length) (f := f) (xs := xs) (x := x) (y := y) h1 h2)
  generalize ccW ns ls xs x y = R at *
  generalize ccB ns ls xs x y = cb at *
  generalize ccP (besM (gA ns ls) (gL ns ls).length) (wF ns ls).length xs x y = P at *
  generalize properB ns ls xs = pb at *
  generalize inB x 0 5 = ix at *
  generalize inB y 0 5 = iy at *
  generalize besM (gA ns ls) (gL ns ls).length = M at *
  generalize gN ns ls = ns' at *
  generalize gL ns ls = ls' at *
  generalize gA ns ls = ds at *
  generalize wF ns ls = rs at *
  have HCU := Lib.hid (fun n h => cntH_up (p := P) (n := n) h)
  have HCS := Lib.hid (fun n h => cntH_same (p := P) (n := n) h)
  have HCL := Lib.hid (fun n => cntH_le P n)
  have HC0 := Lib.hid (show cntH P 0 = 0 from rfl)
  generalize cntH P = Q at *
  go_enter Tryz.func25, Tryz.ntmps25
  obtain ⟨x0, x1, _⟩ := H0.out.1
  go_wp2_with fail
  refine (HWG.out _ (HN.out.step H0.out.below) (HL.out.step H0.out.below) (HV.out.step H0.out.below)).mono ?_
  rintro e w1 ⟨v1, v2, v3, v4, rfl, g1, g2, g3, g4, hb⟩
  have H1 := Lib.hid (H0.out.step hb)
  have HG1 := Lib.hid g1
  have HG2 := Lib.hid g2
  have HG3 := Lib.hid g3
  have HG4 := Lib.hid g4
  have G0 := Lib.hid (heldG w1 v1 v2 v3 v4 71)
  have BN := Lib.hid (H1.out.below.trans (G0.out.below.mono H1.out.below.size))
  have HW1 := Lib.hid H1.out.below
  have G1 := Lib.hid (g1.step G0.out.below)
  have G2 := Lib.hid (g2.step G0.out.below)
  have G3 := Lib.hid (g3.step G0.out.below)
  have G4 := Lib.hid (g4.step G0.out.below)
  obtain ⟨A5, c5, rfl⟩ := prs_form2 g1
  obtain ⟨A6, c6, rfl⟩ := prs_form2 g2
  obtain ⟨A7, c7, rfl⟩ := faces_form g3
  obtain ⟨A8, c8, rfl⟩ := ints_form g4
  clear hb g1 g2 g3 g4 x0 x1 H1
  obtain ⟨x0, x1, x2, x3, _⟩ := G0.out.1
  cases pb
  · have HCB := Lib.hid (show cb = false from HB0.out)
    have HF := Lib.hid (HNO.out HCB.out)
    go_wp2_with fail
    go_ret
    exact ⟨ret_int HF.out.symm, BN.out⟩
  · have HXL := Lib.hid (HPT.out (by first | rfl | trivial))
    by_cases hxy : x = y
    · have HCB := Lib.hid (show cb = false from by rw [HB0.out]; simp [hxy])
      have e1 : (x == y) = true := by simp [hxy]
      clear HPX
      generalize hyy : y = y' at *
      clear hxy hyy
      have HF := Lib.hid (HNO.out HCB.out)
      go_wp2_with fail
      go_ret
      exact ⟨ret_int HF.out.symm, BN.out⟩
    · have e1 : (x == y) = false := by rw [beq_eq_false_iff_ne]; exact hxy
      have HXY := Lib.hid hxy
      rw [decide_eq_false hxy] at HB0
      clear hxy
      go_wp2_with fail
      refine (HICx.out _).mono ?_
      rintro e w2 ⟨rfl, hb⟩
      replace BN := Lib.hid (BN.out.trans (hb.mono BN.out.size))
      replace G0 := Lib.hid (G0.out.step hb)
      clear hb x0 x1 x2 x3
      obtain ⟨x0, x1, x2, x3, _⟩ := G0.out.1
      cases ix
      · have HCB := Lib.hid (show cb = false from HB0.out)
        have HF := Lib.hid (HNO.out HCB.out)
        go_wp2_with fail
        go_ret
        exact ⟨ret_int HF.out.symm, BN.out⟩
      · go_wp2_with fail
        refine (HICy.out _).mono ?_
        rintro e w3 ⟨rfl, hb⟩
        replace BN := Lib.hid (BN.out.trans (hb.mono BN.out.size))
        replace G0 := Lib.hid (G0.out.step hb)
        clear hb x0 x1 x2 x3
        obtain ⟨x0, x1, x2, x3, _⟩ := G0.out.1
        cases iy
        · have HCB := Lib.hid (show cb = false from HB0.out)
          have HF := Lib.hid (HNO.out HCB.out)
          go_wp2_with fail
          go_ret
          exact ⟨ret_int HF.out.symm, BN.out⟩
        · have HF := Lib.hid (HY.out (by first | rfl | trivial) HB0.out)
          have hx5 := HI1.out.1 (by first | rfl | trivial)
          have hy5 := HI2.out.1 (by first | rfl | trivial)
          clear HNO HY HB0 x0 x1 x2 x3
          go_wp2_with fail
          go_loopw [11, 39] (fun n i wr => ∃ k : Nat, k ≤ rs.length ∧ i = .int .i64 k ∧ n = .int .i64 (Q k : Nat) ∧ Held w1 wr [(w1.heap.size, 0, .slice A5 ns'.length c5), (w1.heap.size, 1, .slice A6 ls'.length c6), (w1.heap.size, 2, .slice A7 rs.length c7), (w1.heap.size, 3, .slice A8 ds.length c8)]) (fun _ i _ => rs.length - (intOf i).toNat)
          case atStart => exact ⟨0, Nat.zero_le _, rfl, by rw [HC0.out]; rfl, G0.out⟩
          case round =>
            obtain ⟨k, hk, rfl, rfl, hh⟩ := hrel
            have H1 := Lib.hid hh; clear hh
            have hql := HCL.out k
            obtain ⟨x0, x1, x2, x3, _⟩ := H1.out.1
            by_cases hlt : k < rs.length
            · obtain ⟨bx, ox, rfl, hbx, hcx⟩ := seq_at (HV.out.step (HW1.out.trans (H1.out.below.mono HW1.out.size))) k (by rw [HXL.out]; exact hlt)
              have cz := hcx k (by rw [HXL.out]; exact hlt)
              have q0 : (0 : Int) ≤ k := by omega
              have q1 : (k : Int) < (xs.length : Int) := by rw [HXL.out]; omega
              have hcut := HCU.out k
              have hcut2 := HCS.out k
              have HPXk := Lib.hid (HPX.out k HXY.out)
              have HPYk := Lib.hid (HPY.out k)
              have HPNk := Lib.hid (HPN.out k)
              have e5 : IntKind.i64.wrap (x + y) = x + y := IntWalk.i64_in _ (by omega)
              clear hcx hbx
              by_cases hx : atZ xs k = x
              · have HPK := Lib.hid (HPXk.out hx)
                have HCHk := Lib.hid (fun (w5 : World) (hb : Below w1.heap.size w1 wr) => HCH.out k y hlt HXL.out _ _ _ _ _ _ wr (HG1.out.step hb) (HG2.out.step hb) (HG3.out.step hb) (HG4.out.step hb) (HV.out.step (HW1.out.trans (hb.mono HW1.out.size))))
                have HCP := Lib.hid (HCPO.out k y hlt)
                have e6 : IntKind.i64.wrap (x + y - x) = y := by rw [show x + y - x = y by omega]; exact IntWalk.i64_in _ (by omega)
                have e7 : IntKind.i64.wrap y = y := IntWalk.i64_in _ (by omega)
                have e8 : (x != x) = false := by simp
                generalize chnL M (chnP xs k y) rs.length k = T at *
                rw [hx] at cz
                clear hx HPXk HPYk HPNk
                go_wp2_with fail
                refine (HCHk.out wr H1.out.below).mono ?_
                rintro e w4 ⟨v4, rfl, hT, hb⟩
                have H4 := Lib.hid (H1.out.step hb)
                obtain ⟨gT, cT, rfl⟩ := hT.some_ HCP.out
                obtain ⟨t0, -, t1, -, -⟩ := hT.at_ HCP.out
                have t2 : (0 : Int) < (T.length : Int) := by have := HCP.out; omega
                clear hb hT x0 x1 x2 x3
                by_cases h0 : atZ T 0 = (k : Int)
                · have EP := Lib.hid (hcut (by rw [HPK.out]; exact decide_eq_true h0))
                  rw [h0] at t0
                  clear h0 hcut2
                  go_wp2_with fail
                  exact ⟨⟨k + 1, by omega, by go_num, by rw [EP.out]; go_num, H4.out⟩, by simp [intOf]; omega⟩
                · have EP := Lib.hid (hcut2 (by rw [HPK.out]; exact decide_eq_false h0))
                  have e0 : (atZ T 0 == (k : Int)) = false := by rw [beq_eq_false_iff_ne]; exact h0
                  generalize atZ T 0 = t at *
                  clear h0 hcut
                  go_wp2_with fail
                  exact ⟨⟨k + 1, by omega, by go_num, by rw [EP.out], H4.out⟩, by simp [intOf]; omega⟩
              · by_cases hy : atZ xs k = y
                · have HPK := Lib.hid (HPYk.out hy)
                  have e2 : (y != x) = true := by simp; exact fun h => HXY.out h.symm
                  have e3 : (y != y) = false := by simp
                  have HCHk := Lib.hid (fun (w5 : World) (hb : Below w1.heap.size w1 wr) => HCH.out k x hlt HXL.out _ _ _ _ _ _ wr (HG1.out.step hb) (HG2.out.step hb) (HG3.out.step hb) (HG4.out.step hb) (HV.out.step (HW1.out.trans (hb.mono HW1.out.size))))
                  have HCP := Lib.hid (HCPO.out k x hlt)
                  have e6 : IntKind.i64.wrap (x + y - y) = x := by rw [show x + y - y = x by omega]; exact IntWalk.i64_in _ (by omega)
                  have e7 : IntKind.i64.wrap x = x := IntWalk.i64_in _ (by omega)
                  generalize chnL M (chnP xs k x) rs.length k = T at *
                  rw [hy] at cz
                  clear hx hy HPXk HPYk HPNk
                  go_wp2_with fail
                  refine (HCHk.out wr H1.out.below).mono ?_
                  rintro e w4 ⟨v4, rfl, hT, hb⟩
                  have H4 := Lib.hid (H1.out.step hb)
                  obtain ⟨gT, cT, rfl⟩ := hT.some_ HCP.out
                  obtain ⟨t0, -, t1, -, -⟩ := hT.at_ HCP.out
                  have t2 : (0 : Int) < (T.length : Int) := by have := HCP.out; omega
                  clear hb hT x0 x1 x2 x3
                  by_cases h0 : atZ T 0 = (k : Int)
                  · have EP := Lib.hid (hcut (by rw [HPK.out]; exact decide_eq_true h0))
                    rw [h0] at t0
                    clear h0 hcut2
                    go_wp2_with fail
                    exact ⟨⟨k + 1, by omega, by go_num, by rw [EP.out]; go_num, H4.out⟩, by simp [intOf]; omega⟩
                  · have EP := Lib.hid (hcut2 (by rw [HPK.out]; exact decide_eq_false h0))
                    have e0 : (atZ T 0 == (k : Int)) = false := by rw [beq_eq_false_iff_ne]; exact h0
                    generalize atZ T 0 = t at *
                    clear h0 hcut
                    go_wp2_with fail
                    exact ⟨⟨k + 1, by omega, by go_num, by rw [EP.out], H4.out⟩, by simp [intOf]; omega⟩
                · have e2 : (atZ xs k != x) = true := by simp; exact hx
                  have e3 : (atZ xs k != y) = true := by simp; exact hy
                  have EP := Lib.hid (hcut2 (HPNk.out hx hy))
                  generalize atZ xs k = z at *
                  clear hx hy HPXk HPYk HPNk hcut hcut2
                  go_wp2_with fail
                  exact ⟨⟨k + 1, by omega, by go_num, by rw [EP.out], H1.out⟩, by simp [intOf]; omega⟩
            · obtain rfl : k = rs.length := by omega
              have q1 : ¬ (rs.length : Int) < (xs.length : Int) := by rw [HXL.out]; omega
              go_wp2_with fail
              go_ret
              exact ⟨ret_int HF.out.symm, HW1.out.trans (H1.out.below.mono HW1.out.size)⟩
end Go.Proofs.YtibgfbkepkjmbaaGreat
