/-
  IsDualTree, of the model and of the program.
-/
import Derived.Test.YtmcbbjobjogkmaaGreatUfT
import Derived.Test.YtmcbbjobjogkmaaGreatDetL
import Derived.Test.YtmcbbjobjogkmaaGreatGlsU
namespace Go.Proofs.YtmcbbjobjogkmaaGreat
open Go.RowKit Go.Maps
set_option linter.unusedVariables false
set_option linter.unusedSimpArgs false

/-- The faces at both sides of the leads of a list. -/
def sidP (ds : List Int) (f : Nat → Nat) (k : Nat) : Nat × Nat := ((atZ ds (2 * f k)).toNat, (atZ ds (2 * f k + 1)).toNat)

noncomputable def dtrB (ns ls : List Nd) (xs : List Int) : Bool := wholeB ns ls && (lstB ls.length xs && (decide ((xs.length : Int) = ((wF ns ls).length : Int) - 1) && allB (sidP (atW ns ls) (lstF xs)) (wF ns ls).length xs.length))

theorem side_at {ns ls : List Nd} (hh : wholeB ns ls = true) {q : Nat} (hq : q < ls.length) : ∃ i j : Nat, atZ (atW ns ls) (2 * q) = i ∧ atZ (atW ns ls) (2 * q + 1) = j ∧ i < (wF ns ls).length ∧ j < (wF ns ls).length := by
  obtain ⟨hw, -, -, -⟩ := whole_win hh
  refine ⟨_, _, atW_at (by omega), atW_at (by omega), ?_, ?_⟩
  · rw [wF_whole hh]; exact (atW_face hw (by omega)).2
  · rw [wF_whole hh]; exact (atW_face hw (by omega)).2

theorem sidP_is {ds : List Int} {f : Nat → Nat} {k i j : Nat} (h1 : atZ ds (2 * f k) = i) (h2 : atZ ds (2 * f k + 1) = j) : sidP ds f k = (i, j) := by
  unfold sidP
  rw [h1, h2]
  simp

set_option maxRecDepth 100000 in
set_option maxHeartbeats 4000000 in
theorem specDtr (ns ls : List Nd) (xs : List Int) (vn vl v : Value) (w : World) (hn : Prs w vn ns) (hl : Prs w vl ls) (hv : Seq w v xs) :
    Calls Tryz.prog 29 #[.agg #[vn, vl], v] w (BoolIs (dtrB ns ls xs) w) := by
  have HWH := Lib.hid (fun w h1 h2 => specWhole ns ls vn vl w h1 h2)
  have HLS := Lib.hid (fun w h => specLst ls.length xs v w h (by have := hl.len; omega))
  have HF := Lib.hid (fun w h1 h2 => specFacesL ns ls vn vl w h1 h2)
  unfold FacesNew at HF
  have HN := Lib.hid hn
  have HL := Lib.hid hl
  have HV := Lib.hid hv
  have hll := hl.len
  have hvl := hv.len
  have H0 := Lib.hid (held_pair w vn vl 32)
  have HSD := Lib.hid (fun w h1 h2 (hh : wholeB ns ls = true) => specSides9 ns ls vn vl w h1 h2 hh)
  unfold IntsNew at HSD
  obtain ⟨A, c, rfl⟩ := prs_form2 hn
  obtain ⟨A2, c2, rfl⟩ := prs_form2 hl
  obtain ⟨A3, c3, rfl⟩ := seq_form2 hv
  clear hn hl hv
  have HRS := Lib.hid (show dtrB ns ls xs = (wholeB ns ls && (lstB ls.length xs && (decide ((xs.length : Int) = ((wF ns ls).length : Int) - 1) && allB (sidP (atW ns ls) (lstF xs)) (wF ns ls).length xs.length))) from rfl)
  generalize dtrB ns ls xs = r at *
  cases hh : wholeB ns ls
  · have HR := Lib.hid (show r = false from by rw [HRS.out, hh]; rfl)
    rw [hh] at HWH
    clear HRS hh
    obtain ⟨x0, x1, _⟩ := H0.out.1
    go_enter Tryz.func29, Tryz.ntmps29
    go_wp2_with fail
    refine (HWH.out _ (HN.out.step H0.out.below) (HL.out.step H0.out.below)).mono ?_
    rintro e wH1 ⟨rfl, hb⟩
    have H1 := Lib.hid ((H0.out).step hb); clear hb
    try clear x0 x1
    obtain ⟨x0, x1, _⟩ := H1.out.1
    go_wp2_with fail
    go_ret
    exact ⟨ret_bool HR.out.symm, H1.out.below⟩
  cases hs : lstB ls.length xs
  · have HR := Lib.hid (show r = false from by rw [HRS.out, hh, hs]; rfl)
    rw [hh] at HWH
    rw [hs] at HLS
    clear HRS hh hs
    obtain ⟨x0, x1, _⟩ := H0.out.1
    go_enter Tryz.func29, Tryz.ntmps29
    go_wp2_with fail
    refine (HWH.out _ (HN.out.step H0.out.below) (HL.out.step H0.out.below)).mono ?_
    rintro e wH1 ⟨rfl, hb⟩
    have H1 := Lib.hid ((H0.out).step hb); clear hb
    try clear x0 x1
    obtain ⟨x0, x1, _⟩ := H1.out.1
    go_wp2_with fail
    refine (HLS.out _ (HV.out.step H1.out.below)).mono ?_
    rintro e wH2 ⟨rfl, hb⟩
    have H2 := Lib.hid ((H1.out).step hb); clear hb
    try clear x0 x1
    obtain ⟨x0, x1, _⟩ := H2.out.1
    go_wp2_with fail
    go_ret
    exact ⟨ret_bool HR.out.symm, H2.out.below⟩
  have HSD2 := Lib.hid (fun w h1 h2 => HSD.out w h1 h2 hh)
  have HSA := Lib.hid (fun q (hq : q < ls.length) => side_at hh hq)
  have HDL := Lib.hid (atW_len ns ls)
  rw [hh] at HWH
  rw [hs] at HLS
  obtain ⟨hw, hl0, hl20, hn12⟩ := whole_win hh
  have HLP := Lib.hid ((lstB_iff ls.length xs).1 hs)
  have hx20 := HLP.out.len
  have h40 := wF_len (ns := ns) (ls := ls)
  have hf0 : 0 < (wF ns ls).length := by
    obtain ⟨i, j, _, _, h, _⟩ := side_at hh hl0
    omega
  obtain ⟨N, hN⟩ : ∃ N, N = (wF ns ls).length := ⟨_, rfl⟩
  have HNN := Lib.hid hN
  by_cases hnum : ¬ (xs.length : Int) = (N : Int) - 1
  · have HR := Lib.hid (show r = false from by rw [HRS.out, hh, hs, ← hN]; simp [hnum])
    have e1 : ((xs.length : Int) != (N : Int) - 1) = true := by simp [hnum]
    have e2 : IntKind.i64.wrap ((N : Int) - 1) = (N : Int) - 1 := IntWalk.i64_in _ (by omega)
    clear HRS hh hs hN hw
    have HNM := Lib.hid hnum; clear hnum
    obtain ⟨x0, x1, _⟩ := H0.out.1
    go_enter Tryz.func29, Tryz.ntmps29
    go_wp2_with fail
    refine (HWH.out _ (HN.out.step H0.out.below) (HL.out.step H0.out.below)).mono ?_
    rintro e wH1 ⟨rfl, hb⟩
    have H1 := Lib.hid ((H0.out).step hb); clear hb
    try clear x0 x1
    obtain ⟨x0, x1, _⟩ := H1.out.1
    go_wp2_with fail
    refine (HLS.out _ (HV.out.step H1.out.below)).mono ?_
    rintro e wH2 ⟨rfl, hb⟩
    have H2 := Lib.hid ((H1.out).step hb); clear hb
    try clear x0 x1
    obtain ⟨x0, x1, _⟩ := H2.out.1
    go_wp2_with fail
    refine (HF.out _ (HN.out.step H2.out.below) (HL.out.step H2.out.below)).mono ?_
    rintro e w3 ⟨v3, rfl, hv3, hb⟩
    obtain ⟨a9, c9, rfl⟩ := faces_form hv3
    rw [← HNN.out]
    have H3 := Lib.hid (H2.out.step hb); clear hb hv3
    go_wp2_with fail
    go_ret
    exact ⟨ret_bool HR.out.symm, H3.out.below⟩
  have hnum : (xs.length : Int) = (N : Int) - 1 := Classical.not_not.1 hnum
  have HR := Lib.hid (show r = allB (sidP (atW ns ls) (lstF xs)) N xs.length from by rw [HRS.out, hh, hs, ← hN]; simp [hnum])
  clear HRS hs hw
  have e1 : ((xs.length : Int) != (N : Int) - 1) = false := by simp [hnum]
  have e2 : IntKind.i64.wrap ((N : Int) - 1) = (N : Int) - 1 := IntWalk.i64_in _ (by omega)
  have HNM := Lib.hid hnum; clear hnum
  have HGR := Lib.hid (fun w h => specGroups N w h)
  unfold IntsNew at HGR
  have HBAD := Lib.hid (fun k (hk : k < xs.length) h => allB_bad (p := sidP (atW ns ls) (lstF xs)) (N := N) hk h)
  have HGOOD := Lib.hid (fun h => allB_good (p := sidP (atW ns ls) (lstF xs)) (N := N) (m := xs.length) h)
  have HSTP := Lib.hid (fun k => (show stpB (sidP (atW ns ls) (lstF xs)) N k = (atZ (grpL (sidP (atW ns ls) (lstF xs)) N k) (sidP (atW ns ls) (lstF xs) k).1 != atZ (grpL (sidP (atW ns ls) (lstF xs)) N k) (sidP (atW ns ls) (lstF xs) k).2) from rfl))
  have HGS := Lib.hid (fun k => (show grpL (sidP (atW ns ls) (lstF xs)) N (k + 1) = jnL (grpL (sidP (atW ns ls) (lstF xs)) N k) (sidP (atW ns ls) (lstF xs) k).1 (sidP (atW ns ls) (lstF xs) k).2 from rfl))
  have HGL := Lib.hid (fun k => grpL_len (sidP (atW ns ls) (lstF xs)) N k)
  have HGZ := Lib.hid (show grpL (sidP (atW ns ls) (lstF xs)) N 0 = numL N from rfl)
  have HEP := Lib.hid (fun (k i j : Nat) (h1 : atZ (atW ns ls) (2 * lstF xs k) = i) (h2 : atZ (atW ns ls) (2 * lstF xs k + 1) = j) => sidP_is (ds := atW ns ls) (f := lstF xs) h1 h2)
  rw [← hN] at hf0 h40
  have HSA := Lib.hid (fun q (hq : q < ls.length) => (show ∃ i j : Nat, atZ (atW ns ls) (2 * q) = i ∧ atZ (atW ns ls) (2 * q + 1) = j ∧ i < N ∧ j < N from by rw [hN]; exact HSA.out q hq))
  clear hN hh
  generalize allB (sidP (atW ns ls) (lstF xs)) N xs.length = ab at *
  generalize stpB (sidP (atW ns ls) (lstF xs)) N = ST at *
  generalize grpL (sidP (atW ns ls) (lstF xs)) N = G at *
  generalize sidP (atW ns ls) (lstF xs) = EP at *
  generalize atW ns ls = ds at *
  obtain ⟨x0, x1, _⟩ := H0.out.1
  go_enter Tryz.func29, Tryz.ntmps29
  go_wp2_with fail
  refine (HWH.out _ (HN.out.step H0.out.below) (HL.out.step H0.out.below)).mono ?_
  rintro e wH1 ⟨rfl, hb⟩
  have H1 := Lib.hid ((H0.out).step hb); clear hb
  try clear x0 x1
  obtain ⟨x0, x1, _⟩ := H1.out.1
  go_wp2_with fail
  refine (HLS.out _ (HV.out.step H1.out.below)).mono ?_
  rintro e wH2 ⟨rfl, hb⟩
  have H2 := Lib.hid ((H1.out).step hb); clear hb
  try clear x0 x1
  obtain ⟨x0, x1, _⟩ := H2.out.1
  go_wp2_with fail
  refine (HF.out _ (HN.out.step H2.out.below) (HL.out.step H2.out.below)).mono ?_
  rintro e w3 ⟨v3, rfl, hv3, hb⟩
  obtain ⟨a9, c9, rfl⟩ := faces_form hv3
  rw [← HNN.out]
  have H3 := Lib.hid (H2.out.step hb); clear hb hv3 x0 x1
  obtain ⟨x0, x1, _⟩ := H3.out.1
  go_wp2_with fail
  refine (HSD2.out _ (HN.out.step H3.out.below) (HL.out.step H3.out.below)).mono ?_
  rintro e w4 ⟨vd, rfl, hd4, hb⟩
  have H4 := Lib.hid (H3.out.step hb); clear hb x0 x1
  have hs3 := H3.out.2.1.1
  obtain ⟨gd, cd, hvd⟩ : ∃ gd cd, vd = .slice (some ⟨gd, 0, none⟩) ds.length cd := hd4.some_ (by rw [HDL.out]; omega)
  subst hvd
  have hgd := hd4.own gd rfl
  have HD4 := Lib.hid hd4; clear hd4
  obtain ⟨x0, x1, _⟩ := H4.out.1
  go_wp2_with fail
  refine (HF.out _ (HN.out.step H4.out.below) (HL.out.step H4.out.below)).mono ?_
  rintro e w5 ⟨v5, rfl, hv5, hb⟩
  obtain ⟨a8, c8, rfl⟩ := faces_form hv5
  rw [← HNN.out]
  have H5 := Lib.hid (H4.out.step hb)
  have HD5 := Lib.hid (HD4.out.step hb); clear hb hv5 x0 x1
  go_wp2_with fail
  refine (HGR.out _ (by omega)).mono ?_
  rintro e w6 ⟨vg, rfl, hg, hb⟩
  have H6 := Lib.hid (H5.out.step hb)
  have hb45 := H5.out.2.1.1
  obtain ⟨g, cg, hvg⟩ : ∃ g cg, vg = .slice (some ⟨g, 0, none⟩) N cg := by
    obtain ⟨g, cg, h⟩ := hg.some_ (by rw [numL_len]; omega)
    exact ⟨g, cg, by rw [h, numL_len]⟩
  subst hvg
  have hgB := (hg.own g rfl).1
  have hd5 := (HD5.out.own gd rfl).2
  have hs5 := H5.out.2.1.1
  have HD6 := Lib.hid ((HD5.out.step hb).mono (b' := w.heap.size + 1) (by omega)); clear hb
  have HG6 := Lib.hid (hg.mono (b' := w.heap.size + 1) (by omega)); clear hg
  have hgw : w.heap.size < g := by omega
  have hgg : gd < g := by omega
  clear H0 H1 H2 H3 H4 H5 HD4 HD5 hgB hd5 hs5 hs3 hb45 hgd
  go_wp2_with fail
  go_loopw [7] (fun i wr => ∃ k : Nat, k ≤ xs.length ∧ i = .int .i64 k ∧ (∀ j, j < k → ST j = true) ∧ Ints wr (w.heap.size + 1) (.slice (some ⟨g, 0, none⟩) N cg) (G k) ∧ Ints wr (w.heap.size + 1) (.slice (some ⟨gd, 0, none⟩) ds.length cd) ds ∧ Held w wr [(w.heap.size, 0, .slice A ns.length c), (w.heap.size, 1, .slice A2 ls.length c2)]) (fun i _ => xs.length - (intOf i).toNat)
  case atStart => exact ⟨0, Nat.zero_le _, rfl, fun j hj => by omega, by rw [HGZ.out]; exact HG6.out, HD6.out, H6.out⟩
  case round =>
    clear HG6 H6 HD6
    obtain ⟨k, hk, rfl, hok, hgk, hdk, hh⟩ := hrel
    have HOK := Lib.hid hok; clear hok
    have HGK := Lib.hid hgk; clear hgk
    have HDK := Lib.hid hdk; clear hdk
    have H3 := Lib.hid hh; clear hh
    by_cases hlt : k < xs.length
    · obtain ⟨bb, oo, rfl, hbl, hcs⟩ := seq_at HV.out k hlt
      have hin := HLP.out.inr k hlt
      obtain ⟨q, hq⟩ : ∃ q : Nat, atZ xs k = (q : Int) := ⟨(atZ xs k).toNat, by omega⟩
      have hqlt : q < ls.length := by omega
      have c0 := hcs k hlt
      rw [hq] at c0
      clear hcs hin
      have hlf : lstF xs k = q := by unfold lstF; rw [hq]; rfl
      obtain ⟨i, j, hi1, hj1, hin, hjn⟩ := HSA.out q hqlt
      have HEK := Lib.hid (HEP.out k i j (by rw [hlf]; exact hi1) (by rw [hlf]; exact hj1))
      clear hlf hq
      have hdl : ds.length = 2 * ls.length := HDL.out
      obtain ⟨d0, -, hdw, -, -⟩ := HDK.out.at_ (j := 2 * q) (by omega)
      obtain ⟨d1, -, -, -, -⟩ := HDK.out.at_ (j := 2 * q + 1) (by omega)
      rw [hi1] at d0
      rw [hj1] at d1
      obtain ⟨z0, hz0⟩ : ∃ z0, z0 = 2 * q := ⟨_, rfl⟩
      obtain ⟨z1, hz1⟩ : ∃ z1, z1 = 2 * q + 1 := ⟨_, rfl⟩
      rw [← hz0] at d0
      rw [← hz1] at d1
      have t1 : z1 < ds.length := by omega
      clear hdl hi1 hj1
      have HSK := Lib.hid (show ST k = (atZ (G k) i != atZ (G k) j) from by rw [HSTP.out, HEK.out])
      have HGN := Lib.hid (show G (k + 1) = jnL (G k) i j from by rw [HGS.out, HEK.out])
      have HBK := Lib.hid (HBAD.out k hlt)
      have hB3 := H3.out.below
      have H4 := Lib.hid (held_plus H3.out (gs := [(bb, oo + k, .int .i64 (q : Int)), (gd, z0, .int .i64 (i : Int)), (gd, z1, .int .i64 (j : Int))]) ⟨(hB3.cell (p := ⟨bb, oo + k, none⟩) hbl).trans c0, d0, d1, trivial⟩ ⟨Nat.lt_of_lt_of_le hbl hB3.size, hdw, hdw, trivial⟩)
      simp only [List.cons_append, List.nil_append] at H4
      clear c0 d0 d1 hB3
      have p1 : (0 : Int) ≤ k := by omega
      have p2 : (k : Int) < (xs.length : Int) := by omega
      have p3 : (0 : Int) ≤ q := by omega
      have p5 : (z0 : Int) < (ds.length : Int) := by omega
      have p6 : (z1 : Int) < (ds.length : Int) := by omega
      have p7 : (0 : Int) ≤ z0 := by omega
      have p8 : (0 : Int) ≤ z1 := by omega
      have r1 : 2 * (q : Int) = (z0 : Int) := by omega
      have r2 : (z0 : Int) + 1 = (z1 : Int) := by omega
      have r3 : IntKind.i64.wrap (2 * (q : Int)) = (z0 : Int) := by rw [IntWalk.i64_in _ (by omega)]; omega
      have r4 : IntKind.i64.wrap ((z0 : Int) + 1) = (z1 : Int) := by rw [IntWalk.i64_in _ (by omega)]; omega
      have r5 : IntKind.i64.wrap (z0 : Int) = (z0 : Int) := IntWalk.i64_in _ (by omega)
      have r6 : IntKind.i64.wrap (z1 : Int) = (z1 : Int) := IntWalk.i64_in _ (by omega)
      clear hz0 hz1
      have HCL := fun W (hH : Held w W [(w.heap.size, 0, .slice A ns.length c), (w.heap.size, 1, .slice A2 ls.length c2), (bb, oo + k, .int .i64 (q : Int)), (gd, z0, .int .i64 (i : Int)), (gd, z1, .int .i64 (j : Int))]) (hX : Ints W (w.heap.size + 1) (.slice (some ⟨g, 0, none⟩) N cg) (G k) ∧ Ints W (w.heap.size + 1) (.slice (some ⟨gd, 0, none⟩) ds.length cd) ds) =>
        (specJoin (G k) i j (w.heap.size + 1) g cg N W hX.1 (HGL.out k) hin hjn (by omega)).mono fun e w'' h => (show e = .returned (.bool (ST k)) ∧ (Held w w'' [(w.heap.size, 0, .slice A ns.length c), (w.heap.size, 1, .slice A2 ls.length c2), (bb, oo + k, .int .i64 (q : Int)), (gd, z0, .int .i64 (i : Int)), (gd, z1, .int .i64 (j : Int))] ∧ (Ints w'' (w.heap.size + 1) (.slice (some ⟨g, 0, none⟩) N cg) (G (k + 1)) ∧ Ints w'' (w.heap.size + 1) (.slice (some ⟨gd, 0, none⟩) ds.length cd) ds)) from
          ⟨by rw [HSK.out]; exact h.1, hH.turn h.2.2 ⟨.inl (by omega), .inl (by omega), .inl (by omega), .inl (by omega), .inl (by omega), trivial⟩ (by omega), by rw [HGN.out]; exact h.2.1, hX.2.turn h.2.2 fun q e => by simp [Value.ownBlock] at e; omega⟩)
      have HCL := Lib.hid HCL
      clear HGN HEK
      have HXX := Lib.hid (And.intro HGK.out HDK.out)
      obtain ⟨x0, x1, x2, x3, x4, _⟩ := H4.out.1
      go_wp2_with fail
      clear x0 x1 x2 x3 x4
      refine regionC (C := fun W => Held w W [(w.heap.size, 0, .slice A ns.length c), (w.heap.size, 1, .slice A2 ls.length c2), (bb, oo + k, .int .i64 (q)), (gd, z0, .int .i64 (i)), (gd, z1, .int .i64 (j))]) (fun W => Held w W [(w.heap.size, 0, .slice A ns.length c), (w.heap.size, 1, .slice A2 ls.length c2), (bb, oo + k, .int .i64 (q)), (gd, z0, .int .i64 (i)), (gd, z1, .int .i64 (j))] ∧ (fun W => Ints W (w.heap.size + 1) (.slice (some ⟨g, 0, none⟩) N cg) (G k) ∧ Ints W (w.heap.size + 1) (.slice (some ⟨gd, 0, none⟩) ds.length cd) ds) W) (by kernel_rfl) ⟨H4.out.drew, ⟨HXX.out.1.step ((Below.refl _ _).drew), HXX.out.2.step ((Below.refl _ _).drew)⟩⟩ ?_
      refine takeC (i := 0) (v := ?_) (Stable.and (Stable.held _ _) (Stable.and (stable_ints _ _ _) (stable_ints _ _ _))) (fun _ h => h.1) rfl (by kernel_rfl) (by kernel_rfl) (by kernel_rfl) (fun _ _ _ h => h) ?_ ?_
      rotate_left
      · first | (refine Or.inl ⟨by rfl, fun W hS => detR_value (w' := W) ?_ (Below.refl _ _)⟩; obtain ⟨x0, x1, x2, x3, x4, _⟩ := hS.1; go_simp; first | done | with_reducible rfl) | fail
      simp only [Act.put, List.setIfInBounds_toArray, List.set_cons_zero, List.set_cons_succ]
      refine takeC (i := 1) (v := ?_) (Stable.and (Stable.held _ _) (Stable.and (stable_ints _ _ _) (stable_ints _ _ _))) (fun _ h => h.1) rfl (by kernel_rfl) (by kernel_rfl) (by kernel_rfl) (fun _ _ _ h => h) ?_ ?_
      rotate_left
      · first | (refine Or.inl ⟨by rfl, fun W hS => detR_value (w' := W) ?_ (Below.refl _ _)⟩; obtain ⟨x0, x1, x2, x3, x4, _⟩ := hS.1; go_simp; first | done | with_reducible rfl) | fail
      simp only [Act.put, List.setIfInBounds_toArray, List.set_cons_zero, List.set_cons_succ]
      refine takeC (i := 2) (v := ?_) (Stable.and (Stable.held _ _) (Stable.and (stable_ints _ _ _) (stable_ints _ _ _))) (fun _ h => h.1) rfl (by kernel_rfl) (by kernel_rfl) (by kernel_rfl) (fun _ _ _ h => h) ?_ ?_
      rotate_left
      · first | (refine Or.inl ⟨by rfl, fun W hS => detR_value (w' := W) ?_ (Below.refl _ _)⟩; obtain ⟨x0, x1, x2, x3, x4, _⟩ := hS.1; go_simp; first | done | with_reducible rfl) | fail
      simp only [Act.put, List.setIfInBounds_toArray, List.set_cons_zero, List.set_cons_succ]
      refine takeC (i := 3) (v := ?_) (Stable.and (Stable.held _ _) (Stable.and (stable_ints _ _ _) (stable_ints _ _ _))) (fun _ h => h.1) rfl (by kernel_rfl) (by kernel_rfl) (by kernel_rfl) (fun _ _ _ h => h) ?_ ?_
      rotate_left
      · first | (refine Or.inl ⟨by rfl, fun W hS => detR_value (w' := W) ?_ (Below.refl _ _)⟩; obtain ⟨x0, x1, x2, x3, x4, _⟩ := hS.1; go_simp; first | done | with_reducible rfl) | fail
      simp only [Act.put, List.setIfInBounds_toArray, List.set_cons_zero, List.set_cons_succ]
      refine takeC (i := 4) (v := ?_) (Stable.and (Stable.held _ _) (Stable.and (stable_ints _ _ _) (stable_ints _ _ _))) (fun _ h => h.1) rfl (by kernel_rfl) (by kernel_rfl) (by kernel_rfl) (fun _ _ _ h => h) ?_ ?_
      rotate_left
      · first | (refine Or.inl ⟨by rfl, fun W hS => detR_value (w' := W) ?_ (Below.refl _ _)⟩; obtain ⟨x0, x1, x2, x3, x4, _⟩ := hS.1; go_simp; first | done | with_reducible rfl) | fail
      simp only [Act.put, List.setIfInBounds_toArray, List.set_cons_zero, List.set_cons_succ]
      refine takeC (i := 5) (v := ?_) (Stable.and (Stable.held _ _) (Stable.and (stable_ints _ _ _) (stable_ints _ _ _))) (fun _ h => h.1) rfl (by kernel_rfl) (by kernel_rfl) (by kernel_rfl) (fun _ _ _ h => h) ?_ ?_
      rotate_left
      · first | (refine Or.inl ⟨by rfl, fun W hS => detR_value (w' := W) ?_ (Below.refl _ _)⟩; obtain ⟨x0, x1, x2, x3, x4, _⟩ := hS.1; go_simp; first | done | with_reducible rfl) | fail
      simp only [Act.put, List.setIfInBounds_toArray, List.set_cons_zero, List.set_cons_succ]
      refine takeC (i := 6) (v := ?_) (Stable.and (Stable.held _ _) (Stable.and (stable_ints _ _ _) (stable_ints _ _ _))) (fun _ h => h.1) rfl (by kernel_rfl) (by kernel_rfl) (by kernel_rfl) (fun _ _ _ h => h) ?_ ?_
      rotate_left
      · first | (refine Or.inl ⟨by rfl, fun W hS => detR_value (w' := W) ?_ (Below.refl _ _)⟩; obtain ⟨x0, x1, x2, x3, x4, _⟩ := hS.1; go_simp; first | done | with_reducible rfl) | fail
      simp only [Act.put, List.setIfInBounds_toArray, List.set_cons_zero, List.set_cons_succ]
      refine takeC (i := 7) (v := ?_) (Stable.and (Stable.held _ _) (Stable.and (stable_ints _ _ _) (stable_ints _ _ _))) (fun _ h => h.1) rfl (by kernel_rfl) (by kernel_rfl) (by kernel_rfl) (fun _ _ _ h => h) ?_ ?_
      rotate_left
      · first | (refine Or.inl ⟨by rfl, fun W hS => detR_value (w' := W) ?_ (Below.refl _ _)⟩; obtain ⟨x0, x1, x2, x3, x4, _⟩ := hS.1; go_simp; first | done | with_reducible rfl) | fail
      simp only [Act.put, List.setIfInBounds_toArray, List.set_cons_zero, List.set_cons_succ]
      refine takeC (i := 8) (v := ?_) (Stable.and (Stable.held _ _) (Stable.and (stable_ints _ _ _) (stable_ints _ _ _))) (fun _ h => h.1) rfl (by kernel_rfl) (by kernel_rfl) (by kernel_rfl) (fun _ _ _ h => h) ?_ ?_
      rotate_left
      · first | (refine Or.inl ⟨by rfl, fun W hS => detR_value (w' := W) ?_ (Below.refl _ _)⟩; obtain ⟨x0, x1, x2, x3, x4, _⟩ := hS.1; go_simp; first | done | with_reducible rfl) | fail
      simp only [Act.put, List.setIfInBounds_toArray, List.set_cons_zero, List.set_cons_succ]
      refine takeC (i := 9) (v := ?_) (Stable.and (Stable.held _ _) (Stable.and (stable_ints _ _ _) (stable_ints _ _ _))) (fun _ h => h.1) rfl (by kernel_rfl) (by kernel_rfl) (by kernel_rfl) (fun _ _ _ h => h) ?_ ?_
      rotate_left
      · first | (refine Or.inl ⟨by rfl, fun W hS => detR_value (w' := W) ?_ (Below.refl _ _)⟩; obtain ⟨x0, x1, x2, x3, x4, _⟩ := hS.1; go_simp; first | done | with_reducible rfl) | fail
      simp only [Act.put, List.setIfInBounds_toArray, List.set_cons_zero, List.set_cons_succ]
      refine takeC (i := 10) (v := ?_) (Stable.and (Stable.held _ _) (Stable.and (stable_ints _ _ _) (stable_ints _ _ _))) (fun _ h => h.1) rfl (by kernel_rfl) (by kernel_rfl) (by kernel_rfl) (fun _ _ _ h => h) ?_ ?_
      rotate_left
      · first | (refine Or.inl ⟨by rfl, fun W hS => detR_value (w' := W) ?_ (Below.refl _ _)⟩; obtain ⟨x0, x1, x2, x3, x4, _⟩ := hS.1; go_simp; first | done | with_reducible rfl) | fail
      simp only [Act.put, List.setIfInBounds_toArray, List.set_cons_zero, List.set_cons_succ]
      refine takeC (i := 11) (v := ?_) (Stable.and (Stable.held _ _) (Stable.and (stable_ints _ _ _) (stable_ints _ _ _))) (fun _ h => h.1) rfl (by kernel_rfl) (by kernel_rfl) (by kernel_rfl) (fun _ _ _ h => h) ?_ ?_
      rotate_left
      · first | (refine Or.inl ⟨by rfl, fun W hS => detR_value (w' := W) ?_ (Below.refl _ _)⟩; obtain ⟨x0, x1, x2, x3, x4, _⟩ := hS.1; go_simp; first | done | with_reducible rfl) | fail
      simp only [Act.put, List.setIfInBounds_toArray, List.set_cons_zero, List.set_cons_succ]
      refine takeC (i := 12) (v := ?_) (Stable.and (Stable.held _ _) (Stable.and (stable_ints _ _ _) (stable_ints _ _ _))) (fun _ h => h.1) rfl (by kernel_rfl) (by kernel_rfl) (by kernel_rfl) (fun _ _ _ h => h) ?_ ?_
      rotate_left
      · first | (refine Or.inl ⟨by rfl, fun W hS => detR_value (w' := W) ?_ (Below.refl _ _)⟩; obtain ⟨x0, x1, x2, x3, x4, _⟩ := hS.1; go_simp; first | done | with_reducible rfl) | fail
      simp only [Act.put, List.setIfInBounds_toArray, List.set_cons_zero, List.set_cons_succ]
      refine takeC (i := 13) (v := ?_) (Stable.and (Stable.held _ _) (Stable.and (stable_ints _ _ _) (stable_ints _ _ _))) (fun _ h => h.1) rfl (by kernel_rfl) (by kernel_rfl) (by kernel_rfl) (fun _ _ _ h => h) ?_ ?_
      rotate_left
      · first | (refine Or.inl ⟨by rfl, fun W hS => detR_value (w' := W) ?_ (Below.refl _ _)⟩; obtain ⟨x0, x1, x2, x3, x4, _⟩ := hS.1; go_simp; first | done | with_reducible rfl) | fail
      simp only [Act.put, List.setIfInBounds_toArray, List.set_cons_zero, List.set_cons_succ]
      refine takeC (i := 14) (v := ?_) (Stable.and (Stable.held _ _) (Stable.and (stable_ints _ _ _) (stable_ints _ _ _))) (fun _ h => h.1) rfl (by kernel_rfl) (by kernel_rfl) (by kernel_rfl) (fun _ _ _ h => h) ?_ ?_
      rotate_left
      · first | (refine Or.inl ⟨by rfl, fun W hS => detR_value (w' := W) ?_ (Below.refl _ _)⟩; obtain ⟨x0, x1, x2, x3, x4, _⟩ := hS.1; go_simp; first | done | with_reducible rfl) | fail
      simp only [Act.put, List.setIfInBounds_toArray, List.set_cons_zero, List.set_cons_succ]
      refine takeC (i := 15) (v := ?_) (Stable.and (Stable.held _ _) (Stable.and (stable_ints _ _ _) (stable_ints _ _ _))) (fun _ h => h.1) rfl (by kernel_rfl) (by kernel_rfl) (by kernel_rfl) (fun _ _ _ h => h) ?_ ?_
      rotate_left
      · first | (refine Or.inl ⟨by rfl, fun W hS => detR_value (w' := W) ?_ (Below.refl _ _)⟩; obtain ⟨x0, x1, x2, x3, x4, _⟩ := hS.1; go_simp; first | done | with_reducible rfl) | fail
      simp only [Act.put, List.setIfInBounds_toArray, List.set_cons_zero, List.set_cons_succ]
      refine takeC (i := 16) (v := ?_) (Stable.and (Stable.held _ _) (Stable.and (stable_ints _ _ _) (stable_ints _ _ _))) (fun _ h => h.1) rfl (by kernel_rfl) (by kernel_rfl) (by kernel_rfl) (fun _ _ _ h => h) ?_ ?_
      rotate_left
      · first | (refine Or.inl ⟨by rfl, fun W hS => detR_value (w' := W) ?_ (Below.refl _ _)⟩; obtain ⟨x0, x1, x2, x3, x4, _⟩ := hS.1; go_simp; first | done | with_reducible rfl) | fail
      simp only [Act.put, List.setIfInBounds_toArray, List.set_cons_zero, List.set_cons_succ]
      refine takeC (i := 17) (v := ?_) (Stable.and (Stable.held _ _) (Stable.and (stable_ints _ _ _) (stable_ints _ _ _))) (fun _ h => h.1) rfl (by kernel_rfl) (by kernel_rfl) (by kernel_rfl) (fun _ _ _ h => h) ?_ ?_
      rotate_left
      · first | (refine Or.inl ⟨by rfl, fun W hS => detR_value (w' := W) ?_ (Below.refl _ _)⟩; obtain ⟨x0, x1, x2, x3, x4, _⟩ := hS.1; go_simp; first | done | with_reducible rfl) | fail
      simp only [Act.put, List.setIfInBounds_toArray, List.set_cons_zero, List.set_cons_succ]
      refine callC (i := 18) (.bool (ST k)) (fun W => Held w W [(w.heap.size, 0, .slice A ns.length c), (w.heap.size, 1, .slice A2 ls.length c2), (bb, oo + k, .int .i64 (q)), (gd, z0, .int .i64 (i)), (gd, z1, .int .i64 (j))] ∧ (fun W => Ints W (w.heap.size + 1) (.slice (some ⟨g, 0, none⟩) N cg) (G (k + 1)) ∧ Ints W (w.heap.size + 1) (.slice (some ⟨gd, 0, none⟩) ds.length cd) ds) W) (Stable.and (Stable.held _ _) (Stable.and (stable_ints _ _ _) (stable_ints _ _ _))) (fun _ h => h.1) rfl (by kernel_rfl) (by rfl) (fun W hG => ?_) ?_
      · refine callD (w' := W) (f := ?_) (args := ?_) ?_ ?_; rotate_left 2; (go_simp; (refine ⟨?_, ?_⟩ <;> with_reducible rfl)); exact HCL.out W hG.1 hG.2
      simp only [Act.put, List.setIfInBounds_toArray, List.set_cons_zero, List.set_cons_succ]
      refine takeC (i := 19) (v := ?_) (Stable.and (Stable.held _ _) (Stable.and (stable_ints _ _ _) (stable_ints _ _ _))) (fun _ h => h.1) rfl (by kernel_rfl) (by kernel_rfl) (by kernel_rfl) (fun _ _ _ h => h) ?_ ?_
      rotate_left
      · first | (refine Or.inl ⟨by rfl, fun W hS => detR_value (w' := W) ?_ (Below.refl _ _)⟩; obtain ⟨x0, x1, x2, x3, x4, _⟩ := hS.1; go_simp; first | done | with_reducible rfl) | fail
      simp only [Act.put, List.setIfInBounds_toArray, List.set_cons_zero, List.set_cons_succ]
      refine doneC (by kernel_rfl) fun wH5 HG => ?_
      obtain ⟨hH, hX⟩ := HG
      have H5 := Lib.hid hH; clear hH
      have XH5 := Lib.hid hX; clear hX
      try clear x0 x1 x2 x3 x4
      obtain ⟨x0, x1, x2, x3, x4, _⟩ := H5.out.1
      have H6 := Lib.hid (H5.out.only (gs := [(w.heap.size, 0, .slice A ns.length c), (w.heap.size, 1, .slice A2 ls.length c2)]) (fun ⟨a, b, _⟩ => ⟨a, b, trivial⟩) (fun ⟨a, b, _⟩ => ⟨a, b, trivial⟩))
      have HG := Lib.hid XH5.out.1
      have HD := Lib.hid XH5.out.2
      clear XH5 HXX HCL HSK HGK HDK H4 H5 x0 x1 x2 x3 x4
      obtain ⟨x0, x1, _⟩ := H6.out.1
      cases hd : ST k
      · have HRF := Lib.hid (show r = false from by rw [HR.out]; exact HBK.out hd)
        go_wp2_with fail
        go_ret
        exact ⟨ret_bool HRF.out.symm, H6.out.below⟩
      · have HOK2 := Lib.hid (show ∀ j', j' < k + 1 → ST j' = true from fun j' hj' => by
          by_cases e : j' = k
          · rw [e]; exact hd
          · exact HOK.out j' (by omega))
        go_wp2_with fail
        exact ⟨⟨k + 1, by omega, by go_num, HOK2.out, HG.out, HD.out, H6.out⟩, by simp [intOf]; omega⟩
    · obtain rfl : k = xs.length := by omega
      have HRT := Lib.hid (show r = true from by rw [HR.out]; exact HGOOD.out HOK.out)
      obtain ⟨x0, x1, _⟩ := H3.out.1
      go_wp2_with fail
      go_ret
      exact ⟨ret_bool HRT.out.symm, H3.out.below⟩

set_option maxRecDepth 100000 in
set_option maxHeartbeats 8000000 in
theorem implJoinI (J : List (Int × Int)) (b : Nat) (p q : Int) (w : World) (hm : UfMap 3 intV w b J) (hok : JOk J) (hfl : FiledJ 3 intV J) (hp : ∃ l, keyOf Tryz.prog 3 (intV p) = some l) (hq : ∃ l, keyOf Tryz.prog 3 (intV q) = some l) (hlen : J.length ≤ 1000000) :
    Calls Tryz.prog 108 #[.map (some b), .int .i64 p, .int .i64 q] w (fun e w' => e = .returned (.bool (!decide (hdJ J p = hdJ J q))) ∧ UfMap 3 intV w' b (addJ J p q) ∧ Turn b (b + 1) w w') := by
  have HM := Lib.hid hm; clear hm
  have HP := Lib.hid (fun W (h : Below w.heap.size w W) => implHeadI J b p W (HM.out.step h) hok hfl hp)
  have HQ := Lib.hid (fun W (h : Below w.heap.size w W) => implHeadI J b q W (HM.out.step h) hok hfl hq)
  obtain ⟨lt, hlt⟩ := FiledJ.head hfl hq
  have HKT := Lib.hid hlt; clear hlt hok hfl hp hq
  have HEQ := Lib.hid (fun (h : hdJ J p = hdJ J q) => (show addJ J p q = J from if_pos h))
  have HNE := Lib.hid (fun (h : ¬ hdJ J p = hdJ J q) => (show addJ J p q = (hdJ J q, hdJ J p) :: J from if_neg h))
  have HSM := Lib.hid (fun (h : hdJ J p = hdJ J q) => (show (!decide (hdJ J p = hdJ J q)) = false from by simp [h]))
  have HDF := Lib.hid (fun (h : ¬ hdJ J p = hdJ J q) => (show (!decide (hdJ J p = hdJ J q)) = true from by simp [h]))
  generalize (!decide (hdJ J p = hdJ J q)) = res at *
  generalize addJ J p q = J2 at *
  generalize hdJ J p = hp at *
  generalize hdJ J q = hq at *
  go_enter Tryz.func108, Tryz.ntmps108
  go_wp2_with fail
  refine (HP.out _ (Below.refl _ _)).mono ?_
  rintro e w1 ⟨rfl, hb⟩
  have B1 := Lib.hid hb; clear hb
  go_wp2_with fail
  refine (HQ.out _ B1.out).mono ?_
  rintro e w2 ⟨rfl, hb⟩
  have B2 := Lib.hid (B1.out.trans (hb.mono B1.out.size)); clear hb
  have HM2 := Lib.hid (HM.out.step B2.out)
  by_cases he : hp = hq
  · subst he
    have HA := Lib.hid (HEQ.out rfl)
    have HB := Lib.hid (HSM.out rfl)
    go_wp2_with fail
    go_ret
    exact ⟨by rw [HB.out]; rfl, by rw [HA.out]; exact HM2.out, Turn.of_below B2.out⟩
  · have e1 : (hp == hq) = false := by rw [beq_eq_false_iff_ne]; exact he
    have e2 : decide (hp = hq) = false := by simp [he]
    have HA := Lib.hid (HNE.out he)
    have HB := Lib.hid (HDF.out he)
    clear he
    go_wp2_with (at_mapUpdate; refine wpList_join (t := hq) (c := hp) rfl _ _ _ rfl HM2.out keyIsInt hlen HKT.out rfl rfl rfl ?_; intro w4 hmap hg4)
    go_ret
    exact ⟨by rw [HB.out]; rfl, by rw [HA.out]; exact hmap, (Turn.of_below B2.out).trans (Turn.of_grown hg4 fun g e => by injection e with e; omega)⟩

set_option maxRecDepth 100000 in
set_option maxHeartbeats 8000000 in
theorem implTreeF (v1 v2 v3 v4 v : Value) (rs : List (List Int)) (ds : List Int) (ns ls : List Nd) (B B2 : Nat) (xs : List Int) (w : World) (hn : Prs w v1 ns) (hl : Prs w v2 ls) (hf : Faces w B v3 rs) (ha : Ints w B2 v4 ds) (hv : Seq w v xs) (hdl : ds.length = 2 * ls.length) (hl20 : ls.length ≤ 20) (h40 : rs.length ≤ 40)
    (hsa : ∀ q, q < ls.length → ∃ i j : Nat, atZ ds (2 * q) = i ∧ atZ ds (2 * q + 1) = j ∧ i < rs.length ∧ j < rs.length) :
    Calls Tryz.prog 66 #[.agg #[v1, v2, v3, v4], v] w (BoolIs (lstB ls.length xs && (decide ((xs.length : Int) = (rs.length : Int) - 1) && allB (sidP ds (lstF xs)) rs.length xs.length)) w) := by
  have HLS := Lib.hid (fun w h => implLst ls.length xs v w h (by have := hl.len; omega))
  have HSD := Lib.hid (fun q W (hb : Below w.heap.size w W) (h1 : q < ls.length) => implSides v1 v2 v3 v4 rs ds ns ls B B2 q W (hn.step hb) (hl.step hb) (hf.step hb) (ha.step hb) (by omega) (by omega))
  unfold ArrIs at HSD
  have HV := Lib.hid hv
  have hvl := hv.len
  have H0 := Lib.hid (heldG w v1 v2 v3 v4 67)
  obtain ⟨A, c, rfl⟩ := prs_form2 hn
  obtain ⟨A2, c2, rfl⟩ := prs_form2 hl
  obtain ⟨A7, c7, rfl⟩ := faces_form hf
  obtain ⟨A8, c8, rfl⟩ := ints_form ha
  obtain ⟨A3, c3, rfl⟩ := seq_form2 hv
  have HSA := Lib.hid hsa
  clear hn hl hv hf ha hdl hsa
  obtain ⟨N, hN⟩ : ∃ N, N = rs.length := ⟨_, rfl⟩
  rw [← hN] at HSA h40 H0 HSD ⊢
  clear hN
  have e2 : IntKind.i64.wrap ((N : Int) - 1) = (N : Int) - 1 := IntWalk.i64_in _ (by omega)
  by_cases hnum : ¬ (xs.length : Int) = (N : Int) - 1
  · have HR := Lib.hid (show (lstB ls.length xs && (decide ((xs.length : Int) = (N : Int) - 1) && allB (sidP ds (lstF xs)) N xs.length)) = false from by simp [hnum])
    generalize (lstB ls.length xs && (decide ((xs.length : Int) = (N : Int) - 1) && allB (sidP ds (lstF xs)) N xs.length)) = r at *
    have e1 : ((xs.length : Int) != (N : Int) - 1) = true := by simp [hnum]
    have HNM := Lib.hid hnum; clear hnum
    obtain ⟨x0, x1, x2, x3, _⟩ := H0.out.1
    go_enter Tryz.func66, Tryz.ntmps66
    go_wp2_with fail
    go_ret
    exact ⟨ret_bool HR.out.symm, H0.out.below⟩
  have hnum : (xs.length : Int) = (N : Int) - 1 := Classical.not_not.1 hnum
  have e1 : ((xs.length : Int) != (N : Int) - 1) = false := by simp [hnum]
  cases hs : lstB ls.length xs
  · have HR := Lib.hid (show (false && (decide ((xs.length : Int) = (N : Int) - 1) && allB (sidP ds (lstF xs)) N xs.length)) = false from rfl)
    generalize (false && (decide ((xs.length : Int) = (N : Int) - 1) && allB (sidP ds (lstF xs)) N xs.length)) = r at *
    rw [hs] at HLS
    have HNM := Lib.hid hnum; clear hnum hs
    obtain ⟨x0, x1, x2, x3, _⟩ := H0.out.1
    go_enter Tryz.func66, Tryz.ntmps66
    go_wp2_with fail
    refine (HLS.out _ (HV.out.step H0.out.below)).mono ?_
    rintro e wH2 ⟨rfl, hb⟩
    have H2 := Lib.hid ((H0.out).step hb); clear hb
    try clear x0 x1 x2 x3
    obtain ⟨x0, x1, x2, x3, _⟩ := H2.out.1
    go_wp2_with fail
    go_ret
    exact ⟨ret_bool HR.out.symm, H2.out.below⟩
  have HLP := Lib.hid ((lstB_iff ls.length xs).1 hs)
  have hx20 := HLP.out.len
  have HR := Lib.hid (show (true && (decide ((xs.length : Int) = (N : Int) - 1) && allB (sidP ds (lstF xs)) N xs.length)) = allB (sidP ds (lstF xs)) N xs.length from by simp [hnum])
  generalize (true && (decide ((xs.length : Int) = (N : Int) - 1) && allB (sidP ds (lstF xs)) N xs.length)) = r at *
  rw [hs] at HLS
  have HNM := Lib.hid hnum; clear hnum hs
  have HIN := Lib.hid (fun k (hk : k < xs.length) => (show lstF xs k < ls.length from by have := HLP.out.inr k hk; unfold lstF; omega))
  have HPL := Lib.hid (fun k (hk : k < xs.length) => (show (sidP ds (lstF xs) k).1 < N ∧ (sidP ds (lstF xs) k).2 < N from by
    obtain ⟨i, j, h1, h2, h3, h4⟩ := HSA.out _ (HIN.out k hk)
    rw [sidP_is h1 h2]
    exact ⟨h3, h4⟩))
  have HBAD := Lib.hid (fun k (hk : k < xs.length) h => allB_bad (p := sidP ds (lstF xs)) (N := N) hk h)
  have HGOOD := Lib.hid (fun h => allB_good (p := sidP ds (lstF xs)) (N := N) (m := xs.length) h)
  have HHDS := Lib.hid (fun k (hk : k < xs.length) => stp_heads (fun i : Nat => (i : Int)) (sidP ds (lstF xs)) N (fun a b _ _ e => by omega) k (fun i hi => HPL.out i (by omega)))
  have HJST := Lib.hid (fun k => (show stpJ (fun i : Nat => (i : Int)) (sidP ds (lstF xs)) (k + 1) = addJ (stpJ (fun i : Nat => (i : Int)) (sidP ds (lstF xs)) k) ((sidP ds (lstF xs) k).1 : Int) ((sidP ds (lstF xs) k).2 : Int) from rfl))
  have HJZ := Lib.hid (show stpJ (fun i : Nat => (i : Int)) (sidP ds (lstF xs)) 0 = [] from rfl)
  have HJO := Lib.hid (stpJ_ok (fun i : Nat => (i : Int)) (sidP ds (lstF xs)))
  have HJL := Lib.hid (stpJ_len (fun i : Nat => (i : Int)) (sidP ds (lstF xs)))
  have HFJ := Lib.hid (fun k (hk : k ≤ xs.length) => FiledJ.stp (T := 3) (val := intV) (nd := fun i : Nat => (i : Int)) (p := sidP ds (lstF xs)) k fun i hi => keyInt _ (by have := (HPL.out i (by omega)).1; omega))
  have HEP := Lib.hid (fun (k i j : Nat) (h1 : atZ ds (2 * lstF xs k) = i) (h2 : atZ ds (2 * lstF xs k + 1) = j) => sidP_is (ds := ds) (f := lstF xs) h1 h2)
  generalize allB (sidP ds (lstF xs)) N xs.length = ab at *
  generalize stpB (sidP ds (lstF xs)) N = ST at *
  generalize stpJ (fun i : Nat => (i : Int)) (sidP ds (lstF xs)) = JJ at *
  generalize sidP ds (lstF xs) = EP at *
  have hmm := @run_makeMap Tryz.prog
  obtain ⟨x0, x1, x2, x3, _⟩ := H0.out.1
  go_enter Tryz.func66, Tryz.ntmps66
  go_wp2_with fail
  refine (HLS.out _ (HV.out.step H0.out.below)).mono ?_
  rintro e wH2 ⟨rfl, hb⟩
  have H2 := Lib.hid ((H0.out).step hb); clear hb
  try clear x0 x1 x2 x3
  obtain ⟨x0, x1, x2, x3, _⟩ := H2.out.1
  go_wp2_with fail
  clear hmm x0 x1 x2 x3
  have hsz2 := H2.out.2.1.1
  have H3 := Lib.hid (H2.out.alloc (.map #[] 0))
  have HM3 := Lib.hid (UfMap.made (K := Int) (T := 3) (val := intV) wH2)
  go_loopw [28] (fun i wr => ∃ k : Nat, k ≤ xs.length ∧ i = .int .i64 k ∧ (∀ j, j < k → ST j = true) ∧ UfMap 3 intV wr wH2.heap.size (JJ k) ∧ Held w wr [(w.heap.size, 0, .slice A ns.length c), (w.heap.size, 1, .slice A2 ls.length c2), (w.heap.size, 2, .slice A7 N c7), (w.heap.size, 3, .slice A8 ds.length c8)]) (fun i _ => xs.length - (intOf i).toNat)
  case atStart => exact ⟨0, Nat.zero_le _, rfl, fun j hj => by omega, by rw [HJZ.out]; exact HM3.out, H3.out⟩
  case round =>
    clear HM3 H3
    obtain ⟨k, hk, rfl, hok, hgk, hh⟩ := hrel
    have HOK := Lib.hid hok; clear hok
    have HMK := Lib.hid hgk; clear hgk
    have H3 := Lib.hid hh; clear hh
    by_cases hlt : k < xs.length
    · obtain ⟨bb, oo, rfl, hbl, hcs⟩ := seq_at (HV.out.step H3.out.below) k hlt
      have hin := HLP.out.inr k hlt
      obtain ⟨q, hq⟩ : ∃ q : Nat, atZ xs k = (q : Int) := ⟨(atZ xs k).toNat, by omega⟩
      have hqlt : q < ls.length := by omega
      have c0 := hcs k hlt
      rw [hq] at c0
      clear hcs hin
      have hlf : lstF xs k = q := by unfold lstF; rw [hq]; rfl
      obtain ⟨i, j, hi1, hj1, hin, hjn⟩ := HSA.out q hqlt
      have HEK := Lib.hid (HEP.out k i j (by rw [hlf]; exact hi1) (by rw [hlf]; exact hj1))
      clear hlf hq
      have HHD := Lib.hid (HHDS.out k hlt)
      have HJS := Lib.hid (HJST.out k)
      rw [HEK.out] at HHD HJS
      simp only at HHD HJS
      have HS := Lib.hid (fun W hb => HSD.out q W hb hqlt)
      rw [hi1, hj1] at HS
      have HKA := Lib.hid (keyInt (i : Int) (by omega))
      have HKB := Lib.hid (keyInt (j : Int) (by omega))
      have HBK := Lib.hid (HBAD.out k hlt)
      have HJN := Lib.hid (fun W (h : UfMap 3 intV W wH2.heap.size (JJ k)) => implJoinI (JJ k) wH2.heap.size i j W h (HJO.out k) (HFJ.out k (by omega)) HKA.out HKB.out (by have := HJL.out k; omega))
      rw [← HHD.out, ← HJS.out] at HJN
      clear HKA HKB HHD HJS HEK hi1 hj1
      have p1 : (0 : Int) ≤ k := by omega
      have p2 : (k : Int) < (xs.length : Int) := by omega
      obtain ⟨x0, x1, x2, x3, _⟩ := H3.out.1
      go_wp2_with fail
      refine (HS.out _ H3.out.below).mono ?_
      rintro e w5 ⟨rfl, hb⟩
      have H5 := Lib.hid (H3.out.step hb)
      have HM5 := Lib.hid ((HMK.out.step hb).step (below_alloc w5 (.cells #[.int .i64 (i : Int), .int .i64 (j : Int)] 125)))
      have H6 := Lib.hid (H5.out.alloc (.cells #[.int .i64 (i : Int), .int .i64 (j : Int)] 125))
      clear hb c0 x0 x1 x2 x3
      go_wp2_with fail
      have HJ2 := Lib.hid (HJN.out _ HM5.out)
      generalize hd : ST k = d at *
      cases d
      · have HRF := Lib.hid (show r = false from by rw [HR.out]; exact HBK.out rfl)
        refine HJ2.out.mono ?_
        rintro e w7 ⟨rfl, hm7, ht7⟩
        have H7 := Lib.hid (H6.out.turn ht7 ⟨.inl (by omega), .inl (by omega), .inl (by omega), .inl (by omega), trivial⟩ (by omega))
        go_wp2_with fail
        go_ret
        exact ⟨ret_bool HRF.out.symm, H7.out.below⟩
      · have HOK2 := Lib.hid (show ∀ j', j' < k + 1 → ST j' = true from fun j' hj' => by
          by_cases e : j' = k
          · rw [e]; exact hd
          · exact HOK.out j' (by omega))
        clear hd
        refine HJ2.out.mono ?_
        rintro e w7 ⟨rfl, hm7, ht7⟩
        have H7 := Lib.hid (H6.out.turn ht7 ⟨.inl (by omega), .inl (by omega), .inl (by omega), .inl (by omega), trivial⟩ (by omega))
        have HM7 := Lib.hid hm7
        clear hm7 ht7
        go_wp2_with fail
        exact ⟨⟨k + 1, by omega, by go_num, HOK2.out, HM7.out, H7.out⟩, by simp [intOf]; omega⟩
    · obtain rfl : k = xs.length := by omega
      have HRT := Lib.hid (show r = true from by rw [HR.out]; exact HGOOD.out HOK.out)
      go_wp2_with fail
      go_ret
      exact ⟨ret_bool HRT.out.symm, H3.out.below⟩

set_option maxRecDepth 100000 in
theorem implDtr (ns ls : List Nd) (xs : List Int) (vn vl v : Value) (w : World) (hn : Prs w vn ns) (hl : Prs w vl ls) (hv : Seq w v xs) :
    Calls Tryz.prog 30 #[.agg #[vn, vl], v] w (BoolIs (dtrB ns ls xs) w) := by
  have HV := Lib.hid hv
  obtain ⟨A3, c3, rfl⟩ := seq_form2 hv
  clear hv
  cases hh : wholeB ns ls
  · have HR := Lib.hid (show dtrB ns ls xs = false from by unfold dtrB; rw [hh]; rfl)
    generalize dtrB ns ls xs = r at *
    have HN := Lib.hid hn
    have HL := Lib.hid hl
    have HGL := Lib.hid (fun w h1 h2 => implGlass ns ls vn vl w h1 h2)
    unfold GlassNew at HGL
    have H0 := Lib.hid (held_pair w vn vl 32)
    obtain ⟨A, c, rfl⟩ := prs_form2 hn
    obtain ⟨A2, c2, rfl⟩ := prs_form2 hl
    clear hn hl
    rw [hh] at HGL
    clear hh
    go_enter Tryz.func30, Tryz.ntmps30
    go_wp2_with fail
    refine (HGL.out _ (HN.out.step H0.out.below) (HL.out.step H0.out.below)).mono ?_
    rintro e w1 ⟨v1, v2, v3, v4, rfl, g1, g2, g3, g4, hb⟩
    have H1 := Lib.hid (H0.out.step hb)
    have G0 := Lib.hid (heldG w1 v1 v2 v3 v4 67)
    have B1 := Lib.hid (H1.out.below.trans (G0.out.below.mono H1.out.below.size))
    have H1G := Lib.hid (H1.out.step G0.out.below)
    have G1 := Lib.hid (g1.step G0.out.below)
    have G2 := Lib.hid (g2.step G0.out.below)
    have G3 := Lib.hid (g3.step G0.out.below)
    have G4 := Lib.hid (g4.step G0.out.below)
    obtain ⟨A5, c5, rfl⟩ := prs_form2 g1
    obtain ⟨A6, c6, rfl⟩ := prs_form2 g2
    obtain ⟨A7, c7, rfl⟩ := faces_form g3
    obtain ⟨A8, c8, rfl⟩ := ints_form g4
    clear hb g1 g2 g3 g4
    obtain ⟨x0, x1, _⟩ := H1G.out.1
    obtain ⟨y0, y1, y2, y3, _⟩ := G0.out.1
    go_wp2_with fail
    go_ret
    exact ⟨ret_bool HR.out.symm, B1.out⟩
  · have hg1 : gN ns ls = ns := if_pos hh
    have hg2 : gL ns ls = ls := if_pos hh
    have hg3 : gA ns ls = atW ns ls := if_pos hh
    obtain ⟨hw, -, h20, -⟩ := whole_win hh
    have HT := Lib.hid (fun v1 v2 v3 v4 B B2 w h1 h2 h3 h4 h5 => implTreeF v1 v2 v3 v4 (.slice A3 xs.length c3) (wF ns ls) (atW ns ls) ns ls B B2 xs w h1 h2 h3 h4 h5 (atW_len ns ls) h20 wF_len (fun q hq => side_at hh hq))
    have HR := Lib.hid (show dtrB ns ls xs = (lstB ls.length xs && (decide ((xs.length : Int) = ((wF ns ls).length : Int) - 1) && allB (sidP (atW ns ls) (lstF xs)) (wF ns ls).length xs.length)) from by unfold dtrB; rw [hh]; rfl)
    rw [← HR.out] at HT
    generalize dtrB ns ls xs = r at *
    have HN := Lib.hid hn
    have HL := Lib.hid hl
    have HGL := Lib.hid (fun w h1 h2 => implGlass ns ls vn vl w h1 h2)
    unfold GlassNew at HGL
    have H0 := Lib.hid (held_pair w vn vl 32)
    obtain ⟨A, c, rfl⟩ := prs_form2 hn
    obtain ⟨A2, c2, rfl⟩ := prs_form2 hl
    clear hn hl
    rw [hh, hg1, hg2, hg3] at HGL
    clear hh hg1 hg2 hg3 hw HR
    go_enter Tryz.func30, Tryz.ntmps30
    go_wp2_with fail
    refine (HGL.out _ (HN.out.step H0.out.below) (HL.out.step H0.out.below)).mono ?_
    rintro e w1 ⟨v1, v2, v3, v4, rfl, g1, g2, g3, g4, hb⟩
    have H1 := Lib.hid (H0.out.step hb)
    have G0 := Lib.hid (heldG w1 v1 v2 v3 v4 67)
    have B1 := Lib.hid (H1.out.below.trans (G0.out.below.mono H1.out.below.size))
    have H1G := Lib.hid (H1.out.step G0.out.below)
    have G1 := Lib.hid (g1.step G0.out.below)
    have G2 := Lib.hid (g2.step G0.out.below)
    have G3 := Lib.hid (g3.step G0.out.below)
    have G4 := Lib.hid (g4.step G0.out.below)
    obtain ⟨A5, c5, rfl⟩ := prs_form2 g1
    obtain ⟨A6, c6, rfl⟩ := prs_form2 g2
    obtain ⟨A7, c7, rfl⟩ := faces_form g3
    obtain ⟨A8, c8, rfl⟩ := ints_form g4
    clear hb g1 g2 g3 g4
    obtain ⟨x0, x1, _⟩ := H1G.out.1
    obtain ⟨y0, y1, y2, y3, _⟩ := G0.out.1
    go_wp2_with fail
    refine (HT.out _ _ _ _ _ _ _ G1.out G2.out G3.out G4.out (HV.out.step B1.out)).mono ?_
    rintro e w2 ⟨rfl, hb⟩
    have B2 := Lib.hid (B1.out.trans (hb.mono B1.out.size)); clear hb
    go_wp2_with fail
    go_ret
    exact ⟨rfl, B2.out⟩
end Go.Proofs.YtmcbbjobjogkmaaGreat
