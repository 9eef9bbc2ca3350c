/-
  SidesOf, of the program and of the model.
-/
import Derived.Test.YtnonebfdognlmabGreatGlsV
namespace Go.Proofs.YtnonebfdognlmabGreat
open Go.RowKit
set_option linter.unusedVariables false
set_option linter.unusedSimpArgs false

def hasLd (ns ls : List Nd) (k : Int) : Bool := winB ns ls && idxB ls.length k
set_option maxRecDepth 100000 in
theorem implHasLd (ns ls : List Nd) (vn vl : Value) (k : Int) (w : World) (hn : Prs w vn ns) (hl : Prs w vl ls) :
    Calls Tryz.prog 71 #[.agg #[vn, vl], .int .i64 k] w (BoolIs (hasLd ns ls k) w) := by
  have HN := Lib.hid hn
  have HL := Lib.hid hl
  have hlen := hl.len
  obtain ⟨A, c, rfl⟩ := prs_form2 hn
  obtain ⟨A2, c2, rfl⟩ := prs_form2 hl
  clear hn hl
  have H0 := Lib.hid (held_pair w (.slice A ns.length c) (.slice A2 ls.length c2) 32)
  have HW := Lib.hid (fun w h1 h2 => implWin ns ls (.slice A ns.length c) (.slice A2 ls.length c2) w h1 h2)
  have HR := Lib.hid (show hasLd ns ls k = (winB ns ls && idxB ls.length k) from rfl)
  have HX := Lib.hid (idxB_iff ls.length k)
  generalize hasLd ns ls k = r at *
  generalize winB ns ls = d at *
  generalize idxB ls.length k = b at *
  cases d
  · go_enter Tryz.func71, Tryz.ntmps71
    go_wp2_with fail
    refine (HW.out _ (HN.out.step H0.out.below) (HL.out.step H0.out.below)).mono ?_
    rintro e wH1 ⟨rfl, hb⟩
    have H1 := Lib.hid ((H0.out).step hb); clear hb
    try clear x0 x1
    obtain ⟨x0, x1, _⟩ := H1.out.1
    go_wp2_with fail
    go_ret
    exact ⟨ret_bool (by rw [HR.out]; simp), H1.out.below⟩
  · by_cases h0 : 0 ≤ k
    · by_cases h1 : k < (ls.length : Int)
      · have hb : b = true := HX.out.2 (by omega)
        have HBB := Lib.hid hb; clear hb
        go_enter Tryz.func71, Tryz.ntmps71
        go_wp2_with fail
        refine (HW.out _ (HN.out.step H0.out.below) (HL.out.step H0.out.below)).mono ?_
        rintro e wH1 ⟨rfl, hb⟩
        have H1 := Lib.hid ((H0.out).step hb); clear hb
        try clear x0 x1
        obtain ⟨x0, x1, _⟩ := H1.out.1
        go_wp2_with fail
        go_ret
        exact ⟨ret_bool (by rw [HR.out, HBB.out]; first | (simp; done) | (simp; omega)), H1.out.below⟩
      · have hb : b = false := by cases b; · rfl
                                  · have := HX.out.1 rfl; omega
        have HBB := Lib.hid hb; clear hb
        go_enter Tryz.func71, Tryz.ntmps71
        go_wp2_with fail
        refine (HW.out _ (HN.out.step H0.out.below) (HL.out.step H0.out.below)).mono ?_
        rintro e wH1 ⟨rfl, hb⟩
        have H1 := Lib.hid ((H0.out).step hb); clear hb
        try clear x0 x1
        obtain ⟨x0, x1, _⟩ := H1.out.1
        go_wp2_with fail
        go_ret
        exact ⟨ret_bool (by rw [HR.out, HBB.out]; first | (simp; done) | (simp; omega)), H1.out.below⟩
    · have hb : b = false := by cases b; · rfl
                                · have := HX.out.1 rfl; omega
      have HBB := Lib.hid hb; clear hb
      go_enter Tryz.func71, Tryz.ntmps71
      go_wp2_with fail
      refine (HW.out _ (HN.out.step H0.out.below) (HL.out.step H0.out.below)).mono ?_
      rintro e wH1 ⟨rfl, hb⟩
      have H1 := Lib.hid ((H0.out).step hb); clear hb
      try clear x0 x1
      obtain ⟨x0, x1, _⟩ := H1.out.1
      go_wp2_with fail
      go_ret
      exact ⟨ret_bool (by rw [HR.out, HBB.out]; first | (simp; done) | (simp; omega)), H1.out.below⟩

def sidB (ns ls : List Nd) (k : Int) : Bool := wholeB ns ls && idxB ls.length k
noncomputable def sdA (ns ls : List Nd) (k : Int) : Int := if sidB ns ls k = true then atZ (atW ns ls) (2 * k.toNat) else -1
noncomputable def sdB (ns ls : List Nd) (k : Int) : Int := if sidB ns ls k = true then atZ (atW ns ls) (2 * k.toNat + 1) else -1

set_option maxRecDepth 100000 in
set_option maxHeartbeats 1000000 in
theorem specSidesOf (ns ls : List Nd) (vn vl : Value) (k : Int) (w : World) (hn : Prs w vn ns) (hl : Prs w vl ls) :
    Calls Tryz.prog 70 #[.agg #[vn, vl], .int .i64 k] w (TwoIs (sdA ns ls k) (sdB ns ls k) w) := by
  have HW := Lib.hid (fun w h1 h2 => specWhole ns ls vn vl w h1 h2)
  have HIN := Lib.hid (fun w => specIn k 0 ((ls.length : Int) - 1) w)
  have hlen := hl.len
  by_cases hh : wholeB ns ls = true
  · obtain ⟨hw, hl0, h20, h12⟩ := whole_win hh
    by_cases hi : idxB ls.length k = true
    · have HSI := Lib.hid (fun w h1 h2 => specSides9 ns ls vn vl w h1 h2 hh)
      unfold IntsNew at HSI
      obtain ⟨q, rfl, hq⟩ := idx_nat hi
      have hb : sidB ns ls (q : Int) = true := by unfold sidB; rw [hh, hi]; rfl
      have HA := Lib.hid (show sdA ns ls (q : Int) = atZ (atW ns ls) (2 * q) from if_pos hb)
      have HB := Lib.hid (show sdB ns ls (q : Int) = atZ (atW ns ls) (2 * q + 1) from if_pos hb)
      have HAL := Lib.hid (atW_len ns ls)
      rw [hh] at HW
      rw [show inB (q : Int) 0 ((ls.length : Int) - 1) = true by simp [inB]; omega] at HIN
      have HN := Lib.hid hn
      have HL := Lib.hid hl
      have H0 := Lib.hid (held_pair w vn vl 32)
      obtain ⟨A, c, rfl⟩ := prs_form2 hn
      obtain ⟨A2, c2, rfl⟩ := prs_form2 hl
      clear hn hl hi hb hh hw
      generalize sdA ns ls (q : Int) = ra at *
      generalize sdB ns ls (q : Int) = rb at *
      generalize atW ns ls = ds at *
      go_enter Tryz.func70, Tryz.ntmps70
      go_wp2_with fail
      refine (HW.out _ (HN.out.step H0.out.below) (HL.out.step H0.out.below)).mono ?_
      rintro e w1 ⟨rfl, hb⟩
      have H1 := Lib.hid (H0.out.step hb); clear hb
      obtain ⟨x0, x1, _⟩ := H1.out.1
      go_wp2_with fail
      refine (HIN.out _).mono ?_
      rintro e w2 ⟨rfl, rfl⟩
      go_wp2_with fail
      refine (HSI.out _ (HN.out.step H1.out.below) (HL.out.step H1.out.below)).mono ?_
      rintro e w3 ⟨vd, rfl, hm, hb⟩
      have B3 := Lib.hid (H1.out.step hb)
      obtain ⟨gl, cl, rfl⟩ := hm.some_ (by rw [HAL.out]; omega)
      obtain ⟨k0, -, hgl, -, -⟩ := hm.at_ (j := 2 * q) (by rw [HAL.out]; omega)
      obtain ⟨k1, -, -, -, -⟩ := hm.at_ (j := 2 * q + 1) (by rw [HAL.out]; omega)
      clear hb hm x0 x1
      generalize atZ ds (2 * q) = za at *
      generalize atZ ds (2 * q + 1) = zb at *
      obtain ⟨e0, he0⟩ : ∃ e0, e0 = 2 * q := ⟨_, rfl⟩
      obtain ⟨e1, he1⟩ : ∃ e1, e1 = e0 + 1 := ⟨_, rfl⟩
      rw [← he0] at k0 k1
      rw [← he1] at k1
      have p1 : (0 : Int) ≤ e0 := by omega
      have p2 : (e0 : Int) < (ds.length : Int) := by rw [HAL.out]; omega
      have p3 : (0 : Int) ≤ e1 := by omega
      have p4 : (e1 : Int) < (ds.length : Int) := by rw [HAL.out]; omega
      have r1 : IntKind.i64.wrap (2 * (q : Int)) = (e0 : Int) := by rw [IntWalk.i64_in _ (by omega)]; omega
      have r2 : IntKind.i64.wrap ((e0 : Int) + 1) = (e1 : Int) := by rw [IntWalk.i64_in _ (by omega)]; omega
      have H5 := Lib.hid (Held.start (w := w3) (fs := [(gl, e0, .int .i64 za), (gl, e1, .int .i64 zb)]) ⟨k0, k1, trivial⟩ ⟨hgl, hgl, trivial⟩)
      clear he0 he1 hq k0 k1 hlen
      go_wp2_with fail
      refine regionD (S := fun W => Held _ W [(gl, e0, .int .i64 (za)), (gl, e1, .int .i64 (zb))]) (by kernel_rfl) H5.out.drew ?_
      iterate 13 (refine takeT (v := ?_) rfl (by kernel_rfl) (by kernel_rfl) (by kernel_rfl) ?_ ?_; rotate_left; (first | (refine Or.inr ⟨by rfl, ?_⟩; with_reducible rfl) | (refine Or.inl ⟨by rfl, fun W hS => detRes_value (w' := W) ?_ hS⟩; obtain ⟨x0, x1, _⟩ := hS.1; go_simp; first | done | with_reducible rfl) | fail); (simp only [Act.put, List.setIfInBounds_toArray, List.set_cons_zero, List.set_cons_succ]))
      refine doneD (by kernel_rfl) fun wH6 HS => ?_
      have H6 := Lib.hid HS; clear HS
      try clear x0 x1
      obtain ⟨x0, x1, _⟩ := H6.out.1
      go_wp2_with fail
      go_ret2
      exact ⟨by first | (rw [HA.out, HB.out]; done) | (rw [HA.out, HB.out]; rfl), B3.out.below.trans (H6.out.below.mono B3.out.below.size)⟩
    · have hb : sidB ns ls k = false := by unfold sidB; rw [show idxB ls.length k = false by simpa using hi]; simp
      have HA := Lib.hid (show sdA ns ls k = -1 from if_neg (by rw [hb]; simp))
      have HB := Lib.hid (show sdB ns ls k = -1 from if_neg (by rw [hb]; simp))
      rw [hh] at HW
      rw [show inB k 0 ((ls.length : Int) - 1) = false from by
        rw [Bool.eq_false_iff]
        intro h
        simp [inB] at h
        exact hi ((idxB_iff _ _).2 (by omega))] at HIN
      have HN := Lib.hid hn
      have HL := Lib.hid hl
      have H0 := Lib.hid (held_pair w vn vl 32)
      obtain ⟨A, c, rfl⟩ := prs_form2 hn
      obtain ⟨A2, c2, rfl⟩ := prs_form2 hl
      clear hn hl hi hb hh hw
      generalize sdA ns ls k = ra at *
      generalize sdB ns ls k = rb at *
      go_enter Tryz.func70, Tryz.ntmps70
      go_wp2_with fail
      refine (HW.out _ (HN.out.step H0.out.below) (HL.out.step H0.out.below)).mono ?_
      rintro e w1 ⟨rfl, hb⟩
      have H1 := Lib.hid (H0.out.step hb); clear hb
      obtain ⟨x0, x1, _⟩ := H1.out.1
      go_wp2_with fail
      refine (HIN.out _).mono ?_
      rintro e w2 ⟨rfl, rfl⟩
      go_wp2_with fail
      go_ret2
      exact ⟨by first | (rw [HA.out, HB.out]; done) | (rw [HA.out, HB.out]; rfl), H1.out.below⟩
  · have hf : wholeB ns ls = false := by simpa using hh
    have hb : sidB ns ls k = false := by unfold sidB; rw [hf]; rfl
    have HA := Lib.hid (show sdA ns ls k = -1 from if_neg (by rw [hb]; simp))
    have HB := Lib.hid (show sdB ns ls k = -1 from if_neg (by rw [hb]; simp))
    rw [hf] at HW
    have HN := Lib.hid hn
    have HL := Lib.hid hl
    have H0 := Lib.hid (held_pair w vn vl 32)
    obtain ⟨A, c, rfl⟩ := prs_form2 hn
    obtain ⟨A2, c2, rfl⟩ := prs_form2 hl
    clear hn hl hb hh hf HIN
    generalize sdA ns ls k = ra at *
    generalize sdB ns ls k = rb at *
    go_enter Tryz.func70, Tryz.ntmps70
    go_wp2_with fail
    refine (HW.out _ (HN.out.step H0.out.below) (HL.out.step H0.out.below)).mono ?_
    rintro e w1 ⟨rfl, hb⟩
    have H1 := Lib.hid (H0.out.step hb); clear hb
    go_wp2_with fail
    go_ret2
    exact ⟨by first | (rw [HA.out, HB.out]; done) | (rw [HA.out, HB.out]; rfl), H1.out.below⟩
end Go.Proofs.YtnonebfdognlmabGreat
