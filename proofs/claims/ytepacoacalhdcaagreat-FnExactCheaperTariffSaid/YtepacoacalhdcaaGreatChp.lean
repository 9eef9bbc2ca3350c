/-
  The cheaper tariff, of the program and of the model.
-/
import Derived.Test.YtepacoacalhdcaaGreatG41
import Derived.Test.YtepacoacalhdcaaGreatCmpZ
namespace Go.Proofs.YtepacoacalhdcaaGreat
open Go.RowKit
set_option linter.unusedVariables false
set_option linter.unusedSimpArgs false

def chpI (a b : Int) : Int := if a < 0 ∨ b < 0 then 0 else cmpZ a b

noncomputable def chpW (ns ls : List Nd) (t u : Qd) : Int := chpI (bilW ns ls t []) (bilW ns ls u [])

set_option maxRecDepth 100000 in
set_option maxHeartbeats 4000000 in
theorem implChp (ns ls : List Nd) (t u : Qd) (vn vl : Value) (w : World) (hn : Prs w vn ns) (hl : Prs w vl ls) :
    Calls Tryz.prog 42 #[.agg #[vn, vl], t.val, u.val] w (IntIs (chpW ns ls t u) w) := by
  have HB1 := Lib.hid (fun w h1 h2 => implBill ns ls [] t vn vl (.slice none 0 0) w h1 h2 (Ints.nil w 0).seq (by simp))
  have HB2 := Lib.hid (fun w h1 h2 => implBill ns ls [] u vn vl (.slice none 0 0) w h1 h2 (Ints.nil w 0).seq (by simp))
  unfold IntIs at HB1 HB2
  have HR := Lib.hid (show chpW ns ls t u = chpI (bilW ns ls t []) (bilW ns ls u []) from rfl)
  have HN := Lib.hid hn
  have HL := Lib.hid hl
  have H0 := Lib.hid (((held_pair w vn vl 32).new2 (w.heap.size + 1) (by simp) [.int .i64 t.x, .int .i64 t.y, .int .i64 t.z, .int .i64 t.u] 55).new2 (w.heap.size + 1 + 1) (by simp) [.int .i64 u.x, .int .i64 u.y, .int .i64 u.z, .int .i64 u.u] 55)
  simp only [newFs, List.cons_append, List.nil_append, List.append_nil] at H0
  obtain ⟨A, c, rfl⟩ := prs_form2 hn
  obtain ⟨A2, c2, rfl⟩ := prs_form2 hl
  clear hn hl
  generalize chpW ns ls t u = res at *
  generalize bilW ns ls t [] = a at *
  generalize bilW ns ls u [] = b at *
  obtain ⟨t1, t2, t3, t4⟩ := t
  obtain ⟨u1, u2, u3, u4⟩ := u
  unfold Qd.val at HB1 HB2 ⊢
  simp only at H0 HB1 HB2 ⊢
  have HCM := Lib.hid (fun w => cmpZ_int a b w)
  unfold IntIs at HCM
  go_enter Tryz.func42, Tryz.ntmps42
  obtain ⟨x0, x1, x2, x3, x4, x5, x6, x7, x8, x9, _⟩ := H0.out.1
  go_wp2_with fail
  clear x0 x1 x2 x3 x4 x5 x6 x7 x8 x9
  by_cases ha : a < 0
  · have HX := Lib.hid (show res = 0 from by rw [HR.out]; exact if_pos (.inl ha))
    refine regionD (S := fun W => Held _ W [(w.heap.size + 1 + 1, 0, .int .i64 (u1)), (w.heap.size + 1 + 1, 1, .int .i64 (u2)), (w.heap.size + 1 + 1, 2, .int .i64 (u3)), (w.heap.size + 1 + 1, 3, .int .i64 (u4)), (w.heap.size + 1, 0, .int .i64 (t1)), (w.heap.size + 1, 1, .int .i64 (t2)), (w.heap.size + 1, 2, .int .i64 (t3)), (w.heap.size + 1, 3, .int .i64 (t4)), (w.heap.size, 0, .slice A ns.length c), (w.heap.size, 1, .slice A2 ls.length c2)]) (by kernel_rfl) H0.out.drew ?_
    iterate 8 (refine takeT (v := ?_) rfl (by kernel_rfl) (by kernel_rfl) (by kernel_rfl) ?_ ?_; rotate_left; (first | (refine Or.inr ⟨by rfl, ?_⟩; with_reducible rfl) | (refine Or.inl ⟨by rfl, fun W hS => detRes_value (w' := W) ?_ hS⟩; obtain ⟨x0, x1, x2, x3, x4, x5, x6, x7, x8, x9, _⟩ := hS.1; go_simp; first | done | with_reducible rfl) | (refine Or.inl ⟨by rfl, fun W hS => ?_⟩; refine detRes_call (w' := W) (f := ?_) (args := ?_) ?_ ?_; rotate_left 2; (go_simp; (refine ⟨?_, ?_⟩ <;> with_reducible rfl)); (first | (with_reducible refine (HB1.out _ (HN.out.step hS.below) (HL.out.step hS.below)).mono ?_) | (with_reducible refine (HB2.out _ (HN.out.step hS.below) (HL.out.step hS.below)).mono ?_) | fail); (first | (rintro e wn ⟨rfl, hb⟩; refine ⟨?_, hS.step hb⟩; with_reducible rfl) | (rintro e wn ⟨rfl, rfl⟩; refine ⟨?_, hS⟩; with_reducible rfl) | fail)) | fail); (simp only [Act.put, List.setIfInBounds_toArray, List.set_cons_zero, List.set_cons_succ]))
    refine doneD (by kernel_rfl) fun wH1 HS => ?_
    have H1 := Lib.hid HS; clear HS
    try clear x0 x1 x2 x3 x4 x5 x6 x7 x8 x9
    obtain ⟨x0, x1, x2, x3, x4, x5, x6, x7, x8, x9, _⟩ := H1.out.1
    go_wp2_with fail
    go_ret
    exact ⟨ret_int HX.out.symm, H1.out.below⟩
  · by_cases hb : b < 0
    · have HX := Lib.hid (show res = 0 from by rw [HR.out]; exact if_pos (.inr hb))
      refine regionD (S := fun W => Held _ W [(w.heap.size + 1 + 1, 0, .int .i64 (u1)), (w.heap.size + 1 + 1, 1, .int .i64 (u2)), (w.heap.size + 1 + 1, 2, .int .i64 (u3)), (w.heap.size + 1 + 1, 3, .int .i64 (u4)), (w.heap.size + 1, 0, .int .i64 (t1)), (w.heap.size + 1, 1, .int .i64 (t2)), (w.heap.size + 1, 2, .int .i64 (t3)), (w.heap.size + 1, 3, .int .i64 (t4)), (w.heap.size, 0, .slice A ns.length c), (w.heap.size, 1, .slice A2 ls.length c2)]) (by kernel_rfl) H0.out.drew ?_
      iterate 8 (refine takeT (v := ?_) rfl (by kernel_rfl) (by kernel_rfl) (by kernel_rfl) ?_ ?_; rotate_left; (first | (refine Or.inr ⟨by rfl, ?_⟩; with_reducible rfl) | (refine Or.inl ⟨by rfl, fun W hS => detRes_value (w' := W) ?_ hS⟩; obtain ⟨x0, x1, x2, x3, x4, x5, x6, x7, x8, x9, _⟩ := hS.1; go_simp; first | done | with_reducible rfl) | (refine Or.inl ⟨by rfl, fun W hS => ?_⟩; refine detRes_call (w' := W) (f := ?_) (args := ?_) ?_ ?_; rotate_left 2; (go_simp; (refine ⟨?_, ?_⟩ <;> with_reducible rfl)); (first | (with_reducible refine (HB1.out _ (HN.out.step hS.below) (HL.out.step hS.below)).mono ?_) | (with_reducible refine (HB2.out _ (HN.out.step hS.below) (HL.out.step hS.below)).mono ?_) | fail); (first | (rintro e wn ⟨rfl, hb⟩; refine ⟨?_, hS.step hb⟩; with_reducible rfl) | (rintro e wn ⟨rfl, rfl⟩; refine ⟨?_, hS⟩; with_reducible rfl) | fail)) | fail); (simp only [Act.put, List.setIfInBounds_toArray, List.set_cons_zero, List.set_cons_succ]))
      refine doneD (by kernel_rfl) fun wH1 HS => ?_
      have H1 := Lib.hid HS; clear HS
      try clear x0 x1 x2 x3 x4 x5 x6 x7 x8 x9
      obtain ⟨x0, x1, x2, x3, x4, x5, x6, x7, x8, x9, _⟩ := H1.out.1
      go_wp2_with fail
      go_ret
      exact ⟨ret_int HX.out.symm, H1.out.below⟩
    · have HX := Lib.hid (show res = cmpZ a b from by rw [HR.out]; exact if_neg (by omega))
      refine regionD (S := fun W => Held _ W [(w.heap.size + 1 + 1, 0, .int .i64 (u1)), (w.heap.size + 1 + 1, 1, .int .i64 (u2)), (w.heap.size + 1 + 1, 2, .int .i64 (u3)), (w.heap.size + 1 + 1, 3, .int .i64 (u4)), (w.heap.size + 1, 0, .int .i64 (t1)), (w.heap.size + 1, 1, .int .i64 (t2)), (w.heap.size + 1, 2, .int .i64 (t3)), (w.heap.size + 1, 3, .int .i64 (t4)), (w.heap.size, 0, .slice A ns.length c), (w.heap.size, 1, .slice A2 ls.length c2)]) (by kernel_rfl) H0.out.drew ?_
      iterate 8 (refine takeT (v := ?_) rfl (by kernel_rfl) (by kernel_rfl) (by kernel_rfl) ?_ ?_; rotate_left; (first | (refine Or.inr ⟨by rfl, ?_⟩; with_reducible rfl) | (refine Or.inl ⟨by rfl, fun W hS => detRes_value (w' := W) ?_ hS⟩; obtain ⟨x0, x1, x2, x3, x4, x5, x6, x7, x8, x9, _⟩ := hS.1; go_simp; first | done | with_reducible rfl) | (refine Or.inl ⟨by rfl, fun W hS => ?_⟩; refine detRes_call (w' := W) (f := ?_) (args := ?_) ?_ ?_; rotate_left 2; (go_simp; (refine ⟨?_, ?_⟩ <;> with_reducible rfl)); (first | (with_reducible refine (HB1.out _ (HN.out.step hS.below) (HL.out.step hS.below)).mono ?_) | (with_reducible refine (HB2.out _ (HN.out.step hS.below) (HL.out.step hS.below)).mono ?_) | fail); (first | (rintro e wn ⟨rfl, hb⟩; refine ⟨?_, hS.step hb⟩; with_reducible rfl) | (rintro e wn ⟨rfl, rfl⟩; refine ⟨?_, hS⟩; with_reducible rfl) | fail)) | fail); (simp only [Act.put, List.setIfInBounds_toArray, List.set_cons_zero, List.set_cons_succ]))
      refine doneD (by kernel_rfl) fun wH1 HS => ?_
      have H1 := Lib.hid HS; clear HS
      try clear x0 x1 x2 x3 x4 x5 x6 x7 x8 x9
      obtain ⟨x0, x1, x2, x3, x4, x5, x6, x7, x8, x9, _⟩ := H1.out.1
      go_wp2_with fail
      refine (HCM.out _).mono ?_
      rintro e w2 ⟨rfl, hb2⟩
      have H2 := Lib.hid (H1.out.step hb2); clear hb2
      go_wp2_with fail
      go_ret
      exact ⟨ret_int HX.out.symm, H2.out.below⟩

set_option maxRecDepth 100000 in
set_option maxHeartbeats 4000000 in
theorem specChp (ns ls : List Nd) (t u : Qd) (vn vl : Value) (w : World) (hn : Prs w vn ns) (hl : Prs w vl ls) :
    Calls Tryz.prog 41 #[.agg #[vn, vl], t.val, u.val] w (IntIs (chpW ns ls t u) w) := by
  have HB1 := Lib.hid (fun w v h1 h2 hv => specBill ns ls [] t vn vl v w h1 h2 hv)
  have HB2 := Lib.hid (fun w v h1 h2 hv => specBill ns ls [] u vn vl v w h1 h2 hv)
  unfold IntIs at HB1 HB2
  have HR := Lib.hid (show chpW ns ls t u = chpI (bilW ns ls t []) (bilW ns ls u []) from rfl)
  have HN := Lib.hid hn
  have HL := Lib.hid hl
  have H0 := Lib.hid (((held_pair w vn vl 32).new2 (w.heap.size + 1) (by simp) [.int .i64 t.x, .int .i64 t.y, .int .i64 t.z, .int .i64 t.u] 55).new2 (w.heap.size + 1 + 1) (by simp) [.int .i64 u.x, .int .i64 u.y, .int .i64 u.z, .int .i64 u.u] 55)
  simp only [newFs, List.cons_append, List.nil_append, List.append_nil] at H0
  obtain ⟨A, c, rfl⟩ := prs_form2 hn
  obtain ⟨A2, c2, rfl⟩ := prs_form2 hl
  clear hn hl
  generalize chpW ns ls t u = res at *
  generalize bilW ns ls t [] = a at *
  generalize bilW ns ls u [] = b at *
  obtain ⟨t1, t2, t3, t4⟩ := t
  obtain ⟨u1, u2, u3, u4⟩ := u
  unfold Qd.val at HB1 HB2 ⊢
  simp only at H0 HB1 HB2 ⊢
  have H0a := Lib.hid (H0.out.alloc (.cells #[] 3))
  have HO0 := Lib.hid (Ints.made (((w.alloc (.cells #[.slice A ns.length c, .slice A2 ls.length c2] 32)).alloc (.cells #[.int .i64 t1, .int .i64 t2, .int .i64 t3, .int .i64 t4] 55)).alloc (.cells #[.int .i64 u1, .int .i64 u2, .int .i64 u3, .int .i64 u4] 55)) (w.heap.size + 1 + 1 + 1) 0 (by simp) (Nat.zero_le _))
  by_cases ha : a < 0
  · have HX := Lib.hid (show res = 0 from by rw [HR.out]; exact if_pos (.inl ha))
    go_enter Tryz.func41, Tryz.ntmps41
    obtain ⟨x0, x1, x2, x3, x4, x5, x6, x7, x8, x9, _⟩ := H0.out.1
    go_wp2_with fail
    refine (HB1.out _ (.slice (some ⟨w.heap.size + 1 + 1 + 1, 0, none⟩) 0 0) (HN.out.step H0a.out.below) (HL.out.step H0a.out.below) HO0.out.seq).mono ?_
    rintro e w1 ⟨rfl, hb1⟩
    have H1 := Lib.hid (H0a.out.step hb1)
    have H1a := Lib.hid (H1.out.alloc (.cells #[] 3))
    have HO1 := Lib.hid (Ints.made w1 w1.heap.size 0 rfl (Nat.zero_le _))
    clear hb1 x0 x1 x2 x3 x4 x5 x6 x7 x8 x9
    obtain ⟨x0, x1, x2, x3, x4, x5, x6, x7, x8, x9, _⟩ := H1.out.1
    go_wp2_with fail
    refine (HB2.out _ (.slice (some ⟨w1.heap.size, 0, none⟩) 0 0) (HN.out.step H1a.out.below) (HL.out.step H1a.out.below) HO1.out.seq).mono ?_
    rintro e w2 ⟨rfl, hb2⟩
    have H2 := Lib.hid (H1a.out.step hb2)
    clear hb2 x0 x1 x2 x3 x4 x5 x6 x7 x8 x9
    go_wp2_with fail
    go_ret
    exact ⟨ret_int HX.out.symm, H2.out.below⟩
  · by_cases hb : b < 0
    · have HX := Lib.hid (show res = 0 from by rw [HR.out]; exact if_pos (.inr hb))
      go_enter Tryz.func41, Tryz.ntmps41
      obtain ⟨x0, x1, x2, x3, x4, x5, x6, x7, x8, x9, _⟩ := H0.out.1
      go_wp2_with fail
      refine (HB1.out _ (.slice (some ⟨w.heap.size + 1 + 1 + 1, 0, none⟩) 0 0) (HN.out.step H0a.out.below) (HL.out.step H0a.out.below) HO0.out.seq).mono ?_
      rintro e w1 ⟨rfl, hb1⟩
      have H1 := Lib.hid (H0a.out.step hb1)
      have H1a := Lib.hid (H1.out.alloc (.cells #[] 3))
      have HO1 := Lib.hid (Ints.made w1 w1.heap.size 0 rfl (Nat.zero_le _))
      clear hb1 x0 x1 x2 x3 x4 x5 x6 x7 x8 x9
      obtain ⟨x0, x1, x2, x3, x4, x5, x6, x7, x8, x9, _⟩ := H1.out.1
      go_wp2_with fail
      refine (HB2.out _ (.slice (some ⟨w1.heap.size, 0, none⟩) 0 0) (HN.out.step H1a.out.below) (HL.out.step H1a.out.below) HO1.out.seq).mono ?_
      rintro e w2 ⟨rfl, hb2⟩
      have H2 := Lib.hid (H1a.out.step hb2)
      clear hb2 x0 x1 x2 x3 x4 x5 x6 x7 x8 x9
      go_wp2_with fail
      go_ret
      exact ⟨ret_int HX.out.symm, H2.out.below⟩
    · have f1 : decide (a < 0) = false := decide_eq_false ha
      have f2 : decide (b < 0) = false := decide_eq_false hb
      by_cases h1 : a < b
      · have f3 : decide (a < b) = true := decide_eq_true h1
        have HX := Lib.hid (show res = -1 from by rw [HR.out]; unfold chpI cmpZ; rw [if_neg (by omega), if_pos h1])
        go_enter Tryz.func41, Tryz.ntmps41
        obtain ⟨x0, x1, x2, x3, x4, x5, x6, x7, x8, x9, _⟩ := H0.out.1
        go_wp2_with fail
        refine (HB1.out _ (.slice (some ⟨w.heap.size + 1 + 1 + 1, 0, none⟩) 0 0) (HN.out.step H0a.out.below) (HL.out.step H0a.out.below) HO0.out.seq).mono ?_
        rintro e w1 ⟨rfl, hb1⟩
        have H1 := Lib.hid (H0a.out.step hb1)
        have H1a := Lib.hid (H1.out.alloc (.cells #[] 3))
        have HO1 := Lib.hid (Ints.made w1 w1.heap.size 0 rfl (Nat.zero_le _))
        clear hb1 x0 x1 x2 x3 x4 x5 x6 x7 x8 x9
        obtain ⟨x0, x1, x2, x3, x4, x5, x6, x7, x8, x9, _⟩ := H1.out.1
        go_wp2_with fail
        refine (HB2.out _ (.slice (some ⟨w1.heap.size, 0, none⟩) 0 0) (HN.out.step H1a.out.below) (HL.out.step H1a.out.below) HO1.out.seq).mono ?_
        rintro e w2 ⟨rfl, hb2⟩
        have H2 := Lib.hid (H1a.out.step hb2)
        clear hb2 x0 x1 x2 x3 x4 x5 x6 x7 x8 x9
        go_wp2_with fail
        go_ret
        exact ⟨ret_int HX.out.symm, H2.out.below⟩
      · have f3 : decide (a < b) = false := decide_eq_false h1
        by_cases h2 : b < a
        · have f4 : decide (b < a) = true := decide_eq_true h2
          have HX := Lib.hid (show res = 1 from by rw [HR.out]; unfold chpI cmpZ; rw [if_neg (by omega), if_neg h1, if_pos h2])
          go_enter Tryz.func41, Tryz.ntmps41
          obtain ⟨x0, x1, x2, x3, x4, x5, x6, x7, x8, x9, _⟩ := H0.out.1
          go_wp2_with fail
          refine (HB1.out _ (.slice (some ⟨w.heap.size + 1 + 1 + 1, 0, none⟩) 0 0) (HN.out.step H0a.out.below) (HL.out.step H0a.out.below) HO0.out.seq).mono ?_
          rintro e w1 ⟨rfl, hb1⟩
          have H1 := Lib.hid (H0a.out.step hb1)
          have H1a := Lib.hid (H1.out.alloc (.cells #[] 3))
          have HO1 := Lib.hid (Ints.made w1 w1.heap.size 0 rfl (Nat.zero_le _))
          clear hb1 x0 x1 x2 x3 x4 x5 x6 x7 x8 x9
          obtain ⟨x0, x1, x2, x3, x4, x5, x6, x7, x8, x9, _⟩ := H1.out.1
          go_wp2_with fail
          refine (HB2.out _ (.slice (some ⟨w1.heap.size, 0, none⟩) 0 0) (HN.out.step H1a.out.below) (HL.out.step H1a.out.below) HO1.out.seq).mono ?_
          rintro e w2 ⟨rfl, hb2⟩
          have H2 := Lib.hid (H1a.out.step hb2)
          clear hb2 x0 x1 x2 x3 x4 x5 x6 x7 x8 x9
          go_wp2_with fail
          go_ret
          exact ⟨ret_int HX.out.symm, H2.out.below⟩
        · have f4 : decide (b < a) = false := decide_eq_false h2
          have HX := Lib.hid (show res = 0 from by rw [HR.out]; unfold chpI cmpZ; rw [if_neg (by omega), if_neg h1, if_neg h2])
          clear h1 h2 ha hb HR
          go_enter Tryz.func41, Tryz.ntmps41
          obtain ⟨x0, x1, x2, x3, x4, x5, x6, x7, x8, x9, _⟩ := H0.out.1
          go_wp2_with fail
          refine (HB1.out _ (.slice (some ⟨w.heap.size + 1 + 1 + 1, 0, none⟩) 0 0) (HN.out.step H0a.out.below) (HL.out.step H0a.out.below) HO0.out.seq).mono ?_
          rintro e w1 ⟨rfl, hb1⟩
          have H1 := Lib.hid (H0a.out.step hb1)
          have H1a := Lib.hid (H1.out.alloc (.cells #[] 3))
          have HO1 := Lib.hid (Ints.made w1 w1.heap.size 0 rfl (Nat.zero_le _))
          clear hb1 x0 x1 x2 x3 x4 x5 x6 x7 x8 x9
          obtain ⟨x0, x1, x2, x3, x4, x5, x6, x7, x8, x9, _⟩ := H1.out.1
          go_wp2_with fail
          refine (HB2.out _ (.slice (some ⟨w1.heap.size, 0, none⟩) 0 0) (HN.out.step H1a.out.below) (HL.out.step H1a.out.below) HO1.out.seq).mono ?_
          rintro e w2 ⟨rfl, hb2⟩
          have H2 := Lib.hid (H1a.out.step hb2)
          clear hb2 x0 x1 x2 x3 x4 x5 x6 x7 x8 x9
          go_wp2_with fail
          go_ret
          exact ⟨ret_int HX.out.symm, H2.out.below⟩
end Go.Proofs.YtepacoacalhdcaaGreat
