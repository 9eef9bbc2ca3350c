/-
  Straight nodes, of the model and of the program.
-/
import Derived.Test.YtkkjcdilpbofmaaDeg
import Derived.Test.YtkkjcdilpbofmaaDetV
namespace Go.Proofs.Ytkkjcdilpbofmaa
open Go.RowKit
set_option linter.unusedVariables false
set_option linter.unusedSimpArgs false

def strB (ns ls : List Nd) (k : Int) : Bool :=
  decide ((atsI ns ls k).length = 2) && betweenB (atI ns (otherI (atI ls ((atsI ns ls k).getD 0 0)) k)) (atI ns (otherI (atI ls ((atsI ns ls k).getD 1 0)) k)) (atI ns k)
theorem atL_mem (ls : List Nd) (k : Int) : ∀ n x, x ∈ atL ls k n → ∃ i : Nat, x = i ∧ i < n ∧ ((atN ls i).x = k ∨ (atN ls i).y = k)
  | 0, x, h => by simp [atL] at h
  | n + 1, x, h => by
    unfold atL at h
    split at h
    · rename_i hk
      rcases List.mem_append.1 h with h | h
      · obtain ⟨i, e, hi, hh⟩ := atL_mem ls k n x h
        exact ⟨i, e, by omega, hh⟩
      · simp at h
        exact ⟨n, h, by omega, hk⟩
    · obtain ⟨i, e, hi, hh⟩ := atL_mem ls k n x h
      exact ⟨i, e, by omega, hh⟩
theorem atsI_mem {ns ls : List Nd} {k : Int} {x : Int} (h : x ∈ atsI ns ls k) : hasB ns ls k = true ∧ ∃ i : Nat, x = i ∧ i < ls.length ∧ ((atN ls i).x = k ∨ (atN ls i).y = k) := by
  unfold atsI at h
  split at h
  · rename_i hh
    exact ⟨hh, atL_mem _ _ _ _ h⟩
  · simp at h
theorem hasB_nat {ns ls : List Nd} {k : Int} (h : hasB ns ls k = true) : ∃ q : Nat, k = q ∧ q < ns.length ∧ winB ns ls = true ∧ ns.length ≤ 12 ∧ ls.length ≤ 20 := by
  unfold hasB at h
  simp only [Bool.and_eq_true] at h
  have h2 := (idxB_iff _ _).1 h.2
  have h3 := ((winB_iff ns ls).1 h.1).1
  exact ⟨k.toNat, by omega, by omega, h.1, h3.1.2, h3.2⟩
theorem other_nat {ns ls : List Nd} {i k : Nat} (hw : winB ns ls = true) (hi : i < ls.length) (h : (atN ls i).x = k ∨ (atN ls i).y = k) : ∃ a : Nat, otherI (atN ls i) k = a ∧ a < ns.length := by
  obtain ⟨p, q, e, hpq, hp, hq, _⟩ := leadOkB_spec (((winB_iff ns ls).1 hw).2.2 i hi).1
  rw [e] at h ⊢
  simp only at h
  unfold otherI
  simp only
  by_cases h1 : (k : Int) = (p : Int)
  · rw [if_pos h1]; exact ⟨q, rfl, hq⟩
  · rw [if_neg h1, if_pos (by omega)]; exact ⟨p, rfl, hp⟩
theorem str_two {ns ls : List Nd} {k : Int} (h : (atsI ns ls k).length = 2) : ∃ i j q a b : Nat, atsI ns ls k = [(i : Int), (j : Int)] ∧ k = q ∧ hasB ns ls k = true ∧ i < ls.length ∧ j < ls.length ∧ q < ns.length ∧
    otherI (atN ls i) q = a ∧ a < ns.length ∧ otherI (atN ls j) q = b ∧ b < ns.length ∧ strB ns ls k = betweenB (atN ns a) (atN ns b) (atN ns q) ∧ ns.length ≤ 12 ∧ ls.length ≤ 20 := by
  obtain ⟨x, y, e⟩ : ∃ x y, atsI ns ls k = [x, y] := by
    match hm : atsI ns ls k, h with
    | [x, y], _ => exact ⟨x, y, rfl⟩
  obtain ⟨hh, i, rfl, hi, hx⟩ := atsI_mem (ns := ns) (ls := ls) (k := k) (x := x) (by rw [e]; simp)
  obtain ⟨_, j, rfl, hj, hy⟩ := atsI_mem (ns := ns) (ls := ls) (k := k) (x := y) (by rw [e]; simp)
  obtain ⟨q, rfl, hq, hw, h12, h20⟩ := hasB_nat hh
  obtain ⟨a, ha, hal⟩ := other_nat hw hi hx
  obtain ⟨b, hb, hbl⟩ := other_nat hw hj hy
  refine ⟨i, j, q, a, b, e, rfl, hh, hi, hj, hq, ha, hal, hb, hbl, ?_, h12, h20⟩
  unfold strB
  rw [e]
  have e0 : atI ls ([(i : Int), (j : Int)].getD 0 0) = atN ls i := rfl
  have e1 : atI ls ([(i : Int), (j : Int)].getD 1 0) = atN ls j := rfl
  rw [e0, e1, ha, hb]
  rfl
theorem str_no {ns ls : List Nd} {k : Int} (h : (atsI ns ls k).length ≠ 2) : strB ns ls k = false := by
  unfold strB; rw [decide_eq_false h]; rfl
/-- The cells of nodes a, b, q and of leads i, j. -/
theorem str_cells {w W : World} {fs : List (Nat × Nat × Value)} {b1 o1 b2 o2 : Nat} {ns ls : List Nd} (h : Held w W fs) (h1 : CellsAt W b1 o1 ns) (hb1 : b1 < W.heap.size) (h2 : CellsAt W b2 o2 ls) (hb2 : b2 < W.heap.size)
    {i j a b q : Nat} (hi : i < ls.length) (hj : j < ls.length) (ha : a < ns.length) (hb : b < ns.length) (hq : q < ns.length) :
    Held w W (fs ++ (P1 b2 o2 ls i ++ (P1 b2 o2 ls j ++ (P1 b1 o1 ns a ++ (P1 b1 o1 ns b ++ P1 b1 o1 ns q))))) :=
  ⟨h.1.append ((P1_cs h2 hi).append ((P1_cs h2 hj).append ((P1_cs h1 ha).append ((P1_cs h1 hb).append (P1_cs h1 hq))))),
   h.2.1.append ((P1_bs hb2).append ((P1_bs hb2).append ((P1_bs hb1).append ((P1_bs hb1).append (P1_bs hb1))))), h.2.2⟩

theorem deg_two (ns ls : List Nd) (k : Int) : degI ns ls k = 2 ↔ (atsI ns ls k).length = 2 := by
  unfold degI
  by_cases h : hasB ns ls k = true
  · rw [if_pos h]; omega
  · rw [if_neg h]
    unfold atsI
    rw [if_neg h]
    simp

set_option maxRecDepth 100000 in
theorem implStr (ns ls : List Nd) (vn vl : Value) (k : Int) (w : World) (hn : Prs w vn ns) (hl : Prs w vl ls) :
    Calls Try.prog 36 #[.agg #[vn, vl], .int .i64 k] w (BoolIs (strB ns ls k) w) := by
  have HN := Lib.hid hn
  have HL := Lib.hid hl
  obtain ⟨A, c, rfl⟩ := prs_form2 hn
  obtain ⟨A2, c2, rfl⟩ := prs_form2 hl
  clear hn hl
  have H0 := Lib.hid (held_pair w (.slice A ns.length c) (.slice A2 ls.length c2) 38)
  have HA := Lib.hid (fun w h1 h2 => implLeadsAt ns ls (.slice A ns.length c) (.slice A2 ls.length c2) k w h1 h2)
  unfold IntsNew at HA
  have HT := Lib.hid (str_two (ns := ns) (ls := ls) (k := k))
  have HF := Lib.hid (str_no (ns := ns) (ls := ls) (k := k))
  generalize atsI ns ls k = js at *
  generalize strB ns ls k = r at *
  go_enter Try.func36, Try.ntmps36
  go_wp2_with fail
  refine (HA.out _ (HN.out.step H0.out.below) (HL.out.step H0.out.below)).mono ?_
  rintro e w1 ⟨v, rfl, hi, hb⟩
  have H1 := Lib.hid (H0.out.step hb); clear hb H0
  have HI := Lib.hid hi
  obtain ⟨g, cp, rfl, hlm, hgs⟩ := hi.form
  clear hi
  unfold maxLen at hlm
  by_cases h2 : js.length = 2
  · obtain ⟨i, j, q, a, b, rfl, rfl, hhas, hi, hj, hq, ha, hal, hb, hbl, hs, h12, h20⟩ := HT.out h2
    clear HT HF HA hhas
    obtain ⟨g', rfl, _, hgl, hc0, _⟩ := hgs 0 (by simp)
    obtain ⟨g2, e2, _, _, hc1, _⟩ := hgs 1 (by simp)
    obtain rfl : g' = g2 := by simpa using e2
    clear e2 hgs h2 HI hlm
    simp only [List.getElem_cons_zero, List.getElem_cons_succ, List.length_cons, List.length_nil, Nat.zero_add, Nat.reduceAdd] at hc0 hc1 ⊢
    obtain ⟨b1, o1, c1, he, hbl1, hcs1⟩ := prs_at2 (HN.out.step H1.out.below) hq
    injection he with he1 _ _
    subst he1
    obtain ⟨b2, o2, c3, he, hbl2, hcs2⟩ := prs_at2 (HL.out.step H1.out.below) hi
    injection he with he1 _ _
    subst he1
    have H2 := Lib.hid (str_cells (held_plus H1.out (gs := [(g', 0, .int .i64 (i : Int)), (g', 1, .int .i64 (j : Int))]) ⟨hc0, hc1, trivial⟩ ⟨hgl, hgl, trivial⟩) hcs1 hbl1 hcs2 hbl2 hi hj hal hbl hq)
    unfold P1 at H2
    simp only [List.cons_append, List.nil_append] at H2
    clear hcs1 hcs2 hc0 hc1
    have HX := Lib.hid (fun w => ha ▸ implOther (atN ls i) (q : Int) w)
    have HY := Lib.hid (fun w => hb ▸ implOther (atN ls j) (q : Int) w)
    have HB := Lib.hid (implBetween (atN ns a) (atN ns b) (atN ns q))
    have HR := Lib.hid hs
    clear ha hb hs
    unfold Nd.val at HX HY HB
    generalize betweenB (atN ns a) (atN ns b) (atN ns q) = r2 at *
    generalize atN ns a = n1 at *
    generalize atN ns b = n2 at *
    generalize atN ns q = n3 at *
    generalize atN ls i = l1 at *
    generalize atN ls j = l2 at *
    obtain ⟨ax, ay⟩ := n1
    obtain ⟨bx, by'⟩ := n2
    obtain ⟨qx, qy⟩ := n3
    obtain ⟨ix, iy⟩ := l1
    obtain ⟨jx, jy⟩ := l2
    simp only at H2 HX HY HB
    have q1 : (0 : Int) ≤ i := by omega
    have q2 : (i : Int) < (ls.length : Int) := by omega
    have q3 : (0 : Int) ≤ j := by omega
    have q4 : (j : Int) < (ls.length : Int) := by omega
    have q5 : (0 : Int) ≤ a := by omega
    have q6 : (a : Int) < (ns.length : Int) := by omega
    have q7 : (0 : Int) ≤ b := by omega
    have q8 : (b : Int) < (ns.length : Int) := by omega
    have q9 : (0 : Int) ≤ q := by omega
    have q10 : (q : Int) < (ns.length : Int) := by omega
    obtain ⟨x0, x1, x2, x3, x4, x5, x6, x7, x8, x9, x10, x11, x12, x13, _⟩ := H2.out.1
    go_wp2_with fail
    refine regionD (S := fun W => Held _ W [(w.heap.size, 0, .slice (some ⟨b1, o1, none⟩) ns.length c), (w.heap.size, 1, .slice (some ⟨b2, o2, none⟩) ls.length c2), (g', 0, .int .i64 (i)), (g', 1, .int .i64 (j)), (b2, o2 + i * 2, .int .i64 (ix)), (b2, o2 + i * 2 + 1, .int .i64 (iy)), (b2, o2 + j * 2, .int .i64 (jx)), (b2, o2 + j * 2 + 1, .int .i64 (jy)), (b1, o1 + a * 2, .int .i64 (ax)), (b1, o1 + a * 2 + 1, .int .i64 (ay)), (b1, o1 + b * 2, .int .i64 (bx)), (b1, o1 + b * 2 + 1, .int .i64 (by')), (b1, o1 + q * 2, .int .i64 (qx)), (b1, o1 + q * 2 + 1, .int .i64 (qy))]) (by kernel_rfl) H2.out.drew ?_
    iterate 20 (refine takeT (v := ?_) rfl (by kernel_rfl) (by kernel_rfl) (by kernel_rfl) ?_ ?_; rotate_left; (first | (refine Or.inr ⟨by rfl, ?_⟩; with_reducible rfl) | (refine Or.inl ⟨by rfl, fun W hS => detRes_value (w' := W) ?_ hS⟩; obtain ⟨x0, x1, x2, x3, x4, x5, x6, x7, x8, x9, x10, x11, x12, x13, _⟩ := hS.1; go_simp; first | done | with_reducible rfl) | (refine Or.inl ⟨by rfl, fun W hS => ?_⟩; refine detRes_call (w' := W) (f := ?_) (args := ?_) ?_ ?_; rotate_left 2; (go_simp; (refine ⟨?_, ?_⟩ <;> with_reducible rfl)); (first | (with_reducible refine (HX.out _).mono ?_) | (with_reducible refine (HY.out _).mono ?_) | fail); (first | (rintro e wn ⟨rfl, hb⟩; refine ⟨?_, hS.step hb⟩; with_reducible rfl) | (rintro e wn ⟨rfl, rfl⟩; refine ⟨?_, hS⟩; with_reducible rfl) | fail)) | fail); (simp only [Act.put, List.setIfInBounds_toArray, List.set_cons_zero, List.set_cons_succ]))
    refine doneD (by kernel_rfl) fun wH3 HS => ?_
    have H3 := Lib.hid HS; clear HS
    try clear x0 x1 x2 x3 x4 x5 x6 x7 x8 x9 x10 x11 x12 x13
    obtain ⟨x0, x1, x2, x3, x4, x5, x6, x7, x8, x9, x10, x11, x12, x13, _⟩ := H3.out.1
    go_wp2_with fail
    refine regionD (S := fun W => Held _ W [(w.heap.size, 0, .slice (some ⟨b1, o1, none⟩) ns.length c), (w.heap.size, 1, .slice (some ⟨b2, o2, none⟩) ls.length c2), (g', 0, .int .i64 (i)), (g', 1, .int .i64 (j)), (b2, o2 + i * 2, .int .i64 (ix)), (b2, o2 + i * 2 + 1, .int .i64 (iy)), (b2, o2 + j * 2, .int .i64 (jx)), (b2, o2 + j * 2 + 1, .int .i64 (jy)), (b1, o1 + a * 2, .int .i64 (ax)), (b1, o1 + a * 2 + 1, .int .i64 (ay)), (b1, o1 + b * 2, .int .i64 (bx)), (b1, o1 + b * 2 + 1, .int .i64 (by')), (b1, o1 + q * 2, .int .i64 (qx)), (b1, o1 + q * 2 + 1, .int .i64 (qy))]) (by kernel_rfl) H3.out.drew ?_
    iterate 17 (refine takeT (v := ?_) rfl (by kernel_rfl) (by kernel_rfl) (by kernel_rfl) ?_ ?_; rotate_left; (first | (refine Or.inr ⟨by rfl, ?_⟩; with_reducible rfl) | (refine Or.inl ⟨by rfl, fun W hS => detRes_value (w' := W) ?_ hS⟩; obtain ⟨x0, x1, x2, x3, x4, x5, x6, x7, x8, x9, x10, x11, x12, x13, _⟩ := hS.1; go_simp; first | done | with_reducible rfl) | (refine Or.inl ⟨by rfl, fun W hS => ?_⟩; refine detRes_call (w' := W) (f := ?_) (args := ?_) ?_ ?_; rotate_left 2; (go_simp; (refine ⟨?_, ?_⟩ <;> with_reducible rfl)); (first | (with_reducible refine (HB.out _).mono ?_) | fail); (first | (rintro e wn ⟨rfl, hb⟩; refine ⟨?_, hS.step hb⟩; with_reducible rfl) | (rintro e wn ⟨rfl, rfl⟩; refine ⟨?_, hS⟩; with_reducible rfl) | fail)) | fail); (simp only [Act.put, List.setIfInBounds_toArray, List.set_cons_zero, List.set_cons_succ]))
    refine doneD (by kernel_rfl) fun wH4 HS => ?_
    have H4 := Lib.hid HS; clear HS
    try clear x0 x1 x2 x3 x4 x5 x6 x7 x8 x9 x10 x11 x12 x13
    obtain ⟨x0, x1, x2, x3, x4, x5, x6, x7, x8, x9, x10, x11, x12, x13, _⟩ := H4.out.1
    go_wp2_with fail
    go_ret
    exact ⟨ret_bool (by rw [HR.out]), H4.out.below⟩
  · have HR := Lib.hid (HF.out h2)
    have g : ((js.length : Int) != 2) = true := by simp; omega
    clear hgs
    go_wp2_with fail
    go_ret
    exact ⟨ret_bool (by rw [HR.out]), H1.out.below⟩
set_option maxRecDepth 100000 in
theorem specStr (ns ls : List Nd) (vn vl : Value) (k : Int) (w : World) (hn : Prs w vn ns) (hl : Prs w vl ls) :
    Calls Try.prog 35 #[.agg #[vn, vl], .int .i64 k] w (BoolIs (strB ns ls k) w) := by
  have HN := Lib.hid hn
  have HL := Lib.hid hl
  obtain ⟨A, c, rfl⟩ := prs_form2 hn
  obtain ⟨A2, c2, rfl⟩ := prs_form2 hl
  clear hn hl
  have H0 := Lib.hid (held_pair w (.slice A ns.length c) (.slice A2 ls.length c2) 38)
  have HD := Lib.hid (fun w h1 h2 => specDeg ns ls (.slice A ns.length c) (.slice A2 ls.length c2) k w h1 h2)
  have HDT := Lib.hid (deg_two ns ls k)
  generalize degI ns ls k = dg at *
  have HA := Lib.hid (fun w h1 h2 => specLeadsAt ns ls (.slice A ns.length c) (.slice A2 ls.length c2) k w h1 h2)
  unfold IntsNew at HA
  have HT := Lib.hid (str_two (ns := ns) (ls := ls) (k := k))
  have HF := Lib.hid (str_no (ns := ns) (ls := ls) (k := k))
  generalize atsI ns ls k = js at *
  generalize strB ns ls k = r at *
  go_enter Try.func35, Try.ntmps35
  go_wp2_with fail
  by_cases h2 : js.length = 2
  · obtain rfl : dg = 2 := HDT.out.2 h2
    go_wp2_with fail
    refine (HD.out _ (HN.out.step H0.out.below) (HL.out.step H0.out.below)).mono ?_
    rintro e wH1 ⟨rfl, hb⟩
    have H1 := Lib.hid ((H0.out).step hb); clear hb
    try clear x0 x1
    obtain ⟨x0, x1, _⟩ := H1.out.1
    go_wp2_with fail
    refine (HA.out _ (HN.out.step H1.out.below) (HL.out.step H1.out.below)).mono ?_
    rintro e w2 ⟨v, rfl, hi, hb⟩
    have HQ := Lib.hid (H1.out.step hb); clear hb H0 H1
    have H1 := HQ; clear HQ
    obtain ⟨g, cp, rfl, hlm, hgs⟩ := hi.form
    clear hi
    unfold maxLen at hlm
    obtain ⟨i, j, q, a, b, rfl, rfl, hhas, hi, hj, hq, ha, hal, hb, hbl, hs, h12, h20⟩ := HT.out h2
    clear HT HF HA hhas
    obtain ⟨g', rfl, _, hgl, hc0, _⟩ := hgs 0 (by simp)
    obtain ⟨g2, e2, _, _, hc1, _⟩ := hgs 1 (by simp)
    obtain rfl : g' = g2 := by simpa using e2
    clear e2 hgs h2 hlm x0 x1 HD HDT
    simp only [List.getElem_cons_zero, List.getElem_cons_succ, List.length_cons, List.length_nil, Nat.zero_add, Nat.reduceAdd] at hc0 hc1 ⊢
    obtain ⟨b1, o1, c1, he, hbl1, hcs1⟩ := prs_at2 (HN.out.step H1.out.below) hq
    injection he with he1 _ _
    subst he1
    obtain ⟨b2, o2, c3, he, hbl2, hcs2⟩ := prs_at2 (HL.out.step H1.out.below) hi
    injection he with he1 _ _
    subst he1
    have H2 := Lib.hid (str_cells (held_plus H1.out (gs := [(g', 0, .int .i64 (i : Int)), (g', 1, .int .i64 (j : Int))]) ⟨hc0, hc1, trivial⟩ ⟨hgl, hgl, trivial⟩) hcs1 hbl1 hcs2 hbl2 hi hj hal hbl hq)
    unfold P1 at H2
    simp only [List.cons_append, List.nil_append] at H2
    clear hcs1 hcs2 hc0 hc1
    have HX := Lib.hid (fun w => ha ▸ specOther (atN ls i) (q : Int) w)
    have HY := Lib.hid (fun w => hb ▸ specOther (atN ls j) (q : Int) w)
    have HB := Lib.hid (specBetween (atN ns a) (atN ns b) (atN ns q))
    have HR := Lib.hid hs
    clear ha hb hs
    unfold Nd.val at HX HY HB
    generalize betweenB (atN ns a) (atN ns b) (atN ns q) = r2 at *
    generalize atN ns a = n1 at *
    generalize atN ns b = n2 at *
    generalize atN ns q = n3 at *
    generalize atN ls i = l1 at *
    generalize atN ls j = l2 at *
    obtain ⟨ax, ay⟩ := n1
    obtain ⟨bx, by'⟩ := n2
    obtain ⟨qx, qy⟩ := n3
    obtain ⟨ix, iy⟩ := l1
    obtain ⟨jx, jy⟩ := l2
    simp only at H2 HX HY HB
    have q1 : (0 : Int) ≤ i := by omega
    have q2 : (i : Int) < (ls.length : Int) := by omega
    have q3 : (0 : Int) ≤ j := by omega
    have q4 : (j : Int) < (ls.length : Int) := by omega
    have q5 : (0 : Int) ≤ a := by omega
    have q6 : (a : Int) < (ns.length : Int) := by omega
    have q7 : (0 : Int) ≤ b := by omega
    have q8 : (b : Int) < (ns.length : Int) := by omega
    have q9 : (0 : Int) ≤ q := by omega
    have q10 : (q : Int) < (ns.length : Int) := by omega
    obtain ⟨x0, x1, x2, x3, x4, x5, x6, x7, x8, x9, x10, x11, x12, x13, _⟩ := H2.out.1
    go_wp2_with fail
    have HBH3 := Lib.hid H2.out.2.1
    refine regionW (fun W => Held _ W [(w.heap.size, 0, .slice (some ⟨b1, o1, none⟩) ns.length c), (w.heap.size, 1, .slice (some ⟨b2, o2, none⟩) ls.length c2), (g', 0, .int .i64 (i)), (g', 1, .int .i64 (j)), (b2, o2 + i * 2, .int .i64 (ix)), (b2, o2 + i * 2 + 1, .int .i64 (iy)), (b2, o2 + j * 2, .int .i64 (jx)), (b2, o2 + j * 2 + 1, .int .i64 (jy)), (b1, o1 + a * 2, .int .i64 (ax)), (b1, o1 + a * 2 + 1, .int .i64 (ay)), (b1, o1 + b * 2, .int .i64 (bx)), (b1, o1 + b * 2 + 1, .int .i64 (by')), (b1, o1 + q * 2, .int .i64 (qx)), (b1, o1 + q * 2 + 1, .int .i64 (qy))]) (by kernel_rfl) (Held.start H2.out.1 H2.out.2.1).drew ?_
    refine takeW (i := 0) (v := ?_) (Stable.held _ _) rfl (by kernel_rfl) (by kernel_rfl) (by kernel_rfl) (fun _ _ _ h => h) ?_ ?_
    rotate_left
    · first | (refine Or.inl ⟨by rfl, fun W hS => detR_value (w' := W) ?_ (Below.refl _ _)⟩; obtain ⟨x0, x1, x2, x3, x4, x5, x6, x7, x8, x9, x10, x11, x12, x13, _⟩ := hS.1; go_simp; first | done | with_reducible rfl) | fail
    simp only [Act.put, List.setIfInBounds_toArray, List.set_cons_zero, List.set_cons_succ]
    refine takeW (i := 1) (v := ?_) (Stable.held _ _) rfl (by kernel_rfl) (by kernel_rfl) (by kernel_rfl) (fun _ _ _ h => h) ?_ ?_
    rotate_left
    · first | (refine Or.inl ⟨by rfl, fun W hS => detR_value (w' := W) ?_ (Below.refl _ _)⟩; obtain ⟨x0, x1, x2, x3, x4, x5, x6, x7, x8, x9, x10, x11, x12, x13, _⟩ := hS.1; go_simp; first | done | with_reducible rfl) | fail
    simp only [Act.put, List.setIfInBounds_toArray, List.set_cons_zero, List.set_cons_succ]
    refine takeW (i := 2) (v := ?_) (Stable.held _ _) rfl (by kernel_rfl) (by kernel_rfl) (by kernel_rfl) (fun _ _ _ h => h) ?_ ?_
    rotate_left
    · first | (refine Or.inl ⟨by rfl, fun W hS => detR_value (w' := W) ?_ (Below.refl _ _)⟩; obtain ⟨x0, x1, x2, x3, x4, x5, x6, x7, x8, x9, x10, x11, x12, x13, _⟩ := hS.1; go_simp; first | done | with_reducible rfl) | fail
    simp only [Act.put, List.setIfInBounds_toArray, List.set_cons_zero, List.set_cons_succ]
    refine takeW (i := 3) (v := ?_) (Stable.held _ _) rfl (by kernel_rfl) (by kernel_rfl) (by kernel_rfl) (fun _ _ _ h => h) ?_ ?_
    rotate_left
    · first | (refine Or.inl ⟨by rfl, fun W hS => detR_value (w' := W) ?_ (Below.refl _ _)⟩; obtain ⟨x0, x1, x2, x3, x4, x5, x6, x7, x8, x9, x10, x11, x12, x13, _⟩ := hS.1; go_simp; first | done | with_reducible rfl) | fail
    simp only [Act.put, List.setIfInBounds_toArray, List.set_cons_zero, List.set_cons_succ]
    refine takeW (i := 4) (v := ?_) (Stable.held _ _) rfl (by kernel_rfl) (by kernel_rfl) (by kernel_rfl) (fun _ _ _ h => h) ?_ ?_
    rotate_left
    · first | (refine Or.inl ⟨by rfl, fun W hS => detR_value (w' := W) ?_ (Below.refl _ _)⟩; obtain ⟨x0, x1, x2, x3, x4, x5, x6, x7, x8, x9, x10, x11, x12, x13, _⟩ := hS.1; go_simp; first | done | with_reducible rfl) | fail
    simp only [Act.put, List.setIfInBounds_toArray, List.set_cons_zero, List.set_cons_succ]
    refine takeW (i := 5) (v := ?_) (Stable.held _ _) rfl (by kernel_rfl) (by kernel_rfl) (by kernel_rfl) (fun _ _ _ h => h) ?_ ?_
    rotate_left
    · first | (refine Or.inl ⟨by rfl, fun W hS => detR_value (w' := W) ?_ (Below.refl _ _)⟩; obtain ⟨x0, x1, x2, x3, x4, x5, x6, x7, x8, x9, x10, x11, x12, x13, _⟩ := hS.1; go_simp; first | done | with_reducible rfl) | fail
    simp only [Act.put, List.setIfInBounds_toArray, List.set_cons_zero, List.set_cons_succ]
    refine takeW (i := 6) (v := ?_) (Stable.held _ _) rfl (by kernel_rfl) (by kernel_rfl) (by kernel_rfl) (fun _ _ _ h => h) ?_ ?_
    rotate_left
    · first | (refine Or.inl ⟨by rfl, fun W hS => detR_value (w' := W) ?_ (Below.refl _ _)⟩; obtain ⟨x0, x1, x2, x3, x4, x5, x6, x7, x8, x9, x10, x11, x12, x13, _⟩ := hS.1; go_simp; first | done | with_reducible rfl) | fail
    simp only [Act.put, List.setIfInBounds_toArray, List.set_cons_zero, List.set_cons_succ]
    refine takeW (i := 7) (v := ?_) (Stable.held _ _) rfl (by kernel_rfl) (by kernel_rfl) (by kernel_rfl) (fun _ _ _ h => h) ?_ ?_
    rotate_left
    · first | (refine Or.inl ⟨by rfl, fun W hS => detR_value (w' := W) ?_ (Below.refl _ _)⟩; obtain ⟨x0, x1, x2, x3, x4, x5, x6, x7, x8, x9, x10, x11, x12, x13, _⟩ := hS.1; go_simp; first | done | with_reducible rfl) | fail
    simp only [Act.put, List.setIfInBounds_toArray, List.set_cons_zero, List.set_cons_succ]
    refine takeW (i := 8) (v := ?_) (Stable.held _ _) rfl (by kernel_rfl) (by kernel_rfl) (by kernel_rfl) (fun _ _ _ h => h) ?_ ?_
    rotate_left
    · first | (refine Or.inl ⟨by rfl, fun W hS => detR_value (w' := W) ?_ (Below.refl _ _)⟩; obtain ⟨x0, x1, x2, x3, x4, x5, x6, x7, x8, x9, x10, x11, x12, x13, _⟩ := hS.1; go_simp; first | done | with_reducible rfl) | fail
    simp only [Act.put, List.setIfInBounds_toArray, List.set_cons_zero, List.set_cons_succ]
    refine takeW (i := 9) (v := ?_) (Stable.held _ _) rfl (by kernel_rfl) (by kernel_rfl) (by kernel_rfl) (fun _ _ _ h => h) ?_ ?_
    rotate_left
    · first | (refine Or.inl ⟨by rfl, fun W hS => detR_value (w' := W) ?_ (Below.refl _ _)⟩; obtain ⟨x0, x1, x2, x3, x4, x5, x6, x7, x8, x9, x10, x11, x12, x13, _⟩ := hS.1; go_simp; first | done | with_reducible rfl) | fail
    simp only [Act.put, List.setIfInBounds_toArray, List.set_cons_zero, List.set_cons_succ]
    refine takeW (i := 10) (v := ?_) (Stable.held _ _) rfl (by kernel_rfl) (by kernel_rfl) (by kernel_rfl) (fun _ _ _ h => h) ?_ ?_
    rotate_left
    · first | (refine Or.inl ⟨by rfl, fun W hS => ?_⟩; have hH := H2.out.after hS; refine detR_call (w' := W) (f := ?_) (args := ?_) ?_ ?_; rotate_left 2; (go_simp; (refine ⟨?_, ?_⟩ <;> with_reducible rfl)); (first | (with_reducible refine (HX.out _).mono ?_) | fail); (first | (rintro e wn ⟨rfl, hb⟩; refine ⟨?_, hb⟩; with_reducible rfl) | (rintro e wn ⟨rfl, rfl⟩; refine ⟨?_, Below.refl _ _⟩; with_reducible rfl) | fail)) | fail
    simp only [Act.put, List.setIfInBounds_toArray, List.set_cons_zero, List.set_cons_succ]
    refine takeW (i := 11) (v := ?_) (Stable.held _ _) rfl (by kernel_rfl) (by kernel_rfl) (by kernel_rfl) (fun _ _ _ h => h) ?_ ?_
    rotate_left
    · first | (refine Or.inl ⟨by rfl, fun W hS => detR_value (w' := W) ?_ (Below.refl _ _)⟩; obtain ⟨x0, x1, x2, x3, x4, x5, x6, x7, x8, x9, x10, x11, x12, x13, _⟩ := hS.1; go_simp; first | done | with_reducible rfl) | fail
    simp only [Act.put, List.setIfInBounds_toArray, List.set_cons_zero, List.set_cons_succ]
    refine takeW (i := 12) (v := ?_) (Stable.held _ _) rfl (by kernel_rfl) (by kernel_rfl) (by kernel_rfl) (fun _ _ _ h => h) ?_ ?_
    rotate_left
    · first | (refine Or.inl ⟨by rfl, fun W hS => detR_value (w' := W) ?_ (Below.refl _ _)⟩; obtain ⟨x0, x1, x2, x3, x4, x5, x6, x7, x8, x9, x10, x11, x12, x13, _⟩ := hS.1; go_simp; first | done | with_reducible rfl) | fail
    simp only [Act.put, List.setIfInBounds_toArray, List.set_cons_zero, List.set_cons_succ]
    refine allocV (i := 13) 65 #[.int .i64 0, .int .i64 0] rfl (by kernel_rfl) (by rfl) (fun W => ?_) (fun vn => ?_)
    · go_simp; first | done | with_reducible rfl
    simp only [Act.put, List.setIfInBounds_toArray, List.set_cons_zero, List.set_cons_succ]
    refine storeV (i := 14) #[.int .i64 ax, .int .i64 ay] rfl (by kernel_rfl) (by rfl) rfl (by rfl) (by rfl) HBH3.out rfl (by kernel_rfl) (by simp [Value.oneCell']) ?_
    simp only [Act.put, List.setIfInBounds_toArray, List.set_cons_zero, List.set_cons_succ]
    refine doneW (by kernel_rfl) fun wH3 HG => ?_
    obtain ⟨⟨hH, _⟩, bH3, rfl, hbn, hcn⟩ := HG
    have H3 := Lib.hid (Held.joined H2.out hH hcn); clear hH hcn HBH3
    try clear x0 x1 x2 x3 x4 x5 x6 x7 x8 x9 x10 x11 x12 x13
    obtain ⟨x0, x1, x2, x3, x4, x5, x6, x7, x8, x9, x10, x11, x12, x13, x14, x15, _⟩ := H3.out.1
    go_wp2_with fail
    clear x0 x1 x2 x3 x4 x5 x6 x7 x8 x9 x10 x11 x12 x13 x14 x15
    obtain ⟨x0, x1, x2, x3, x4, x5, x6, x7, x8, x9, x10, x11, x12, x13, x14, x15, _⟩ := H3.out.1
    have HBH4 := Lib.hid H3.out.2.1
    refine regionW (fun W => Held _ W [(bH3, 0, .int .i64 (ax)), (bH3, 1, .int .i64 (ay)), (w.heap.size, 0, .slice (some ⟨b1, o1, none⟩) ns.length c), (w.heap.size, 1, .slice (some ⟨b2, o2, none⟩) ls.length c2), (g', 0, .int .i64 (i)), (g', 1, .int .i64 (j)), (b2, o2 + i * 2, .int .i64 (ix)), (b2, o2 + i * 2 + 1, .int .i64 (iy)), (b2, o2 + j * 2, .int .i64 (jx)), (b2, o2 + j * 2 + 1, .int .i64 (jy)), (b1, o1 + a * 2, .int .i64 (ax)), (b1, o1 + a * 2 + 1, .int .i64 (ay)), (b1, o1 + b * 2, .int .i64 (bx)), (b1, o1 + b * 2 + 1, .int .i64 (by')), (b1, o1 + q * 2, .int .i64 (qx)), (b1, o1 + q * 2 + 1, .int .i64 (qy))]) (by kernel_rfl) (Held.start H3.out.1 H3.out.2.1).drew ?_
    refine takeW (i := 0) (v := ?_) (Stable.held _ _) rfl (by kernel_rfl) (by kernel_rfl) (by kernel_rfl) (fun _ _ _ h => h) ?_ ?_
    rotate_left
    · first | (refine Or.inl ⟨by rfl, fun W hS => detR_value (w' := W) ?_ (Below.refl _ _)⟩; obtain ⟨x0, x1, x2, x3, x4, x5, x6, x7, x8, x9, x10, x11, x12, x13, x14, x15, _⟩ := hS.1; go_simp; first | done | with_reducible rfl) | fail
    simp only [Act.put, List.setIfInBounds_toArray, List.set_cons_zero, List.set_cons_succ]
    refine takeW (i := 1) (v := ?_) (Stable.held _ _) rfl (by kernel_rfl) (by kernel_rfl) (by kernel_rfl) (fun _ _ _ h => h) ?_ ?_
    rotate_left
    · first | (refine Or.inl ⟨by rfl, fun W hS => detR_value (w' := W) ?_ (Below.refl _ _)⟩; obtain ⟨x0, x1, x2, x3, x4, x5, x6, x7, x8, x9, x10, x11, x12, x13, x14, x15, _⟩ := hS.1; go_simp; first | done | with_reducible rfl) | fail
    simp only [Act.put, List.setIfInBounds_toArray, List.set_cons_zero, List.set_cons_succ]
    refine takeW (i := 2) (v := ?_) (Stable.held _ _) rfl (by kernel_rfl) (by kernel_rfl) (by kernel_rfl) (fun _ _ _ h => h) ?_ ?_
    rotate_left
    · first | (refine Or.inl ⟨by rfl, fun W hS => detR_value (w' := W) ?_ (Below.refl _ _)⟩; obtain ⟨x0, x1, x2, x3, x4, x5, x6, x7, x8, x9, x10, x11, x12, x13, x14, x15, _⟩ := hS.1; go_simp; first | done | with_reducible rfl) | fail
    simp only [Act.put, List.setIfInBounds_toArray, List.set_cons_zero, List.set_cons_succ]
    refine takeW (i := 3) (v := ?_) (Stable.held _ _) rfl (by kernel_rfl) (by kernel_rfl) (by kernel_rfl) (fun _ _ _ h => h) ?_ ?_
    rotate_left
    · first | (refine Or.inl ⟨by rfl, fun W hS => detR_value (w' := W) ?_ (Below.refl _ _)⟩; obtain ⟨x0, x1, x2, x3, x4, x5, x6, x7, x8, x9, x10, x11, x12, x13, x14, x15, _⟩ := hS.1; go_simp; first | done | with_reducible rfl) | fail
    simp only [Act.put, List.setIfInBounds_toArray, List.set_cons_zero, List.set_cons_succ]
    refine takeW (i := 4) (v := ?_) (Stable.held _ _) rfl (by kernel_rfl) (by kernel_rfl) (by kernel_rfl) (fun _ _ _ h => h) ?_ ?_
    rotate_left
    · first | (refine Or.inl ⟨by rfl, fun W hS => detR_value (w' := W) ?_ (Below.refl _ _)⟩; obtain ⟨x0, x1, x2, x3, x4, x5, x6, x7, x8, x9, x10, x11, x12, x13, x14, x15, _⟩ := hS.1; go_simp; first | done | with_reducible rfl) | fail
    simp only [Act.put, List.setIfInBounds_toArray, List.set_cons_zero, List.set_cons_succ]
    refine takeW (i := 5) (v := ?_) (Stable.held _ _) rfl (by kernel_rfl) (by kernel_rfl) (by kernel_rfl) (fun _ _ _ h => h) ?_ ?_
    rotate_left
    · first | (refine Or.inl ⟨by rfl, fun W hS => detR_value (w' := W) ?_ (Below.refl _ _)⟩; obtain ⟨x0, x1, x2, x3, x4, x5, x6, x7, x8, x9, x10, x11, x12, x13, x14, x15, _⟩ := hS.1; go_simp; first | done | with_reducible rfl) | fail
    simp only [Act.put, List.setIfInBounds_toArray, List.set_cons_zero, List.set_cons_succ]
    refine takeW (i := 6) (v := ?_) (Stable.held _ _) rfl (by kernel_rfl) (by kernel_rfl) (by kernel_rfl) (fun _ _ _ h => h) ?_ ?_
    rotate_left
    · first | (refine Or.inl ⟨by rfl, fun W hS => detR_value (w' := W) ?_ (Below.refl _ _)⟩; obtain ⟨x0, x1, x2, x3, x4, x5, x6, x7, x8, x9, x10, x11, x12, x13, x14, x15, _⟩ := hS.1; go_simp; first | done | with_reducible rfl) | fail
    simp only [Act.put, List.setIfInBounds_toArray, List.set_cons_zero, List.set_cons_succ]
    refine takeW (i := 7) (v := ?_) (Stable.held _ _) rfl (by kernel_rfl) (by kernel_rfl) (by kernel_rfl) (fun _ _ _ h => h) ?_ ?_
    rotate_left
    · first | (refine Or.inl ⟨by rfl, fun W hS => detR_value (w' := W) ?_ (Below.refl _ _)⟩; obtain ⟨x0, x1, x2, x3, x4, x5, x6, x7, x8, x9, x10, x11, x12, x13, x14, x15, _⟩ := hS.1; go_simp; first | done | with_reducible rfl) | fail
    simp only [Act.put, List.setIfInBounds_toArray, List.set_cons_zero, List.set_cons_succ]
    refine takeW (i := 8) (v := ?_) (Stable.held _ _) rfl (by kernel_rfl) (by kernel_rfl) (by kernel_rfl) (fun _ _ _ h => h) ?_ ?_
    rotate_left
    · first | (refine Or.inl ⟨by rfl, fun W hS => detR_value (w' := W) ?_ (Below.refl _ _)⟩; obtain ⟨x0, x1, x2, x3, x4, x5, x6, x7, x8, x9, x10, x11, x12, x13, x14, x15, _⟩ := hS.1; go_simp; first | done | with_reducible rfl) | fail
    simp only [Act.put, List.setIfInBounds_toArray, List.set_cons_zero, List.set_cons_succ]
    refine takeW (i := 9) (v := ?_) (Stable.held _ _) rfl (by kernel_rfl) (by kernel_rfl) (by kernel_rfl) (fun _ _ _ h => h) ?_ ?_
    rotate_left
    · first | (refine Or.inl ⟨by rfl, fun W hS => detR_value (w' := W) ?_ (Below.refl _ _)⟩; obtain ⟨x0, x1, x2, x3, x4, x5, x6, x7, x8, x9, x10, x11, x12, x13, x14, x15, _⟩ := hS.1; go_simp; first | done | with_reducible rfl) | fail
    simp only [Act.put, List.setIfInBounds_toArray, List.set_cons_zero, List.set_cons_succ]
    refine takeW (i := 10) (v := ?_) (Stable.held _ _) rfl (by kernel_rfl) (by kernel_rfl) (by kernel_rfl) (fun _ _ _ h => h) ?_ ?_
    rotate_left
    · first | (refine Or.inl ⟨by rfl, fun W hS => ?_⟩; have hH := H3.out.after hS; refine detR_call (w' := W) (f := ?_) (args := ?_) ?_ ?_; rotate_left 2; (go_simp; (refine ⟨?_, ?_⟩ <;> with_reducible rfl)); (first | (with_reducible refine (HY.out _).mono ?_) | fail); (first | (rintro e wn ⟨rfl, hb⟩; refine ⟨?_, hb⟩; with_reducible rfl) | (rintro e wn ⟨rfl, rfl⟩; refine ⟨?_, Below.refl _ _⟩; with_reducible rfl) | fail)) | fail
    simp only [Act.put, List.setIfInBounds_toArray, List.set_cons_zero, List.set_cons_succ]
    refine takeW (i := 11) (v := ?_) (Stable.held _ _) rfl (by kernel_rfl) (by kernel_rfl) (by kernel_rfl) (fun _ _ _ h => h) ?_ ?_
    rotate_left
    · first | (refine Or.inl ⟨by rfl, fun W hS => detR_value (w' := W) ?_ (Below.refl _ _)⟩; obtain ⟨x0, x1, x2, x3, x4, x5, x6, x7, x8, x9, x10, x11, x12, x13, x14, x15, _⟩ := hS.1; go_simp; first | done | with_reducible rfl) | fail
    simp only [Act.put, List.setIfInBounds_toArray, List.set_cons_zero, List.set_cons_succ]
    refine takeW (i := 12) (v := ?_) (Stable.held _ _) rfl (by kernel_rfl) (by kernel_rfl) (by kernel_rfl) (fun _ _ _ h => h) ?_ ?_
    rotate_left
    · first | (refine Or.inl ⟨by rfl, fun W hS => detR_value (w' := W) ?_ (Below.refl _ _)⟩; obtain ⟨x0, x1, x2, x3, x4, x5, x6, x7, x8, x9, x10, x11, x12, x13, x14, x15, _⟩ := hS.1; go_simp; first | done | with_reducible rfl) | fail
    simp only [Act.put, List.setIfInBounds_toArray, List.set_cons_zero, List.set_cons_succ]
    refine allocV (i := 13) 65 #[.int .i64 0, .int .i64 0] rfl (by kernel_rfl) (by rfl) (fun W => ?_) (fun vn => ?_)
    · go_simp; first | done | with_reducible rfl
    simp only [Act.put, List.setIfInBounds_toArray, List.set_cons_zero, List.set_cons_succ]
    refine storeV (i := 14) #[.int .i64 bx, .int .i64 by'] rfl (by kernel_rfl) (by rfl) rfl (by rfl) (by rfl) HBH4.out rfl (by kernel_rfl) (by simp [Value.oneCell']) ?_
    simp only [Act.put, List.setIfInBounds_toArray, List.set_cons_zero, List.set_cons_succ]
    refine doneW (by kernel_rfl) fun wH4 HG => ?_
    obtain ⟨⟨hH, _⟩, bH4, rfl, hbn, hcn⟩ := HG
    have H4 := Lib.hid (Held.joined H3.out hH hcn); clear hH hcn HBH4
    try clear x0 x1 x2 x3 x4 x5 x6 x7 x8 x9 x10 x11 x12 x13 x14 x15
    obtain ⟨x0, x1, x2, x3, x4, x5, x6, x7, x8, x9, x10, x11, x12, x13, x14, x15, x16, x17, _⟩ := H4.out.1
    go_wp2_with fail
    clear x0 x1 x2 x3 x4 x5 x6 x7 x8 x9 x10 x11 x12 x13 x14 x15 x16 x17
    obtain ⟨x0, x1, x2, x3, x4, x5, x6, x7, x8, x9, x10, x11, x12, x13, x14, x15, x16, x17, _⟩ := H4.out.1
    refine regionD (S := fun W => Held _ W [(bH4, 0, .int .i64 (bx)), (bH4, 1, .int .i64 (by')), (bH3, 0, .int .i64 (ax)), (bH3, 1, .int .i64 (ay)), (w.heap.size, 0, .slice (some ⟨b1, o1, none⟩) ns.length c), (w.heap.size, 1, .slice (some ⟨b2, o2, none⟩) ls.length c2), (g', 0, .int .i64 (i)), (g', 1, .int .i64 (j)), (b2, o2 + i * 2, .int .i64 (ix)), (b2, o2 + i * 2 + 1, .int .i64 (iy)), (b2, o2 + j * 2, .int .i64 (jx)), (b2, o2 + j * 2 + 1, .int .i64 (jy)), (b1, o1 + a * 2, .int .i64 (ax)), (b1, o1 + a * 2 + 1, .int .i64 (ay)), (b1, o1 + b * 2, .int .i64 (bx)), (b1, o1 + b * 2 + 1, .int .i64 (by')), (b1, o1 + q * 2, .int .i64 (qx)), (b1, o1 + q * 2 + 1, .int .i64 (qy))]) (by kernel_rfl) H4.out.drew ?_
    iterate 9 (refine takeT (v := ?_) rfl (by kernel_rfl) (by kernel_rfl) (by kernel_rfl) ?_ ?_; rotate_left; (first | (refine Or.inr ⟨by rfl, ?_⟩; with_reducible rfl) | (refine Or.inl ⟨by rfl, fun W hS => detRes_value (w' := W) ?_ hS⟩; obtain ⟨x0, x1, x2, x3, x4, x5, x6, x7, x8, x9, x10, x11, x12, x13, x14, x15, x16, x17, _⟩ := hS.1; go_simp; first | done | with_reducible rfl) | (refine Or.inl ⟨by rfl, fun W hS => ?_⟩; refine detRes_call (w' := W) (f := ?_) (args := ?_) ?_ ?_; rotate_left 2; (go_simp; (refine ⟨?_, ?_⟩ <;> with_reducible rfl)); (first | (with_reducible refine (HB.out _).mono ?_) | fail); (first | (rintro e wn ⟨rfl, hb⟩; refine ⟨?_, hS.step hb⟩; with_reducible rfl) | (rintro e wn ⟨rfl, rfl⟩; refine ⟨?_, hS⟩; with_reducible rfl) | fail)) | fail); (simp only [Act.put, List.setIfInBounds_toArray, List.set_cons_zero, List.set_cons_succ]))
    refine doneD (by kernel_rfl) fun wH5 HS => ?_
    have H5 := Lib.hid HS; clear HS
    try clear x0 x1 x2 x3 x4 x5 x6 x7 x8 x9 x10 x11 x12 x13 x14 x15 x16 x17
    obtain ⟨x0, x1, x2, x3, x4, x5, x6, x7, x8, x9, x10, x11, x12, x13, x14, x15, x16, x17, _⟩ := H5.out.1
    go_wp2_with fail
    go_ret
    exact ⟨ret_bool (by rw [HR.out]), H5.out.below⟩
  · have HR := Lib.hid (HF.out h2)
    have g : (dg != 2) = true := by simp; intro h; exact h2 (HDT.out.1 h)
    go_wp2_with fail
    refine (HD.out _ (HN.out.step H0.out.below) (HL.out.step H0.out.below)).mono ?_
    rintro e wH1 ⟨rfl, hb⟩
    have H1 := Lib.hid ((H0.out).step hb); clear hb
    try clear x0 x1
    obtain ⟨x0, x1, _⟩ := H1.out.1
    go_wp2_with fail
    go_ret
    exact ⟨ret_bool (by rw [HR.out]), H1.out.below⟩

end Go.Proofs.Ytkkjcdilpbofmaa
