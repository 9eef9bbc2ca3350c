/-
  Several texts in one: a claim has at most 60 files.
-/
import Derived.Test.YtepacoacalhdcaaGreatG42
import Derived.Test.YtepacoacalhdcaaGreatG35
import Derived.Test.YtepacoacalhdcaaGreatG22
import Derived.Test.YtepacoacalhdcaaGreatHist

namespace Go.Proofs.YtepacoacalhdcaaGreat
open Go.RowKit Go.Conc
set_option linter.unusedVariables false
set_option linter.unusedSimpArgs false

theorem sumA_bd2 {ns ls : List Nd} : ∀ (l : List Int), (∀ x, x ∈ l → ∃ k : Nat, x = k ∧ k < (wF ns ls).length) → 0 ≤ sumA ns ls l ∧ sumA ns ls l ≤ 16000 * l.length
  | l, h => by
    rw [sumA_sumZ]
    induction l with
    | nil => simp [sumZ]
    | cons x t ih =>
      obtain ⟨k, rfl, hk⟩ := h x (by simp)
      have h1 := area_nnB (ns := ns) (ls := ls) ((idxB_iff _ _).2 (show 0 ≤ (k : Int) ∧ (k : Int) < ((wF ns ls).length : Int) by omega))
      have h2 := ih fun y hy => h y (by simp [hy])
      simp only [List.map_cons, sumZ, List.length_cons]
      omega

theorem orgL_at {ns ls : List Nd} {hs : List Int} {j : Nat} (hj : j < (orgL ns ls hs).length) : ∃ k : Nat, atZ (orgL ns ls hs) j = (k : Int) ∧ k < (wF ns ls).length ∧ 0 < areaW ns ls (k : Int) ∧ areaW ns ls (k : Int) ≤ 16000 := by
  have h1 : atZ (orgL ns ls hs) j ∈ orgL ns ls hs := by rw [← atZ_get hj]; exact List.getElem_mem hj
  have h2 := (List.mem_filter.1 h1).1
  obtain ⟨i, hi, e⟩ := List.getElem_of_mem h2
  obtain ⟨k, a1, a2, -, a3, a4⟩ := inn_at hi
  rw [← atZ_get hi, e] at a1
  exact ⟨k, a1, a2, a3, a4⟩

theorem orgL_len (ns ls : List Nd) (hs : List Int) : (orgL ns ls hs).length ≤ 12 := Nat.le_trans (List.length_filter_le _ _) (inn_twelve ns ls)

theorem org_bd (ns ls : List Nd) (hs : List Int) (j : Nat) : 0 ≤ sumA ns ls ((orgL ns ls hs).take j) ∧ sumA ns ls ((orgL ns ls hs).take j) ≤ 192000 := by
  have h := sumA_bd2 (ns := ns) (ls := ls) ((orgL ns ls hs).take j) fun x hx => by
    obtain ⟨i, hi, e⟩ := List.getElem_of_mem (List.mem_of_mem_take hx)
    obtain ⟨k, a1, a2, -⟩ := orgL_at hi
    rw [← atZ_get hi, e] at a1
    exact ⟨k, a1, a2⟩
  have h12 := orgL_len ns ls hs
  have : ((orgL ns ls hs).take j).length ≤ 12 := Nat.le_trans (List.length_take_le' _ _) h12
  omega

set_option maxRecDepth 100000 in
set_option maxHeartbeats 4000000 in
theorem implFirst (ns ls : List Nd) (xs : List Int) (v1 v2 v3 v4 vx : Value) (B : Nat) (w : World) (g1 : Prs w v1 (gN ns ls)) (g2 : Prs w v2 (gL ns ls)) (g3 : Faces w B v3 (wF ns ls)) (g4 : Ints w B v4 (gA ns ls)) (hv : Seq w vx xs) (hxl : xs.length = (wF ns ls).length) :
    Calls Tryz.prog 84 #[.agg #[v1, v2, v3, v4], vx] w (IntIs (sumA ns ls (orgL ns ls xs)) w) := by
  have HIN := Lib.hid (fun v1 v2 v3 v4 B w h1 h2 h3 h4 => implInnG ns ls v1 v2 v3 v4 B w h1 h2 h3 h4)
  unfold IntsNew at HIN
  have HAR := Lib.hid (fun k hk v1 v2 v3 v4 B w h1 h2 h3 h4 => implAreaG ns ls k hk v1 v2 v3 v4 B w h1 h2 h3 h4)
  unfold IntIs at HAR
  have HAT := Lib.hid (fun i (hi : i < (innW ns ls).length) => (show ∃ k : Nat, atZ (innW ns ls) i = (k : Int) ∧ k < (wF ns ls).length from by
    obtain ⟨k, h1, h2, -⟩ := inn_at hi
    exact ⟨k, h1, h2⟩))
  have HQA := Lib.hid (fun j (hj : j < (orgL ns ls xs).length) => orgL_at hj)
  have HQB := Lib.hid (org_bd ns ls xs)
  have HSM := Lib.hid (fun j (hj : j < (orgL ns ls xs).length) => (show sumA ns ls ((orgL ns ls xs).take (j + 1)) = sumA ns ls ((orgL ns ls xs).take j) + areaW ns ls (atZ (orgL ns ls xs) j) from by
    rw [List.take_succ_eq_append_getElem hj, sumA_app, atZ_get hj]))
  have HS0 := Lib.hid (show sumA ns ls ((orgL ns ls xs).take 0) = 0 from rfl)
  have HSE := Lib.hid (show sumA ns ls ((orgL ns ls xs).take (orgL ns ls xs).length) = sumA ns ls (orgL ns ls xs) from by rw [List.take_length])
  have HQ12 := Lib.hid (orgL_len ns ls xs)
  have HFT := Lib.hid (fun m (hm : m < (innW ns ls).length) => (show ((innW ns ls).take (m + 1)).filter (fun x => atZ xs x.toNat == 0) = ((innW ns ls).take m).filter (fun x => atZ xs x.toNat == 0) ++ (if (atZ xs (atZ (innW ns ls) m).toNat == 0) = true then [atZ (innW ns ls) m] else []) from by
    rw [List.take_succ_eq_append_getElem hm, List.filter_append, atZ_get hm]
    congr 1
    cases h : (atZ xs (atZ (innW ns ls) m).toNat == 0) <;> simp [List.filter_cons, h]))
  have HFE := Lib.hid (show ((innW ns ls).take (innW ns ls).length).filter (fun x => atZ xs x.toNat == 0) = orgL ns ls xs from by rw [List.take_length]; rfl)
  have HF0 := Lib.hid (show ((innW ns ls).take 0).filter (fun x => atZ xs x.toNat == 0) = [] from rfl)
  have HFL := Lib.hid (fun m => (show (((innW ns ls).take m).filter (fun x => atZ xs x.toNat == 0)).length ≤ 12 from Nat.le_trans (List.length_filter_le _ _) (Nat.le_trans (List.length_take_le' _ _) (inn_twelve ns ls))))
  have HFN := Lib.hid (fun m (hm : m < (innW ns ls).length) => (show (((innW ns ls).take m).filter (fun x => atZ xs x.toNat == 0)).length < (wF ns ls).length from by
    have h1 := List.length_filter_le (fun x => atZ xs x.toNat == 0) ((innW ns ls).take m)
    rw [List.length_take] at h1
    have h2 := fltN_len (innP (outW ns ls)) (wF ns ls).length
    have h3 : (innW ns ls).length ≤ (wF ns ls).length := h2
    omega))
  have h13 := wF_thirteen ns ls
  have hi12 : (innW ns ls).length ≤ 12 := inn_twelve ns ls
  have HV := Lib.hid hv
  have HG1 := Lib.hid g1
  have HG2 := Lib.hid g2
  have HG3 := Lib.hid g3
  have HG4 := Lib.hid g4
  obtain ⟨A, c1, rfl⟩ := prs_form2 g1
  obtain ⟨A2, c2, rfl⟩ := prs_form2 g2
  obtain ⟨A3, c3, rfl⟩ := faces_form g3
  obtain ⟨A4, c4, rfl⟩ := ints_form g4
  obtain ⟨A5, c5, rfl⟩ := seq_form2 hv
  clear g1 g2 g3 g4 hv
  have HXL := Lib.hid hxl; clear hxl
  obtain ⟨F, hF⟩ : ∃ F : Nat → List Int, (fun m => ((innW ns ls).take m).filter (fun x => atZ xs x.toNat == 0)) = F := ⟨_, rfl⟩
  have HF := Lib.hid (fun m => (show ((innW ns ls).take m).filter (fun x => atZ xs x.toNat == 0) = F m from by rw [← hF])); clear hF
  simp only [HF.out] at HFT HFE HF0 HFL HFN
  clear HF
  obtain ⟨S, hS⟩ : ∃ S : Nat → Int, (fun j => sumA ns ls ((orgL ns ls xs).take j)) = S := ⟨_, rfl⟩
  have HS := Lib.hid (fun j => (show sumA ns ls ((orgL ns ls xs).take j) = S j from by rw [← hS])); clear hS
  simp only [HS.out] at HQB HSM HS0 HSE
  clear HS
  generalize sumA ns ls (orgL ns ls xs) = res at *
  generalize orgL ns ls xs = Q at *
  generalize areaW ns ls = AR at *
  generalize gN ns ls = ns' at *
  generalize gL ns ls = ls' at *
  generalize gA ns ls = ds at *
  generalize wF ns ls = rs at *
  generalize innW ns ls = X at *
  generalize hN : rs.length = N at *
  have HNN := Lib.hid hN; clear hN
  have H0 := Lib.hid (heldG w (.slice A ns'.length c1) (.slice A2 ls'.length c2) (.slice A3 N c3) (.slice A4 ds.length c4) 98)
  have hmc : ∀ W : World, (Instr.makeChan 171 (.int .i64 (N : Int))).run Tryz.prog W = .ok (.chan (some W.heap.size)) (W.alloc (.chan N #[] false 0 0 false)) := by
    intro W
    obtain ⟨i0, hi, hz0, hz1, hz2⟩ := info_parts infoInt
    exact run_makeChan (t := 171) (e := 3) (i := i0) Tryz.underlying171 hi .i64 N (by omega) (by rw [hz2]; omega)
  have H1 := Lib.hid (H0.out.alloc (.chan N #[] false 0 0 false))
  have HC1 := Lib.hid (show CQ ((w.alloc (.cells #[.slice A ns'.length c1, .slice A2 ls'.length c2, .slice A3 N c3, .slice A4 ds.length c4] 98)).alloc (.chan N #[] false 0 0 false)) (w.heap.size + 1) N [] false from ⟨0, 0, by
    have h1 := heap_alloc_new (w.alloc (.cells #[.slice A ns'.length c1, .slice A2 ls'.length c2, .slice A3 N c3, .slice A4 ds.length c4] 98)) (.chan N #[] false 0 0 false)
    simpa using h1⟩)
  go_enter Tryz.func84, Tryz.ntmps84
  obtain ⟨x0, x1, x2, x3, _⟩ := H1.out.1
  refine wp_seq ?_
  go_hide hQ0
  go_wp2_with fail
  subst hQ0
  simp only [Exit.then]
  refine wp_seq ?_
  go_hide hQ0
  go_wp2_with fail
  subst hQ0
  simp only [Exit.then]
  refine wp_seq ?_
  go_hide hQ0
  go_wp2_with fail
  refine (HIN.out _ _ _ _ _ _ (HG1.out.step H1.out.below) (HG2.out.step H1.out.below) (HG3.out.step H1.out.below) (HG4.out.step H1.out.below)).mono ?_
  rintro e w2 ⟨vi, rfl, hm, hb⟩
  have H2 := Lib.hid (H1.out.step hb)
  have HC2 := Lib.hid (HC1.out.step hb)
  obtain ⟨ai, ci, rfl⟩ := ints_form hm
  have hsz : ((w.alloc (.cells #[.slice A ns'.length c1, .slice A2 ls'.length c2, .slice A3 N c3, .slice A4 ds.length c4] 98)).alloc (.chan N #[] false 0 0 false)).heap.size = w.heap.size + 1 + 1 := by simp
  rw [hsz] at hm
  have HL2 := Lib.hid hm
  clear hm hb hsz x0 x1 x2 x3 H1 HC1 H0
  go_wp2_with fail
  subst hQ0
  go_loopw [17] (fun i wr => ∃ m : Nat, m ≤ X.length ∧ i = .int .i64 m ∧ CQ wr (w.heap.size + 1) N (F m) false ∧ Ints wr (w.heap.size + 1 + 1) (.slice ai X.length ci) X ∧ Held w wr [(w.heap.size, 0, .slice A ns'.length c1), (w.heap.size, 1, .slice A2 ls'.length c2), (w.heap.size, 2, .slice A3 N c3), (w.heap.size, 3, .slice A4 ds.length c4)]) (fun i _ => X.length - (intOf i).toNat)
  case atStart => exact ⟨0, Nat.zero_le _, rfl, by rw [HF0.out]; exact HC2.out, HL2.out, H2.out⟩
  case round =>
    clear HC2 HL2 H2
    obtain ⟨m, hm, rfl, hcq, hlx, hh⟩ := hrel
    have HC := Lib.hid hcq; clear hcq
    have HLX := Lib.hid hlx; clear hlx
    have H1 := Lib.hid hh; clear hh
    by_cases hlt : m < X.length
    · have p3 : (0 : Int) ≤ m := by omega
      have p4 : (m : Int) < (X.length : Int) := by omega
      obtain ⟨gl, cl, el⟩ := HLX.out.some_ (by omega)
      simp only [Value.slice.injEq] at el
      obtain ⟨rfl, -, rfl⟩ := el
      obtain ⟨t0, -, hgl0, -, -⟩ := HLX.out.at_ (j := m) hlt
      obtain ⟨k, hk, hkN⟩ := HAT.out m hlt
      have HTM := Lib.hid (HFT.out m hlt)
      rw [hk] at t0 HTM
      rw [Int.toNat_natCast] at HTM
      have hkx : k < xs.length := by rw [HXL.out]; exact hkN
      obtain ⟨bx, ox, rfl, hbx, hcx⟩ := seq_at (HV.out.step H1.out.below) k hkx
      have cx := hcx k hkx
      have z0 : (0 : Int) ≤ k := by omega
      have z1 : (k : Int) < (xs.length : Int) := by omega
      have HFm := Lib.hid (HFN.out m hlt)
      clear hk hbx hcx
      generalize atZ xs k = y at *
      refine wp_seq ?_
      go_hide hQ1
      go_wp2_with fail
      subst hQ1
      simp only [Exit.then]
      refine wp_seq ?_
      go_hide hQ1
      refine wp_cond_true (by rfl) ?_
      refine wp_skip ?_
      subst hQ1
      simp only [Exit.then]
      refine wp_seq ?_
      go_hide hQ1
      refine wp_block ?_
      refine wp_seq ?_
      go_hide hQ2
      go_wp2_with fail
      subst hQ2
      simp only [Exit.then]
      refine wp_seq ?_
      go_hide hQ2
      go_wp2_with fail
      subst hQ2
      simp only [Exit.then]
      by_cases hy : y = 0
      · have e1 : (y == 0) = true := by rw [hy]; rfl
        have HX := Lib.hid (show F (m + 1) = F m ++ [(k : Int)] from by rw [HTM.out, e1]; rfl)
        have hcl := HC.out.lt
        obtain ⟨s3, r3, hce⟩ := HC.out
        have hroom : (((F m).map fun x => Value.int .i64 x).toArray).size < N := by have := HFm.out; simp; omega
        have HT1 := Lib.hid (Turn.setChan (c := w.heap.size + 1) (cap := N) (buf := (((F m).map fun x => Value.int .i64 x).toArray).push (.int .i64 k)) (cl := false) (s := s3 + 1) (r := r3) (tm := false) wr)
        have H5 := Lib.hid (H1.out.turn HT1.out ⟨.inl (by omega), .inl (by omega), .inl (by omega), .inl (by omega), trivial⟩ (by omega))
        have HX5 := Lib.hid (HLX.out.turn HT1.out (fun p e => by have := HC.out.far HLX.out e; omega))
        have HC5 := Lib.hid (show CQ (wr.setChan (w.heap.size + 1) N ((((F m).map fun x => Value.int .i64 x).toArray).push (.int .i64 k)) false (s3 + 1) r3 false) (w.heap.size + 1) N (F (m + 1)) false from ⟨s3 + 1, r3, by
          rw [heap_setChan wr _ _ _ _ _ _ _ hcl, HX.out]
          simp⟩)
        rw [e1]
        refine wp_cond_true (by rfl) ?_
        refine wp_region_S ?_
        show wpS _ _ _ [0, 1, 2] _ _
        refine wpS_value (by rfl) (by rfl) (v := .chan (some (w.heap.size + 1))) (by rfl) ?_
        refine wpS_value (by rfl) (by rfl) (v := .int .i64 k) (by rfl) ?_
        refine wpS_send (by rfl) (by rfl) (c := w.heap.size + 1) (v := .int .i64 k) (z := .tuple #[]) (by rfl) hce hroom ?_
        generalize wr.setChan (w.heap.size + 1) N ((((F m).map fun x => Value.int .i64 x).toArray).push (.int .i64 k)) false (s3 + 1) r3 false = W4 at *
        clear hce hroom HT1 hcl
        simp only [Act.put, List.getElem_toArray, List.getElem_cons_zero, List.getElem_cons_succ, List.setIfInBounds_toArray, List.set_cons_zero, List.set_cons_succ]
        refine wpS_rest 3 ?_
        simp only [List.drop_succ_cons, List.drop_zero]
        refine wpList_nil ?_
        subst hQ1
        simp only [Exit.then, Exit.inBlock]
        go_wp2_with fail
        exact ⟨⟨m + 1, by omega, by go_num, HC5.out, HX5.out, H5.out⟩, by simp [intOf]; omega⟩
      · have e1 : (y == 0) = false := by simpa using hy
        have HX := Lib.hid (show F (m + 1) = F m from by rw [HTM.out, e1]; simp)
        rw [e1]
        refine wp_cond_false (by rfl) ?_
        refine wp_skip ?_
        subst hQ1
        simp only [Exit.then, Exit.inBlock]
        go_wp2_with fail
        exact ⟨⟨m + 1, by omega, by go_num, by rw [HX.out]; exact HC.out, HLX.out, H1.out⟩, by simp [intOf]; omega⟩
    · obtain rfl : m = X.length := by omega
      have HC0 := Lib.hid (show CQ wr (w.heap.size + 1) N (Q.drop 0) false from by rw [List.drop_zero, ← HFE.out]; exact HC.out)
      have S1 := Lib.hid (Held.start H1.out.1 H1.out.2.1)
      go_wp2_with fail
      go_loopw [8] (fun o wq => ∃ j : Nat, j ≤ Q.length ∧ o = .int .i64 (S j) ∧ CQ wq (w.heap.size + 1) N (Q.drop j) false ∧ Held w wq [(w.heap.size, 0, .slice A ns'.length c1), (w.heap.size, 1, .slice A2 ls'.length c2), (w.heap.size, 2, .slice A3 N c3), (w.heap.size, 3, .slice A4 ds.length c4)]) (fun o _ => 200000 - (intOf o).toNat)
      case atStart => exact ⟨0, Nat.zero_le _, by rw [HS0.out], HC0.out, H1.out⟩
      case round =>
        obtain ⟨j, hj, rfl, hcq, hh⟩ := hrel
        have HC := Lib.hid hcq; clear hcq
        have H2 := Lib.hid hh; clear hh
        by_cases hjl : j < Q.length
        · obtain ⟨k, hk, hkN, k0, k1⟩ := HQA.out j hjl
          have HSJ := Lib.hid (HSM.out j hjl)
          rw [hk] at HSJ
          have hdrop : Q.drop j = (k : Int) :: Q.drop (j + 1) := by rw [List.drop_eq_getElem_cons hjl, atZ_get hjl, hk]
          obtain ⟨b1, b2⟩ := HQB.out j
          obtain ⟨b3, b4⟩ := HQB.out (j + 1)
          have HARk := Lib.hid (HAR.out k hkN)
          have hce := HC.out
          rw [hdrop] at hce
          obtain ⟨s3, r3, hce⟩ := hce
          have hcl := HC.out.lt
          have HT1 := Lib.hid (Turn.setChan (c := w.heap.size + 1) (cap := N) (buf := ((Q.drop (j + 1)).map fun x => Value.int .i64 x).toArray) (cl := false) (s := s3) (r := r3 + 1) (tm := false) wr)
          have H5 := Lib.hid (H2.out.turn HT1.out ⟨.inl (by omega), .inl (by omega), .inl (by omega), .inl (by omega), trivial⟩ (by omega))
          have HC5 := Lib.hid (show CQ (wr.setChan (w.heap.size + 1) N ((Q.drop (j + 1)).map fun x => Value.int .i64 x).toArray false s3 (r3 + 1) false) (w.heap.size + 1) N (Q.drop (j + 1)) false from ⟨s3, r3 + 1, heap_setChan wr _ _ _ _ _ _ _ hcl⟩)
          rw [HSJ.out] at b3 b4
          clear hk
          generalize AR (k : Int) = ar at *
          generalize S j = sj at *
          have e1 : IntKind.i64.wrap (sj + ar) = sj + ar := IntWalk.i64_in _ (by omega)
          refine wp_block ?_
          refine wp_seq ?_
          go_hide hQ1
          go_wp2_with fail
          subst hQ1
          simp only [Exit.then]
          refine wp_seq ?_
          go_hide hQ1
          refine wp_region_S ?_
          show wpS _ _ _ [0, 1, 2] _ _
          refine wpS_sel_recv (by rfl) (by rfl) (c := w.heap.size + 1) (z := .int .i64 0) (by first | rfl | kernel_rfl | simp [go_sem, execOp, rcase, Act.eval]) hce (by simp) ?_
          have hex : ((((k : Int) :: Q.drop (j + 1)).map fun x => Value.int .i64 x).toArray.extract 1 (((k : Int) :: Q.drop (j + 1)).map fun x => Value.int .i64 x).toArray.size) = ((Q.drop (j + 1)).map fun x => Value.int .i64 x).toArray := ext_one _ _
          have hgd : ((((k : Int) :: Q.drop (j + 1)).map fun x => Value.int .i64 x).toArray.getD 0 undef) = .int .i64 k := by simp
          rw [hex, hgd]
          generalize wr.setChan (w.heap.size + 1) N ((Q.drop (j + 1)).map fun x => Value.int .i64 x).toArray false s3 (r3 + 1) false = W2 at *
          clear hex hgd hce hdrop HT1 hcl H2 HC
          simp only [Act.put, List.getElem_toArray, List.getElem_cons_zero, List.getElem_cons_succ, List.setIfInBounds_toArray, List.set_cons_zero, List.set_cons_succ]
          refine wpS_rest 1 ?_
          simp only [List.drop_succ_cons, List.drop_zero]
          go_wp2_with fail
          subst hQ1
          simp only [Exit.then]
          obtain ⟨x0, x1, x2, x3, _⟩ := H5.out.1
          go_wp2_with fail
          refine (HARk.out _ _ _ _ _ _ (HG1.out.step H5.out.below) (HG2.out.step H5.out.below) (HG3.out.step H5.out.below) (HG4.out.step H5.out.below)).mono ?_
          rintro e w6 ⟨rfl, hb⟩
          have H6 := Lib.hid (H5.out.step hb)
          have HC6 := Lib.hid (HC5.out.step hb)
          clear hb x0 x1 x2 x3
          go_wp2_with fail
          exact ⟨⟨j + 1, by omega, by rw [HSJ.out], HC6.out, H6.out⟩, by simp [intOf]; omega⟩
        · obtain rfl : j = Q.length := by omega
          have hce := HC.out
          rw [List.drop_length] at hce
          obtain ⟨s3, r3, hce⟩ := hce
          refine wp_block ?_
          refine wp_seq ?_
          go_hide hQ1
          go_wp2_with fail
          subst hQ1
          simp only [Exit.then]
          refine wp_seq ?_
          go_hide hQ1
          refine wp_region_S ?_
          show wpS _ _ _ [0, 1, 2] _ _
          refine wpS_sel_none (by rfl) (by rfl) (c := w.heap.size + 1) (z := .int .i64 0) (by first | rfl | kernel_rfl | simp [go_sem, execOp, rcase, Act.eval]) hce ?_
          simp only [Act.put, List.getElem_toArray, List.getElem_cons_zero, List.getElem_cons_succ, List.setIfInBounds_toArray, List.set_cons_zero, List.set_cons_succ]
          refine wpS_rest 1 ?_
          simp only [List.drop_succ_cons, List.drop_zero]
          go_wp2_with fail
          subst hQ1
          simp only [Exit.then]
          go_wp2_with fail
          go_ret
          exact ⟨ret_int (by rw [HSE.out]), H2.out.below⟩
end Go.Proofs.YtepacoacalhdcaaGreat

namespace Go.Proofs.YtepacoacalhdcaaGreat
open Go.RowKit
set_option linter.unusedVariables false
set_option linter.unusedSimpArgs false

set_option maxRecDepth 100000 in
set_option maxHeartbeats 1000000 in
theorem implOrg (ns ls : List Nd) (xs : List Int) (vn vl v : Value) (w : World) (hn : Prs w vn ns) (hl : Prs w vl ls) (hv : Seq w v xs) :
    Calls Tryz.prog 31 #[.agg #[vn, vl], v] w (IntIs (orgW ns ls xs) w) := by
  have HG := Lib.hid (fun w h1 h2 h3 => implHistG ns ls xs vn vl v w h1 h2 h3)
  unfold GlassL at HG
  have HFI := Lib.hid (fun (h : listB ns ls 0 3000 xs = true) v1 v2 v3 v4 B w h1 h2 h3 h4 hv => (show Calls Tryz.prog 84 #[.agg #[v1, v2, v3, v4], v] w (IntIs (orgW ns ls xs) w) from by
    have := implFirst ns ls xs v1 v2 v3 v4 v B w h1 h2 h3 h4 hv (listB_parts h).2.1
    rw [org_inn (listB_parts h).1] at this
    unfold orgW
    rw [if_pos h]
    exact this))
  unfold IntIs at HFI
  have HNO := Lib.hid (fun (h : listB ns ls 0 3000 xs = false) => (show orgW ns ls xs = -1 from if_neg (by rw [h]; simp)))
  have HN := Lib.hid hn
  have HL := Lib.hid hl
  have HV := Lib.hid hv
  have H0 := Lib.hid (held_pair w vn vl 32)
  obtain ⟨A, c, rfl⟩ := prs_form2 hn
  obtain ⟨A2, c2, rfl⟩ := prs_form2 hl
  obtain ⟨A3, c3, rfl⟩ := seq_form2 hv
  clear hn hl hv
  generalize gN ns ls = ns' at *
  generalize gL ns ls = ls' at *
  generalize gA ns ls = ds at *
  generalize wF ns ls = rs at *
  generalize orgW ns ls xs = res at *
  generalize listB ns ls 0 3000 xs = lb at *
  go_enter Tryz.func31, Tryz.ntmps31
  go_wp2_with fail
  refine (HG.out _ (HN.out.step H0.out.below) (HL.out.step H0.out.below) (HV.out.step H0.out.below)).mono ?_
  rintro e w1 ⟨v1, v2, v3, v4, rfl, g1, g2, g3, g4, hb⟩
  have H1 := Lib.hid (H0.out.step hb)
  have G0 := Lib.hid (heldG w1 v1 v2 v3 v4 98)
  have B1 := Lib.hid (H1.out.below.trans (G0.out.below.mono H1.out.below.size))
  have G1 := Lib.hid (g1.step G0.out.below)
  have G2 := Lib.hid (g2.step G0.out.below)
  have G3 := Lib.hid (g3.step G0.out.below)
  have G4 := Lib.hid (g4.step G0.out.below)
  obtain ⟨A5, c5, rfl⟩ := prs_form2 g1
  obtain ⟨A6, c6, rfl⟩ := prs_form2 g2
  obtain ⟨A7, c7, rfl⟩ := faces_form g3
  obtain ⟨A8, c8, rfl⟩ := ints_form g4
  clear hb g1 g2 g3 g4
  obtain ⟨y0, y1, y2, y3, _⟩ := G0.out.1
  cases lb
  · go_wp2_with fail
    go_ret
    exact ⟨ret_int (HNO.out (by first | rfl | trivial)).symm, B1.out⟩
  · have HFJ := Lib.hid (HFI.out (by first | rfl | trivial))
    go_wp2_with fail
    refine (HFJ.out _ _ _ _ _ _ G1.out G2.out G3.out G4.out (HV.out.step B1.out)).mono ?_
    rintro e w2 ⟨rfl, hb⟩
    go_wp2_with fail
    go_ret
    exact ⟨rfl, B1.out.trans (hb.mono B1.out.size)⟩

set_option maxRecDepth 100000 in
set_option maxHeartbeats 4000000 in
theorem specOrg (ns ls : List Nd) (xs : List Int) (vn vl v : Value) (w : World) (hn : Prs w vn ns) (hl : Prs w vl ls) (hv : Seq w v xs) :
    Calls Tryz.prog 29 #[.agg #[vn, vl], v] w (IntIs (orgW ns ls xs) w) := by
  have HG := Lib.hid (fun w h1 h2 h3 => specHistOk ns ls xs vn vl v w h1 h2 h3)
  unfold BoolIs at HG
  have HF := Lib.hid (fun w h1 h2 => specFacesL ns ls vn vl w h1 h2)
  unfold FacesNew at HF
  have HOK := Lib.hid (wF_ok ns ls).2
  have HAL := Lib.hid (fun l vx w (hx : Seq w vx l) hn hl hw hd h4 => specAlong ns ls vn vl vx l w hn hl hx hw hd h4)
  unfold IntIs at HAL
  have HNO := Lib.hid (fun (h : listB ns ls 0 3000 xs = false) => (show orgW ns ls xs = -1 from if_neg (by rw [h]; simp)))
  have HYE := Lib.hid (fun (h : listB ns ls 0 3000 xs = true) => (show orgW ns ls xs = orgF ns ls xs (wF ns ls).length ∧ xs.length = (wF ns ls).length from ⟨if_pos h, (listB_parts h).2.1⟩))
  have h40 := wF_len (ns := ns) (ls := ls)
  have HU := Lib.hid (fun m => (show orgF ns ls xs (m + 1) = orgF ns ls xs m + (if atZ xs m = 0 then max 0 (areaL ns ls (atR (wF ns ls) m) (atR (wF ns ls) m).length) else 0) from rfl))
  have HUB := Lib.hid (fun m (h : m ≤ (wF ns ls).length) => orgF_bd (ns := ns) (ls := ls) (hs := xs) h)
  have HBD := Lib.hid (fun k (h : k < (wF ns ls).length) => (show -16000 ≤ areaL ns ls (atR (wF ns ls) k) (atR (wF ns ls) k).length ∧ areaL ns ls (atR (wF ns ls) k) (atR (wF ns ls) k).length ≤ 16000 from arK_bd (ns := ns) (ls := ls) h))
  have HZ := Lib.hid (show orgF ns ls xs 0 = 0 from rfl)
  have HN := Lib.hid hn
  have HL := Lib.hid hl
  have HV := Lib.hid hv
  have H0 := Lib.hid (held_pair w vn vl 32)
  obtain ⟨A, c, rfl⟩ := prs_form2 hn
  obtain ⟨A2, c2, rfl⟩ := prs_form2 hl
  obtain ⟨A3, c3, rfl⟩ := seq_form2 hv
  clear hn hl hv
  generalize orgF ns ls xs = X at *
  generalize orgW ns ls xs = res at *
  generalize wF ns ls = rs at *
  generalize listB ns ls 0 3000 xs = lb at *
  go_enter Tryz.func29, Tryz.ntmps29
  go_wp2_with fail
  refine (HG.out _ (HN.out.step H0.out.below) (HL.out.step H0.out.below) (HV.out.step H0.out.below)).mono ?_
  rintro e w1 ⟨rfl, hb⟩
  have H1 := Lib.hid (H0.out.step hb); clear hb H0
  cases lb
  · go_wp2_with fail
    go_ret
    exact ⟨ret_int (HNO.out (by first | rfl | trivial)).symm, H1.out.below⟩
  · obtain ⟨hr, hxl⟩ := HYE.out (by first | rfl | trivial)
    have HR := Lib.hid hr
    have HXL := Lib.hid hxl
    clear hr hxl HYE HNO
    obtain ⟨x0, x1, _⟩ := H1.out.1
    go_wp2_with fail
    refine (HF.out _ (HN.out.step H1.out.below) (HL.out.step H1.out.below)).mono ?_
    rintro e w2 ⟨vf, rfl, hf, hb⟩
    have H2 := Lib.hid (H1.out.step hb); clear hb
    obtain ⟨a, c4, rfl, hmax, hro⟩ := hf.open_
    have HRO := Lib.hid hro; clear hro hf H1 x0 x1
    go_wp2_with fail
    go_loopw [5, 7] (fun n i wr => ∃ m : Nat, m ≤ rs.length ∧ i = .int .i64 m ∧ n = .int .i64 (X m) ∧ Held w wr [(w.heap.size, 0, .slice A ns.length c), (w.heap.size, 1, .slice A2 ls.length c2)] ∧ Below w2.heap.size w2 wr) (fun _ i _ => rs.length - (intOf i).toNat)
    case atStart => exact ⟨0, Nat.zero_le _, rfl, by rw [HZ.out], H2.out, Below.refl _ _⟩
    case round =>
      clear H2
      obtain ⟨m, hm, rfl, rfl, hh, hbb⟩ := hrel
      have H1 := Lib.hid hh; clear hh
      have B1 := Lib.hid hbb; clear hbb
      by_cases hlt : m < rs.length
      · obtain ⟨g3, rfl, hg3, hrw⟩ := HRO.out m hlt
        obtain ⟨A4, c5, k0, hsq⟩ := hrw wr B1.out
        obtain ⟨hw, hd, h4⟩ := HOK.out m hlt
        have HSQ := Lib.hid hsq
        have HA := Lib.hid (fun w hn hl (hx : Seq w (.slice A4 (atR rs m).length c5) (atR rs m)) => HAL.out (atR rs m) (.slice A4 (atR rs m).length c5) w hx hn hl hw hd h4)
        have HUM := Lib.hid (HU.out m)
        obtain ⟨b1, b2⟩ := HBD.out m hlt
        obtain ⟨b3, b4⟩ := HUB.out m hm
        obtain ⟨bx, ox, rfl, hbx, hcx⟩ := seq_at (HV.out.step H1.out.below) m (by rw [HXL.out]; exact hlt)
        have cx := hcx m (by rw [HXL.out]; exact hlt)
        have H5 := Lib.hid (Held.start (w := wr) (fs := [(w.heap.size, 0, .slice A ns.length c), (w.heap.size, 1, .slice A2 ls.length c2), (g3, m, .slice A4 (atR rs m).length c5)]) ⟨H1.out.1.1, H1.out.1.2.1, k0, trivial⟩ ⟨H1.out.2.1.1, H1.out.2.1.1, Nat.lt_of_lt_of_le hg3 B1.out.size, trivial⟩)
        clear hsq hrw hw hd k0 hcx hbx
        have q1 : (0 : Int) ≤ m := by omega
        have q2 : (m : Int) < (rs.length : Int) := by omega
        have q3 : (m : Int) < (xs.length : Int) := by rw [HXL.out]; exact q2
        generalize areaL ns ls (atR rs m) (atR rs m).length = ar at *
        generalize (atR rs m).length = rl at *
        generalize X m = xm at *
        generalize atZ xs m = y at *
        by_cases hy : y = 0
        · subst hy
          have HX := Lib.hid (show X (m + 1) = xm + max 0 ar from by rw [HUM.out]; simp)
          clear HUM
          have w1 : IntKind.i64.wrap (xm + max 0 ar) = xm + max 0 ar := IntWalk.i64_in _ (by omega)
          have w2' : wrap64 (xm + max 0 ar) = xm + max 0 ar := IntWalk.wrap64_in _ (by omega)
          obtain ⟨x0, x1, x2, _⟩ := H5.out.1
          go_wp2_with fail
          refine regionD (S := fun W => Held _ W [(w.heap.size, 0, .slice A ns.length c), (w.heap.size, 1, .slice A2 ls.length c2), (g3, m, .slice A4 rl c5)]) (by kernel_rfl) H5.out.drew ?_
          iterate 10 (refine takeT (v := ?_) rfl (by kernel_rfl) (by kernel_rfl) (by kernel_rfl) ?_ ?_; rotate_left; (first | (refine Or.inr ⟨by rfl, ?_⟩; with_reducible rfl) | (refine Or.inl ⟨by rfl, fun W hS => detRes_value (w' := W) ?_ hS⟩; obtain ⟨x0, x1, x2, _⟩ := hS.1; go_simp; first | done | with_reducible rfl) | (refine Or.inl ⟨by rfl, fun W hS => ?_⟩; refine detRes_call (w' := W) (f := ?_) (args := ?_) ?_ ?_; rotate_left 2; (go_simp; (refine ⟨?_, ?_⟩ <;> with_reducible rfl)); (first | (with_reducible refine (HA.out _ ((HN.out.step H1.out.below).step hS.below) ((HL.out.step H1.out.below).step hS.below) (HSQ.out.step hS.below)).mono ?_) | fail); (first | (rintro e wn ⟨rfl, hb⟩; refine ⟨?_, hS.step hb⟩; with_reducible rfl) | (rintro e wn ⟨rfl, rfl⟩; refine ⟨?_, hS⟩; with_reducible rfl) | fail)) | fail); (simp only [Act.put, List.setIfInBounds_toArray, List.set_cons_zero, List.set_cons_succ]))
          refine doneD (by kernel_rfl) fun wH6 HS => ?_
          have H6 := Lib.hid HS; clear HS
          try clear x0 x1 x2
          obtain ⟨x0, x1, x2, _⟩ := H6.out.1
          go_wp2_with fail
          exact ⟨⟨m + 1, by omega, by go_num, by rw [HX.out], H1.out.step H6.out.below, B1.out.trans (H6.out.below.mono B1.out.size)⟩, by simp [intOf]; omega⟩
        · have e1 : (y == 0) = false := by simpa using hy
          have HX := Lib.hid (show X (m + 1) = xm from by rw [HUM.out, if_neg hy]; omega)
          clear HUM hy
          go_wp2_with fail
          exact ⟨⟨m + 1, by omega, by go_num, by rw [HX.out], H1.out, B1.out⟩, by simp [intOf]; omega⟩
      · obtain rfl : m = rs.length := by omega
        go_wp2_with fail
        go_ret
        exact ⟨ret_int HR.out.symm, H1.out.below⟩
end Go.Proofs.YtepacoacalhdcaaGreat
