/-
  The faces on both sides of a lead, of the model: l09Sides, l09Is, SharedLeads, AreBeside, BesideOf.
-/
import Derived.Test.YtnonebfdognlmaaGreatGlsT
import Derived.Test.YtnonebfdognlmaaGreatGlsG
namespace Go.Proofs.YtnonebfdognlmaaGreat
open Go.RowKit
set_option linter.unusedVariables false
set_option linter.unusedSimpArgs false

theorem FaceV.cellAt {w : World} {B g c n : Nat} {us : List Value} {rs : List (List Int)} (h : FaceV w B (.slice (some ⟨g, 0, none⟩) n c) us rs) {j : Nat} (hj : j < rs.length) : w.cell? ⟨g, j, none⟩ = some (atV us j) ∧ g < w.heap.size := by
  obtain ⟨a, c', e, _, hc⟩ := h.form
  obtain ⟨g', e1, _, hg, hcell⟩ := hc j hj
  injection e with e2 _ _
  rw [e1] at e2
  injection e2 with e2
  injection e2 with e2
  subst e2
  exact ⟨hcell, hg⟩
theorem FaceV.some_ {w : World} {B : Nat} {v : Value} {us : List Value} {rs : List (List Int)} (h : FaceV w B v us rs) (h0 : 0 < rs.length) : ∃ g c, v = .slice (some ⟨g, 0, none⟩) rs.length c := by
  obtain ⟨a, c, rfl, _, hc⟩ := h.form
  obtain ⟨g, rfl, _⟩ := hc 0 h0
  exact ⟨g, c, rfl⟩
set_option maxRecDepth 100000 in
set_option maxHeartbeats 4000000 in
theorem specSides9 (ns ls : List Nd) (vn vl : Value) (w : World) (hn : Prs w vn ns) (hl : Prs w vl ls) (hh : wholeB ns ls = true) :
    Calls Tryz.prog 67 #[.agg #[vn, vl]] w (IntsNew (atW ns ls) w) := by
  obtain ⟨hw, hl0, h20, h12⟩ := whole_win hh
  have HF := Lib.hid (fun w h1 h2 => specFacesL ns ls vn vl w h1 h2)
  unfold FacesNew at HF
  have HN := Lib.hid hn
  have HL := Lib.hid hl
  have H0 := Lib.hid (held_pair w vn vl 32)
  obtain ⟨A, c, rfl⟩ := prs_form2 hn
  obtain ⟨A2, c2, rfl⟩ := prs_form2 hl
  clear hn hl
  have HPOS := Lib.hid (starts_pos hw hl0)
  have HFX := Lib.hid (fun k i (hk : k < (facesN ns ls (2 * ls.length)).length) (hi : i < (atR (facesN ns ls (2 * ls.length)) k).length) => fix_walk hw hk hi)
  have HRL := Lib.hid (fun k (hk : k < (facesN ns ls (2 * ls.length)).length) => row_len (ns := ns) (ls := ls) (k := k) (by rw [wF_whole hh]; exact hk))
  rw [wF_whole hh] at HRL HF
  have HEND := Lib.hid (fun d (h : d < 2 * ls.length) => fillF_end hw h)
  have HAL := Lib.hid (atW_len ns ls)
  have HFL := Lib.hid (facesN_le ns ls (2 * ls.length))
  unfold facesL at HFX HEND
  clear hh hw
  obtain ⟨N, hN⟩ : ∃ N, N = 2 * ls.length := ⟨_, rfl⟩
  have hNI : (2 * (ls.length : Int)) = (N : Int) := by omega
  have infoI : (Tryz.prog.info? 3).map (fun i => (i.zero, i.size, i.bytes)) = some (some (.int .i64 0), 1, 8) := infoInt
  have hmk : ∀ W : World, (Instr.makeSlice 41 (.int .i64 (2 * (ls.length : Int))) (.int .i64 (2 * (ls.length : Int)))).run Tryz.prog W = .ok (.slice (some ⟨W.heap.size, 0, none⟩) N N) (W.alloc (.cells (madeCells #[.int .i64 0] N) 3)) := by
    rw [hNI]
    exact run_make_row' 41 3 (.int .i64 0) 8 Tryz.underlying41 infoI rfl .i64 .i64 N (by omega) (by omega)
  clear infoI hNI
  rw [← hN] at HPOS HFX HRL HEND HAL HFL HF
  have hN40 : N ≤ 40 := by omega
  have HNE := Lib.hid hN; clear hN
  generalize facesN ns ls N = F at *
  generalize atW ns ls = at0 at *
  have hfl : F.length ≤ N := HFL.out
  have L0 := Lib.hid (World.rowIs_made (w.alloc (.cells #[.slice A ns.length c, .slice A2 ls.length c2] 32)) (.int .i64 0) N 3)
  have H1 := Lib.hid (H0.out.alloc (.cells (madeCells #[.int .i64 0] N) 3))
  go_enter Tryz.func67, Tryz.ntmps67
  go_wp2_with fail
  refine (HF.out _ (HN.out.step H1.out.below) (HL.out.step H1.out.below)).mono ?_
  rintro e w1 ⟨vf, rfl, ⟨us, hf⟩, hb⟩
  have H2 := Lib.hid (H1.out.step hb)
  have L2 := Lib.hid (rowIs_step L0.out hb)
  rw [show (w.alloc (.cells #[.slice A ns.length c, .slice A2 ls.length c2] 32)).heap.size = w.heap.size + 1 from by simp] at L2
  have hbase : ((w.alloc (.cells #[.slice A ns.length c, .slice A2 ls.length c2] 32)).alloc (.cells (madeCells #[.int .i64 0] N) 3)).heap.size = w.heap.size + 1 + 1 := by simp
  rw [hbase] at hf
  obtain ⟨g, c3, rfl⟩ := hf.some_ HPOS.out
  have HF2 := Lib.hid hf
  have HNB := Lib.hid (fun i (hi : i < F.length) k (hk : (atV us i).ownBlock = some k) => (show k ≠ w.heap.size + 1 from by have := ((hf.each i hi).own k hk).1; omega))
  clear hb hf hmk H0 H1 L0 HF hbase
  go_wp2_with fail
  go_loopw [5] (fun i wr => ∃ k : Nat, k ≤ F.length ∧ i = .int .i64 k ∧ wr.rowIs (w.heap.size + 1) 3 N (fun d => .int .i64 (fillF F k 0 d)) ∧ FaceV wr (w.heap.size + 1 + 1) (.slice (some ⟨g, 0, none⟩) F.length c3) us F ∧ Held w wr [(w.heap.size, 0, .slice A ns.length c), (w.heap.size, 1, .slice A2 ls.length c2)]) (fun i _ => F.length - (intOf i).toNat)
  case atStart => exact ⟨0, Nat.zero_le _, rfl, L2.out.congr (fun d _ => by rw [fillF_zero]), HF2.out, H2.out⟩
  case round =>
    clear L2 HF2 H2
    obtain ⟨k, hk, rfl, hl, hfv, hh⟩ := hrel
    have L1 := Lib.hid hl; clear hl
    have F1 := Lib.hid hfv; clear hfv
    have H1 := Lib.hid hh; clear hh
    by_cases hlt : k < F.length
    · have hrl := HRL.out k hlt
      obtain ⟨gu, cu, hu⟩ := (F1.out.each k hlt).some_ hrl.2
      have HU := Lib.hid hu
      have HFM := Lib.hid (fun i (hi : i < (atR F k).length) => HFX.out k i hlt hi)
      have HFS := Lib.hid (fun i q (hi : i < (atR F k).length) (h1 : atZ (atR F k) i = (q : Nat)) (h2 : fIx F (q : Int) = k) d => fillF_store hi h1 h2 d)
      have HFN := Lib.hid (fun d => fillF_next hlt d)
      have p1 : (0 : Int) ≤ k := by omega
      have p2 : (k : Int) < (F.length : Int) := by omega
      clear hu
      obtain ⟨r, hr0⟩ : ∃ r, r = atR F k := ⟨_, rfl⟩
      have HRR := Lib.hid hr0.symm
      rw [← hr0] at hrl HU HFM HFS HFN
      clear hr0
      go_wp2_with fail
      go_loopw [6] (fun i wq => ∃ m : Nat, m ≤ r.length ∧ i = .int .i64 m ∧ wq.rowIs (w.heap.size + 1) 3 N (fun d => .int .i64 (fillF F k m d)) ∧ FaceV wq (w.heap.size + 1 + 1) (.slice (some ⟨g, 0, none⟩) F.length c3) us F ∧ Held w wq [(w.heap.size, 0, .slice A ns.length c), (w.heap.size, 1, .slice A2 ls.length c2)]) (fun i _ => r.length - (intOf i).toNat)
      case atStart => exact ⟨0, Nat.zero_le _, rfl, L1.out, F1.out, H1.out⟩
      case round =>
        clear L1 F1 H1
        obtain ⟨m, hm, rfl, hl, hfv, hh⟩ := hrel
        have L1 := Lib.hid hl; clear hl
        have F1 := Lib.hid hfv; clear hfv
        have H1 := Lib.hid hh; clear hh
        have c0 := (F1.out.cellAt hlt).1
        rw [HU.out] at c0
        by_cases hmr : m < r.length
        · have hru := F1.out.each k hlt
          rw [HU.out, HRR.out] at hru
          obtain ⟨l0, -, -, -, -⟩ := hru.at_ hmr
          obtain ⟨q, hq, hqN, hfi⟩ := HFM.out m hmr
          rw [hq] at l0
          have HST := Lib.hid (HFS.out m q hmr hq hfi)
          clear hq hfi hru
          have e0 := L1.out.cell hqN
          generalize fillF F k m q = fq at e0
          have e1 := L1.out.frozen q
          have q1 : (0 : Int) ≤ m := by omega
          have q2 : (m : Int) < (r.length : Int) := by omega
          have q3 : (0 : Int) ≤ q := by omega
          have q4 : (q : Int) < (N : Int) := by omega
          have F4 := Lib.hid (F1.out.setFarN (j := q) (x := .int .i64 k) L1.out HNB.out)
          have L4 := Lib.hid (fill_store L1.out HST.out)
          have H4 := Lib.hid (H1.out.setB (g := w.heap.size + 1) (j := q) (x := .int .i64 k) (B := w.heap.size + 1) ⟨Nat.lt_succ_self _, Nat.lt_succ_self _, trivial⟩ (Nat.le_refl _) (Nat.le_succ _))
          go_wp2_with fail
          exact ⟨⟨m + 1, by omega, by go_num, L4.out, F4.out, H4.out⟩, by simp [intOf]; omega⟩
        · obtain rfl : m = r.length := by omega
          go_wp2_with fail
          exact ⟨⟨k + 1, by omega, by go_num, L1.out.congr (fun d hd => by rw [HFN.out d]), F1.out, H1.out⟩, by simp [intOf]; omega⟩
    · obtain rfl : k = F.length := by omega
      go_wp2_with fail
      go_ret
      exact ⟨_, rfl, rowIs_ints L1.out (Nat.le_succ _) (by omega) (by rw [HAL.out, HNE.out]) HEND.out, H1.out.below⟩

set_option maxRecDepth 100000 in
theorem specIs9 (ns ls : List Nd) (vn vl : Value) (f : Int) (w : World) (hn : Prs w vn ns) (hl : Prs w vl ls) :
    Calls Tryz.prog 70 #[.agg #[vn, vl], .int .i64 f] w (BoolIs (idxB (wF ns ls).length f) w) := by
  have HF := Lib.hid (fun w h1 h2 => specFacesL ns ls vn vl w h1 h2)
  unfold FacesNew at HF
  have HN := Lib.hid hn
  have HL := Lib.hid hl
  have H0 := Lib.hid (held_pair w vn vl 32)
  obtain ⟨A, c, rfl⟩ := prs_form2 hn
  obtain ⟨A2, c2, rfl⟩ := prs_form2 hl
  clear hn hl
  have HX := Lib.hid (idxB_iff (wF ns ls).length f)
  have h40 := wF_len (ns := ns) (ls := ls)
  generalize wF ns ls = rs at *
  generalize idxB rs.length f = b at *
  by_cases h0 : 0 ≤ f
  · by_cases h1 : f < (rs.length : Int)
    · have HR := Lib.hid (show b = true from HX.out.2 ⟨h0, h1⟩)
      go_enter Tryz.func70, Tryz.ntmps70
      go_wp2_with fail
      refine (HF.out _ (HN.out.step H0.out.below) (HL.out.step H0.out.below)).mono ?_
      rintro e w1 ⟨vf, rfl, hf, hb⟩
      obtain ⟨a, c3, rfl⟩ := faces_form hf
      have H1 := Lib.hid (H0.out.step hb); clear hb hf
      go_wp2_with fail
      go_ret
      exact ⟨ret_bool HR.out.symm, H1.out.below⟩
    · have HR := Lib.hid (show b = false from by rw [Bool.eq_false_iff]; intro e; exact h1 (HX.out.1 e).2)
      go_enter Tryz.func70, Tryz.ntmps70
      go_wp2_with fail
      refine (HF.out _ (HN.out.step H0.out.below) (HL.out.step H0.out.below)).mono ?_
      rintro e w1 ⟨vf, rfl, hf, hb⟩
      obtain ⟨a, c3, rfl⟩ := faces_form hf
      have H1 := Lib.hid (H0.out.step hb); clear hb hf
      go_wp2_with fail
      go_ret
      exact ⟨ret_bool (by rw [HR.out]; exact decide_eq_false (by omega)), H1.out.below⟩
  · have HR := Lib.hid (show b = false from by rw [Bool.eq_false_iff]; intro e; exact h0 (HX.out.1 e).1)
    have h0' : f < 0 := by omega
    go_enter Tryz.func70, Tryz.ntmps70
    go_wp2_with fail
    go_ret
    exact ⟨ret_bool HR.out.symm, H0.out.below⟩

theorem idxB_of {n : Nat} {x : Int} {k : Nat} (h : x = (k : Int)) (hk : k < n) : idxB n x = true := (idxB_iff n x).2 (by omega)

theorem sharedW_none {ns ls : List Nd} {f h : Int} (hno : ¬ (idxB (wF ns ls).length f = true ∧ idxB (wF ns ls).length h = true)) : sharedW ns ls f h = [] := by
  unfold sharedW gA gL
  by_cases hh : wholeB ns ls = true
  · rw [if_pos hh, if_pos hh]
    have hwf : wF ns ls = facesL ns ls := if_pos hh
    rw [hwf] at hno
    refine fltN_none _ fun k hk => ?_
    rw [Bool.eq_false_iff]
    intro hp
    obtain ⟨_, l1⟩ := atW_face (whole_win hh).1 (show 2 * k < 2 * ls.length by omega)
    obtain ⟨_, l2⟩ := atW_face (whole_win hh).1 (show 2 * k + 1 < 2 * ls.length by omega)
    have e1 := atW_at (ns := ns) (ls := ls) (show 2 * k < 2 * ls.length by omega)
    have e2 := atW_at (ns := ns) (ls := ls) (show 2 * k + 1 < 2 * ls.length by omega)
    unfold sharedP at hp
    simp only [Bool.or_eq_true, Bool.and_eq_true, beq_iff_eq] at hp
    rcases hp with ⟨h1, h2⟩ | ⟨h1, h2⟩
    · exact hno ⟨idxB_of (by rw [← h1]; exact e1) l1, idxB_of (by rw [← h2]; exact e2) l2⟩
    · exact hno ⟨idxB_of (by rw [← h2]; exact e2) l2, idxB_of (by rw [← h1]; exact e1) l1⟩
  · rw [if_neg hh, if_neg hh]
    rfl

theorem wF_is {ns ls : List Nd} {f : Int} (h : idxB (wF ns ls).length f = true) : wholeB ns ls = true := by
  obtain ⟨k, _, hk⟩ := idx_nat h
  exact (wF_row hk).1
set_option maxRecDepth 100000 in
set_option maxHeartbeats 4000000 in
theorem specSharedLeads (ns ls : List Nd) (vn vl : Value) (f h : Int) (w : World) (hn : Prs w vn ns) (hl : Prs w vl ls) :
    Calls Tryz.prog 39 #[.agg #[vn, vl], .int .i64 f, .int .i64 h] w (IntsNew (sharedW ns ls f h) w) := by
  have HN := Lib.hid hn
  have HL := Lib.hid hl
  have H0 := Lib.hid (held_pair w vn vl 32)
  have HI1 := Lib.hid (fun w h1 h2 => specIs9 ns ls vn vl f w h1 h2)
  have HI2 := Lib.hid (fun w h1 h2 => specIs9 ns ls vn vl h w h1 h2)
  unfold BoolIs at HI1 HI2
  by_cases hf : idxB (wF ns ls).length f = true
  · by_cases hg : idxB (wF ns ls).length h = true
    · have hh := wF_is hf
      obtain ⟨hw, hl0, h20, h12⟩ := whole_win hh
      have HSI := Lib.hid (fun w h1 h2 => specSides9 ns ls vn vl w h1 h2 hh)
      unfold IntsNew at HSI
      rw [hf] at HI1
      rw [hg] at HI2
      have HAL := Lib.hid (atW_len ns ls)
      have HR := Lib.hid (show sharedW ns ls f h = fltN (sharedP (atW ns ls) f h) ls.length from by unfold sharedW gA gL; rw [if_pos hh, if_pos hh])
      have HP := Lib.hid (fun k => show sharedP (atW ns ls) f h k = ((atZ (atW ns ls) (2 * k) == f && atZ (atW ns ls) (2 * k + 1) == h) || (atZ (atW ns ls) (2 * k) == h && atZ (atW ns ls) (2 * k + 1) == f)) from rfl)
      have HU := Lib.hid (fltN_succ (sharedP (atW ns ls) f h))
      have HLN := Lib.hid (fltN_len (sharedP (atW ns ls) f h))
      have HZ := Lib.hid (show fltN (sharedP (atW ns ls) f h) 0 = [] from rfl)
      obtain ⟨i0, hi, hz0, hz1, hz2⟩ := info_parts infoInt
      have HI := Lib.hid (And.intro hi (And.intro hz0 (And.intro hz1 hz2))); clear hi hz0 hz1 hz2
      clear hf hg hh hw
      obtain ⟨A, c, rfl⟩ := prs_form2 hn
      obtain ⟨A2, c2, rfl⟩ := prs_form2 hl
      clear hn hl
      have H1 := Lib.hid (H0.out.alloc (.cells #[] 3))
      have HO1 := Lib.hid (Ints.made (w.alloc (.cells #[.slice A ns.length c, .slice A2 ls.length c2] 32)) (w.heap.size + 1) (w.heap.size + 1) (by simp) (Nat.le_refl _))
      clear H0
      generalize sharedW ns ls f h = res at *
      generalize fltN (sharedP (atW ns ls) f h) = X at *
      generalize sharedP (atW ns ls) f h = p at *
      generalize atW ns ls = ds at *
      go_enter Tryz.func39, Tryz.ntmps39
      go_wp2_with fail
      refine (HI1.out _ (HN.out.step H1.out.below) (HL.out.step H1.out.below)).mono ?_
      rintro e w1 ⟨rfl, hb⟩
      have H2 := Lib.hid (H1.out.step hb)
      have HO2 := Lib.hid (HO1.out.step hb)
      clear hb H1 HO1
      obtain ⟨x0, x1, _⟩ := H2.out.1
      go_wp2_with fail
      refine (HI2.out _ (HN.out.step H2.out.below) (HL.out.step H2.out.below)).mono ?_
      rintro e w2 ⟨rfl, hb⟩
      have H3 := Lib.hid (H2.out.step hb)
      have HO3 := Lib.hid (HO2.out.step hb)
      clear hb H2 HO2 x0 x1
      obtain ⟨x0, x1, _⟩ := H3.out.1
      go_wp2_with fail
      refine (HSI.out _ (HN.out.step H3.out.below) (HL.out.step H3.out.below)).mono ?_
      rintro e w3 ⟨vd, rfl, hm, hb⟩
      have hgl3 := HO3.out.own
      have H1 := Lib.hid (H3.out.step hb)
      have HOWN := Lib.hid (HO3.out.step hb)
      obtain ⟨gl, cl, rfl⟩ := hm.some_ (by rw [HAL.out]; omega)
      have hgl := (hm.own gl rfl).1
      have hw3 := H3.out.2.1.1
      have hw2 := (HO3.out.own (w.heap.size + 1) rfl).2
      have HLB := Lib.hid hm
      clear hb hm H3 HO3 x0 x1 hgl3
      obtain ⟨x0, x1, _⟩ := H1.out.1
      have hla := HAL.out
      obtain ⟨N, hN⟩ : ∃ N, N = ds.length := ⟨_, rfl⟩
      rw [← hN] at HLB hla ⊢
      have HNN := Lib.hid hN; clear hN
      clear hla
      have HN0 : ∀ k, (Value.slice (some ⟨w.heap.size + 1, 0, none⟩) 0 0).ownBlock = some k → k ≠ gl := by
        intro k hk
        have hk' : w.heap.size + 1 = k := by simpa [Value.ownBlock] using hk
        omega
      go_wp2_with fail
      go_loopw [7, 9] (fun v i wr => ∃ m : Nat, m ≤ ls.length ∧ i = .int .i64 m ∧ Ints wr (w.heap.size + 1) v (X m) ∧ Ints wr (w.heap.size + 1) (.slice (some ⟨gl, 0, none⟩) N cl) ds ∧ (∀ k, v.ownBlock = some k → k ≠ gl) ∧ Held w wr [(w.heap.size, 0, .slice A ns.length c), (w.heap.size, 1, .slice A2 ls.length c2)]) (fun _ i _ => ls.length - (intOf i).toNat)
      case atStart => exact ⟨0, Nat.zero_le _, rfl, by rw [HZ.out]; exact HOWN.out, HLB.out.mono (by omega), HN0, H1.out⟩
      case round =>
        clear HOWN HLB H1 x0 x1 HN0 hw2 hw3 hgl
        obtain ⟨m, hm, rfl, hown, hlab, hne, hh⟩ := hrel
        have HOWN := Lib.hid hown; clear hown
        have HLB := Lib.hid hlab; clear hlab
        have HNE := Lib.hid hne; clear hne
        have H1 := Lib.hid hh; clear hh
        obtain ⟨x0, x1, _⟩ := H1.out.1
        by_cases hlt : m < ls.length
        · obtain ⟨c0, -, hgl0, -, -⟩ := HLB.out.at_ (j := 2 * m) (by have := HAL.out; omega)
          obtain ⟨c1, -, -, -, -⟩ := HLB.out.at_ (j := 2 * m + 1) (by have := HAL.out; omega)
          have HPM := Lib.hid (HP.out m)
          have HS0 := Lib.hid (HU.out m)
          have hfl := HLN.out m
          obtain ⟨e0, he0⟩ : ∃ e0, e0 = 2 * m := ⟨_, rfl⟩
          obtain ⟨e1, he1⟩ : ∃ e1, e1 = e0 + 1 := ⟨_, rfl⟩
          rw [← he0] at c0 c1 HPM
          rw [← he1] at c1 HPM
          have hN2 : e1 < N := by have := HAL.out; have := HNN.out; omega
          generalize atZ ds e0 = za at *
          generalize atZ ds e1 = zb at *
          have p1 : (0 : Int) ≤ e0 := by omega
          have p2 : (e0 : Int) < (N : Int) := by omega
          have p3 : (0 : Int) ≤ e1 := by omega
          have p4 : (e1 : Int) < (N : Int) := by omega
          have p5 : (0 : Int) ≤ m := by omega
          have p6 : (m : Int) < (ls.length : Int) := by omega
          have r1 : 2 * (m : Int) = (e0 : Int) := by omega
          have r2 : (e0 : Int) + 1 = (e1 : Int) := by omega
          have r3 : IntKind.i64.wrap (2 * (m : Int)) = (e0 : Int) := by rw [IntWalk.i64_in _ (by omega)]; omega
          have r4 : IntKind.i64.wrap ((e0 : Int) + 1) = (e1 : Int) := by rw [IntWalk.i64_in _ (by omega)]; omega
          clear he0 he1
          obtain ⟨b1, hb1⟩ : ∃ b, (za == f) = b := ⟨_, rfl⟩
          obtain ⟨b2, hb2⟩ : ∃ b, (zb == h) = b := ⟨_, rfl⟩
          obtain ⟨b3, hb3⟩ : ∃ b, (za == h) = b := ⟨_, rfl⟩
          obtain ⟨b4, hb4⟩ : ∃ b, (zb == f) = b := ⟨_, rfl⟩
          rw [hb1, hb2, hb3, hb4] at HPM
          have HS := Lib.hid (show X (m + 1) = if ((b1 && b2) || (b3 && b4)) = true then X m ++ [(m : Int)] else X m from by rw [HS0.out, HPM.out])
          clear HS0 HPM
          cases b1
          · cases b3
            · have HS := Lib.hid (show X (m + 1) = X m from by rw [HS.out]; simp)
              go_wp2_with fail
              exact ⟨⟨m + 1, by omega, by go_num, by rw [HS.out]; exact HOWN.out, HLB.out, HNE.out, H1.out⟩, by simp [intOf]; omega⟩
            · cases b4
              · have HS := Lib.hid (show X (m + 1) = X m from by rw [HS.out]; simp)
                go_wp2_with fail
                exact ⟨⟨m + 1, by omega, by go_num, by rw [HS.out]; exact HOWN.out, HLB.out, HNE.out, H1.out⟩, by simp [intOf]; omega⟩
              · have HS := Lib.hid (show X (m + 1) = X m ++ [(m : Int)] from by rw [HS.out]; simp)
                obtain ⟨hi, hz0, hz1', hz2'⟩ := HI.out
                have hsz := H1.out.2.1.1
                go_wp2_with (at_builtin; refine wpList_append_int rfl _ _ 41 rfl Tryz.underlying41 hi hz0 hz1' hz2' (World.ownsRow.alloc HOWN.out _) rfl rfl (cell_new0 _ _ _) (by omega) (by simp; omega) ?_)
                intro v' w5 hown hgrow hfresh
                have H4 := Lib.hid (H1.out.stepB (B := w.heap.size + 1) ⟨Nat.lt_succ_self _, Nat.lt_succ_self _, trivial⟩ (grown_below HOWN.out hsz hgrow) (Nat.le_succ _))
                have HL5 := Lib.hid ((Ints.step HLB.out ((Below.refl _ _).alloc (Nat.le_refl _) _)).grown hgrow (fun k hk e => by
                  have hk' : gl = k := by simpa [Value.ownBlock] using hk
                  exact HNE.out k e hk'.symm))
                have HN5 := Lib.hid (show ∀ k, v'.ownBlock = some k → k ≠ gl from fun k hk => by
                  rcases hfresh with e | e
                  · exact HNE.out k (by rw [← e]; exact hk)
                  · rw [e] at hk
                    have hk2 : wr.heap.size + 1 = k := by simpa using hk
                    omega)
                have HO5 := Lib.hid (Ints.more (xs := X m) (x := (m : Int)) (by simpa using hown))
                clear hown hgrow hfresh
                go_wp2_with fail
                exact ⟨⟨m + 1, by omega, by go_num, by rw [HS.out]; exact HO5.out, HL5.out, HN5.out, H4.out⟩, by simp [intOf]; omega⟩
          · cases b2
            · cases b3
              · have HS := Lib.hid (show X (m + 1) = X m from by rw [HS.out]; simp)
                go_wp2_with fail
                exact ⟨⟨m + 1, by omega, by go_num, by rw [HS.out]; exact HOWN.out, HLB.out, HNE.out, H1.out⟩, by simp [intOf]; omega⟩
              · cases b4
                · have HS := Lib.hid (show X (m + 1) = X m from by rw [HS.out]; simp)
                  go_wp2_with fail
                  exact ⟨⟨m + 1, by omega, by go_num, by rw [HS.out]; exact HOWN.out, HLB.out, HNE.out, H1.out⟩, by simp [intOf]; omega⟩
                · have HS := Lib.hid (show X (m + 1) = X m ++ [(m : Int)] from by rw [HS.out]; simp)
                  obtain ⟨hi, hz0, hz1', hz2'⟩ := HI.out
                  have hsz := H1.out.2.1.1
                  go_wp2_with (at_builtin; refine wpList_append_int rfl _ _ 41 rfl Tryz.underlying41 hi hz0 hz1' hz2' (World.ownsRow.alloc HOWN.out _) rfl rfl (cell_new0 _ _ _) (by omega) (by simp; omega) ?_)
                  intro v' w5 hown hgrow hfresh
                  have H4 := Lib.hid (H1.out.stepB (B := w.heap.size + 1) ⟨Nat.lt_succ_self _, Nat.lt_succ_self _, trivial⟩ (grown_below HOWN.out hsz hgrow) (Nat.le_succ _))
                  have HL5 := Lib.hid ((Ints.step HLB.out ((Below.refl _ _).alloc (Nat.le_refl _) _)).grown hgrow (fun k hk e => by
                    have hk' : gl = k := by simpa [Value.ownBlock] using hk
                    exact HNE.out k e hk'.symm))
                  have HN5 := Lib.hid (show ∀ k, v'.ownBlock = some k → k ≠ gl from fun k hk => by
                    rcases hfresh with e | e
                    · exact HNE.out k (by rw [← e]; exact hk)
                    · rw [e] at hk
                      have hk2 : wr.heap.size + 1 = k := by simpa using hk
                      omega)
                  have HO5 := Lib.hid (Ints.more (xs := X m) (x := (m : Int)) (by simpa using hown))
                  clear hown hgrow hfresh
                  go_wp2_with fail
                  exact ⟨⟨m + 1, by omega, by go_num, by rw [HS.out]; exact HO5.out, HL5.out, HN5.out, H4.out⟩, by simp [intOf]; omega⟩
            · have HS := Lib.hid (show X (m + 1) = X m ++ [(m : Int)] from by rw [HS.out]; simp)
              obtain ⟨hi, hz0, hz1', hz2'⟩ := HI.out
              have hsz := H1.out.2.1.1
              go_wp2_with (at_builtin; refine wpList_append_int rfl _ _ 41 rfl Tryz.underlying41 hi hz0 hz1' hz2' (World.ownsRow.alloc HOWN.out _) rfl rfl (cell_new0 _ _ _) (by omega) (by simp; omega) ?_)
              intro v' w5 hown hgrow hfresh
              have H4 := Lib.hid (H1.out.stepB (B := w.heap.size + 1) ⟨Nat.lt_succ_self _, Nat.lt_succ_self _, trivial⟩ (grown_below HOWN.out hsz hgrow) (Nat.le_succ _))
              have HL5 := Lib.hid ((Ints.step HLB.out ((Below.refl _ _).alloc (Nat.le_refl _) _)).grown hgrow (fun k hk e => by
                have hk' : gl = k := by simpa [Value.ownBlock] using hk
                exact HNE.out k e hk'.symm))
              have HN5 := Lib.hid (show ∀ k, v'.ownBlock = some k → k ≠ gl from fun k hk => by
                rcases hfresh with e | e
                · exact HNE.out k (by rw [← e]; exact hk)
                · rw [e] at hk
                  have hk2 : wr.heap.size + 1 = k := by simpa using hk
                  omega)
              have HO5 := Lib.hid (Ints.more (xs := X m) (x := (m : Int)) (by simpa using hown))
              clear hown hgrow hfresh
              go_wp2_with fail
              exact ⟨⟨m + 1, by omega, by go_num, by rw [HS.out]; exact HO5.out, HL5.out, HN5.out, H4.out⟩, by simp [intOf]; omega⟩
        · obtain rfl : m = ls.length := by omega
          go_wp2_with fail
          go_ret
          exact ⟨_, rfl, by rw [HR.out]; exact HOWN.out.mono (by omega), H1.out.below⟩
    · have HR := Lib.hid (sharedW_none (ns := ns) (ls := ls) (f := f) (h := h) (fun hx => hg hx.2))
      rw [hf] at HI1
      rw [show idxB (wF ns ls).length h = false by simpa using hg] at HI2
      clear hf hg
      obtain ⟨A, c, rfl⟩ := prs_form2 hn
      obtain ⟨A2, c2, rfl⟩ := prs_form2 hl
      clear hn hl
      have H1 := Lib.hid (H0.out.alloc (.cells #[] 3))
      have HO1 := Lib.hid (Ints.made (w.alloc (.cells #[.slice A ns.length c, .slice A2 ls.length c2] 32)) (w.heap.size + 1) (w.heap.size + 1) (by simp) (Nat.le_refl _))
      clear H0
      generalize sharedW ns ls f h = res at *
      go_enter Tryz.func39, Tryz.ntmps39
      go_wp2_with fail
      refine (HI1.out _ (HN.out.step H1.out.below) (HL.out.step H1.out.below)).mono ?_
      rintro e w1 ⟨rfl, hb⟩
      have H2 := Lib.hid (H1.out.step hb)
      have HO2 := Lib.hid (HO1.out.step hb)
      clear hb H1 HO1
      obtain ⟨x0, x1, _⟩ := H2.out.1
      go_wp2_with fail
      refine (HI2.out _ (HN.out.step H2.out.below) (HL.out.step H2.out.below)).mono ?_
      rintro e w2 ⟨rfl, hb⟩
      have H3 := Lib.hid (H2.out.step hb)
      have HO3 := Lib.hid (HO2.out.step hb)
      clear hb H2 HO2 x0 x1
      obtain ⟨x0, x1, _⟩ := H3.out.1
      go_wp2_with fail
      go_ret
      exact ⟨_, rfl, by rw [HR.out]; exact HO3.out.mono (Nat.le_succ _), H3.out.below⟩
  · have HR := Lib.hid (sharedW_none (ns := ns) (ls := ls) (f := f) (h := h) (fun hx => hf hx.1))
    rw [show idxB (wF ns ls).length f = false by simpa using hf] at HI1
    clear hf
    obtain ⟨A, c, rfl⟩ := prs_form2 hn
    obtain ⟨A2, c2, rfl⟩ := prs_form2 hl
    clear hn hl
    have H1 := Lib.hid (H0.out.alloc (.cells #[] 3))
    have HO1 := Lib.hid (Ints.made (w.alloc (.cells #[.slice A ns.length c, .slice A2 ls.length c2] 32)) (w.heap.size + 1) (w.heap.size + 1) (by simp) (Nat.le_refl _))
    clear H0
    generalize sharedW ns ls f h = res at *
    go_enter Tryz.func39, Tryz.ntmps39
    go_wp2_with fail
    refine (HI1.out _ (HN.out.step H1.out.below) (HL.out.step H1.out.below)).mono ?_
    rintro e w1 ⟨rfl, hb⟩
    have H2 := Lib.hid (H1.out.step hb)
    have HO2 := Lib.hid (HO1.out.step hb)
    clear hb H1 HO1
    obtain ⟨x0, x1, _⟩ := H2.out.1
    go_wp2_with fail
    go_ret
    exact ⟨_, rfl, by rw [HR.out]; exact HO2.out.mono (Nat.le_succ _), H2.out.below⟩
end Go.Proofs.YtnonebfdognlmaaGreat
