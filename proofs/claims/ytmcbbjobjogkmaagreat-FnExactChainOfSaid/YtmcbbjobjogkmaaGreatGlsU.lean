/-
  The faces on both sides of a lead, of the model: l09Sides, l09Is, SharedLeads, AreBeside, BesideOf.
-/
import Derived.Test.YtmcbbjobjogkmaaGreatGlsT
import Derived.Test.YtmcbbjobjogkmaaGreatGlsG
namespace Go.Proofs.YtmcbbjobjogkmaaGreat
open Go.RowKit
set_option linter.unusedVariables false
set_option linter.unusedSimpArgs false

theorem FaceV.cellAt {w : World} {B g c n : Nat} {us : List Value} {rs : List (List Int)} (h : FaceV w B (.slice (some ⟨g, 0, none⟩) n c) us rs) {j : Nat} (hj : j < rs.length) : w.cell? ⟨g, j, none⟩ = some (atV us j) ∧ g < w.heap.size := by
  obtain ⟨a, c', e, _, hc⟩ := h.form
  obtain ⟨g', e1, _, hg, hcell⟩ := hc j hj
  injection e with e2 _ _
  rw [e1] at e2
  injection e2 with e2
  injection e2 with e2
  subst e2
  exact ⟨hcell, hg⟩

theorem FaceV.some_ {w : World} {B : Nat} {v : Value} {us : List Value} {rs : List (List Int)} (h : FaceV w B v us rs) (h0 : 0 < rs.length) : ∃ g c, v = .slice (some ⟨g, 0, none⟩) rs.length c := by
  obtain ⟨a, c, rfl, _, hc⟩ := h.form
  obtain ⟨g, rfl, _⟩ := hc 0 h0
  exact ⟨g, c, rfl⟩

set_option maxRecDepth 100000 in
set_option maxHeartbeats 4000000 in
theorem specSides9 (ns ls : List Nd) (vn vl : Value) (w : World) (hn : Prs w vn ns) (hl : Prs w vl ls) (hh : wholeB ns ls = true) :
    Calls Tryz.prog 65 #[.agg #[vn, vl]] w (IntsNew (atW ns ls) w) := by
  obtain ⟨hw, hl0, h20, h12⟩ := whole_win hh
  have HF := Lib.hid (fun w h1 h2 => specFacesL ns ls vn vl w h1 h2)
  unfold FacesNew at HF
  have HN := Lib.hid hn
  have HL := Lib.hid hl
  have H0 := Lib.hid (held_pair w vn vl 32)
  obtain ⟨A, c, rfl⟩ := prs_form2 hn
  obtain ⟨A2, c2, rfl⟩ := prs_form2 hl
  clear hn hl
  have HPOS := Lib.hid (starts_pos hw hl0)
  have HFX := Lib.hid (fun k i (hk : k < (facesN ns ls (2 * ls.length)).length) (hi : i < (atR (facesN ns ls (2 * ls.length)) k).length) => fix_walk hw hk hi)
  have HRL := Lib.hid (fun k (hk : k < (facesN ns ls (2 * ls.length)).length) => row_len (ns := ns) (ls := ls) (k := k) (by rw [wF_whole hh]; exact hk))
  rw [wF_whole hh] at HRL HF
  have HEND := Lib.hid (fun d (h : d < 2 * ls.length) => fillF_end hw h)
  have HAL := Lib.hid (atW_len ns ls)
  have HFL := Lib.hid (facesN_le ns ls (2 * ls.length))
  unfold facesL at HFX HEND
  clear hh hw
  obtain ⟨N, hN⟩ : ∃ N, N = 2 * ls.length := ⟨_, rfl⟩
  have hNI : (2 * (ls.length : Int)) = (N : Int) := by omega
  have infoI : (Tryz.prog.info? 3).map (fun i => (i.zero, i.size, i.bytes)) = some (some (.int .i64 0), 1, 8) := infoInt
  have hmk : ∀ W : World, (Instr.makeSlice 26 (.int .i64 (2 * (ls.length : Int))) (.int .i64 (2 * (ls.length : Int)))).run Tryz.prog W = .ok (.slice (some ⟨W.heap.size, 0, none⟩) N N) (W.alloc (.cells (madeCells #[.int .i64 0] N) 3)) := by
    rw [hNI]
    exact run_make_row' 26 3 (.int .i64 0) 8 Tryz.underlying26 infoI rfl .i64 .i64 N (by omega) (by omega)
  clear infoI hNI
  rw [← hN] at HPOS HFX HRL HEND HAL HFL HF
  have hN40 : N ≤ 40 := by omega
  have HNE := Lib.hid hN; clear hN
  generalize facesN ns ls N = F at *
  generalize atW ns ls = at0 at *
  have hfl : F.length ≤ N := HFL.out
  have L0 := Lib.hid (World.rowIs_made (w.alloc (.cells #[.slice A ns.length c, .slice A2 ls.length c2] 32)) (.int .i64 0) N 3)
  have H1 := Lib.hid (H0.out.alloc (.cells (madeCells #[.int .i64 0] N) 3))
  go_enter Tryz.func65, Tryz.ntmps65
  go_wp2_with fail
  refine (HF.out _ (HN.out.step H1.out.below) (HL.out.step H1.out.below)).mono ?_
  rintro e w1 ⟨vf, rfl, ⟨us, hf⟩, hb⟩
  have H2 := Lib.hid (H1.out.step hb)
  have L2 := Lib.hid (rowIs_step L0.out hb)
  rw [show (w.alloc (.cells #[.slice A ns.length c, .slice A2 ls.length c2] 32)).heap.size = w.heap.size + 1 from by simp] at L2
  have hbase : ((w.alloc (.cells #[.slice A ns.length c, .slice A2 ls.length c2] 32)).alloc (.cells (madeCells #[.int .i64 0] N) 3)).heap.size = w.heap.size + 1 + 1 := by simp
  rw [hbase] at hf
  obtain ⟨g, c3, rfl⟩ := hf.some_ HPOS.out
  have HF2 := Lib.hid hf
  have HNB := Lib.hid (fun i (hi : i < F.length) k (hk : (atV us i).ownBlock = some k) => (show k ≠ w.heap.size + 1 from by have := ((hf.each i hi).own k hk).1; omega))
  clear hb hf hmk H0 H1 L0 HF hbase
  go_wp2_with fail
  go_loopw [5] (fun i wr => ∃ k : Nat, k ≤ F.length ∧ i = .int .i64 k ∧ wr.rowIs (w.heap.size + 1) 3 N (fun d => .int .i64 (fillF F k 0 d)) ∧ FaceV wr (w.heap.size + 1 + 1) (.slice (some ⟨g, 0, none⟩) F.length c3) us F ∧ Held w wr [(w.heap.size, 0, .slice A ns.length c), (w.heap.size, 1, .slice A2 ls.length c2)]) (fun i _ => F.length - (intOf i).toNat)
  case atStart => exact ⟨0, Nat.zero_le _, rfl, L2.out.congr (fun d _ => by rw [fillF_zero]), HF2.out, H2.out⟩
  case round =>
    clear L2 HF2 H2
    obtain ⟨k, hk, rfl, hl, hfv, hh⟩ := hrel
    have L1 := Lib.hid hl; clear hl
    have F1 := Lib.hid hfv; clear hfv
    have H1 := Lib.hid hh; clear hh
    by_cases hlt : k < F.length
    · have hrl := HRL.out k hlt
      obtain ⟨gu, cu, hu⟩ := (F1.out.each k hlt).some_ hrl.2
      have HU := Lib.hid hu
      have HFM := Lib.hid (fun i (hi : i < (atR F k).length) => HFX.out k i hlt hi)
      have HFS := Lib.hid (fun i q (hi : i < (atR F k).length) (h1 : atZ (atR F k) i = (q : Nat)) (h2 : fIx F (q : Int) = k) d => fillF_store hi h1 h2 d)
      have HFN := Lib.hid (fun d => fillF_next hlt d)
      have p1 : (0 : Int) ≤ k := by omega
      have p2 : (k : Int) < (F.length : Int) := by omega
      clear hu
      obtain ⟨r, hr0⟩ : ∃ r, r = atR F k := ⟨_, rfl⟩
      have HRR := Lib.hid hr0.symm
      rw [← hr0] at hrl HU HFM HFS HFN
      clear hr0
      go_wp2_with fail
      go_loopw [6] (fun i wq => ∃ m : Nat, m ≤ r.length ∧ i = .int .i64 m ∧ wq.rowIs (w.heap.size + 1) 3 N (fun d => .int .i64 (fillF F k m d)) ∧ FaceV wq (w.heap.size + 1 + 1) (.slice (some ⟨g, 0, none⟩) F.length c3) us F ∧ Held w wq [(w.heap.size, 0, .slice A ns.length c), (w.heap.size, 1, .slice A2 ls.length c2)]) (fun i _ => r.length - (intOf i).toNat)
      case atStart => exact ⟨0, Nat.zero_le _, rfl, L1.out, F1.out, H1.out⟩
      case round =>
        clear L1 F1 H1
        obtain ⟨m, hm, rfl, hl, hfv, hh⟩ := hrel
        have L1 := Lib.hid hl; clear hl
        have F1 := Lib.hid hfv; clear hfv
        have H1 := Lib.hid hh; clear hh
        have c0 := (F1.out.cellAt hlt).1
        rw [HU.out] at c0
        by_cases hmr : m < r.length
        · have hru := F1.out.each k hlt
          rw [HU.out, HRR.out] at hru
          obtain ⟨l0, -, -, -, -⟩ := hru.at_ hmr
          obtain ⟨q, hq, hqN, hfi⟩ := HFM.out m hmr
          rw [hq] at l0
          have HST := Lib.hid (HFS.out m q hmr hq hfi)
          clear hq hfi hru
          have e0 := L1.out.cell hqN
          generalize fillF F k m q = fq at e0
          have e1 := L1.out.frozen q
          have q1 : (0 : Int) ≤ m := by omega
          have q2 : (m : Int) < (r.length : Int) := by omega
          have q3 : (0 : Int) ≤ q := by omega
          have q4 : (q : Int) < (N : Int) := by omega
          have F4 := Lib.hid (F1.out.setFarN (j := q) (x := .int .i64 k) L1.out HNB.out)
          have L4 := Lib.hid (fill_store L1.out HST.out)
          have H4 := Lib.hid (H1.out.setB (g := w.heap.size + 1) (j := q) (x := .int .i64 k) (B := w.heap.size + 1) ⟨Nat.lt_succ_self _, Nat.lt_succ_self _, trivial⟩ (Nat.le_refl _) (Nat.le_succ _))
          go_wp2_with fail
          exact ⟨⟨m + 1, by omega, by go_num, L4.out, F4.out, H4.out⟩, by simp [intOf]; omega⟩
        · obtain rfl : m = r.length := by omega
          go_wp2_with fail
          exact ⟨⟨k + 1, by omega, by go_num, L1.out.congr (fun d hd => by rw [HFN.out d]), F1.out, H1.out⟩, by simp [intOf]; omega⟩
    · obtain rfl : k = F.length := by omega
      go_wp2_with fail
      go_ret
      exact ⟨_, rfl, rowIs_ints L1.out (Nat.le_succ _) (by omega) (by rw [HAL.out, HNE.out]) HEND.out, H1.out.below⟩

theorem idxB_of {n : Nat} {x : Int} {k : Nat} (h : x = (k : Int)) (hk : k < n) : idxB n x = true := (idxB_iff n x).2 (by omega)

theorem sharedW_none {ns ls : List Nd} {f h : Int} (hno : ¬ (idxB (wF ns ls).length f = true ∧ idxB (wF ns ls).length h = true)) : sharedW ns ls f h = [] := by
  unfold sharedW gA gL
  by_cases hh : wholeB ns ls = true
  · rw [if_pos hh, if_pos hh]
    have hwf : wF ns ls = facesL ns ls := if_pos hh
    rw [hwf] at hno
    refine fltN_none _ fun k hk => ?_
    rw [Bool.eq_false_iff]
    intro hp
    obtain ⟨_, l1⟩ := atW_face (whole_win hh).1 (show 2 * k < 2 * ls.length by omega)
    obtain ⟨_, l2⟩ := atW_face (whole_win hh).1 (show 2 * k + 1 < 2 * ls.length by omega)
    have e1 := atW_at (ns := ns) (ls := ls) (show 2 * k < 2 * ls.length by omega)
    have e2 := atW_at (ns := ns) (ls := ls) (show 2 * k + 1 < 2 * ls.length by omega)
    unfold sharedP at hp
    simp only [Bool.or_eq_true, Bool.and_eq_true, beq_iff_eq] at hp
    rcases hp with ⟨h1, h2⟩ | ⟨h1, h2⟩
    · exact hno ⟨idxB_of (by rw [← h1]; exact e1) l1, idxB_of (by rw [← h2]; exact e2) l2⟩
    · exact hno ⟨idxB_of (by rw [← h2]; exact e2) l2, idxB_of (by rw [← h1]; exact e1) l1⟩
  · rw [if_neg hh, if_neg hh]
    rfl

theorem wF_is {ns ls : List Nd} {f : Int} (h : idxB (wF ns ls).length f = true) : wholeB ns ls = true := by
  obtain ⟨k, _, hk⟩ := idx_nat h
  exact (wF_row hk).1

end Go.Proofs.YtmcbbjobjogkmaaGreat
