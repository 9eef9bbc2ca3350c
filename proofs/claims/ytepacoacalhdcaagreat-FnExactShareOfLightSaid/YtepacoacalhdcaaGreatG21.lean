/-
  Several texts in one: a claim has at most 60 files.
-/
import Derived.Test.YtepacoacalhdcaaGreatGlsT
import Derived.Test.YtepacoacalhdcaaGreatG20
import Derived.Test.YtepacoacalhdcaaGreatG3
import Derived.Test.YtepacoacalhdcaaGreatG4

namespace Go.Proofs.YtepacoacalhdcaaGreat
open Go.RowKit
set_option linter.unusedVariables false
set_option linter.unusedSimpArgs false

theorem FaceV.cellAt {w : World} {B g c n : Nat} {us : List Value} {rs : List (List Int)} (h : FaceV w B (.slice (some ⟨g, 0, none⟩) n c) us rs) {j : Nat} (hj : j < rs.length) : w.cell? ⟨g, j, none⟩ = some (atV us j) ∧ g < w.heap.size := by
  obtain ⟨a, c', e, _, hc⟩ := h.form
  obtain ⟨g', e1, _, hg, hcell⟩ := hc j hj
  injection e with e2 _ _
  rw [e1] at e2
  injection e2 with e2
  injection e2 with e2
  subst e2
  exact ⟨hcell, hg⟩

theorem FaceV.some_ {w : World} {B : Nat} {v : Value} {us : List Value} {rs : List (List Int)} (h : FaceV w B v us rs) (h0 : 0 < rs.length) : ∃ g c, v = .slice (some ⟨g, 0, none⟩) rs.length c := by
  obtain ⟨a, c, rfl, _, hc⟩ := h.form
  obtain ⟨g, rfl, _⟩ := hc 0 h0
  exact ⟨g, c, rfl⟩

set_option maxRecDepth 100000 in
set_option maxHeartbeats 4000000 in
theorem specSides9 (ns ls : List Nd) (vn vl : Value) (w : World) (hn : Prs w vn ns) (hl : Prs w vl ls) (hh : wholeB ns ls = true) :
    Calls Tryz.prog 122 #[.agg #[vn, vl]] w (IntsNew (atW ns ls) w) := by
  obtain ⟨hw, hl0, h20, h12⟩ := whole_win hh
  have HF := Lib.hid (fun w h1 h2 => specFacesL ns ls vn vl w h1 h2)
  unfold FacesNew at HF
  have HN := Lib.hid hn
  have HL := Lib.hid hl
  have H0 := Lib.hid (held_pair w vn vl 32)
  obtain ⟨A, c, rfl⟩ := prs_form2 hn
  obtain ⟨A2, c2, rfl⟩ := prs_form2 hl
  clear hn hl
  have HPOS := Lib.hid (starts_pos hw hl0)
  have HFX := Lib.hid (fun k i (hk : k < (facesN ns ls (2 * ls.length)).length) (hi : i < (atR (facesN ns ls (2 * ls.length)) k).length) => fix_walk hw hk hi)
  have HRL := Lib.hid (fun k (hk : k < (facesN ns ls (2 * ls.length)).length) => row_len (ns := ns) (ls := ls) (k := k) (by rw [wF_whole hh]; exact hk))
  rw [wF_whole hh] at HRL HF
  have HEND := Lib.hid (fun d (h : d < 2 * ls.length) => fillF_end hw h)
  have HAL := Lib.hid (atW_len ns ls)
  have HFL := Lib.hid (facesN_le ns ls (2 * ls.length))
  unfold facesL at HFX HEND
  clear hh hw
  obtain ⟨N, hN⟩ : ∃ N, N = 2 * ls.length := ⟨_, rfl⟩
  have hNI : (2 * (ls.length : Int)) = (N : Int) := by omega
  have infoI : (Tryz.prog.info? 3).map (fun i => (i.zero, i.size, i.bytes)) = some (some (.int .i64 0), 1, 8) := infoInt
  have hmk : ∀ W : World, (Instr.makeSlice 27 (.int .i64 (2 * (ls.length : Int))) (.int .i64 (2 * (ls.length : Int)))).run Tryz.prog W = .ok (.slice (some ⟨W.heap.size, 0, none⟩) N N) (W.alloc (.cells (madeCells #[.int .i64 0] N) 3)) := by
    rw [hNI]
    exact run_make_row' 27 3 (.int .i64 0) 8 Tryz.underlying27 infoI rfl .i64 .i64 N (by omega) (by omega)
  clear infoI hNI
  rw [← hN] at HPOS HFX HRL HEND HAL HFL HF
  have hN40 : N ≤ 40 := by omega
  have HNE := Lib.hid hN; clear hN
  generalize facesN ns ls N = F at *
  generalize atW ns ls = at0 at *
  have hfl : F.length ≤ N := HFL.out
  have L0 := Lib.hid (World.rowIs_made (w.alloc (.cells #[.slice A ns.length c, .slice A2 ls.length c2] 32)) (.int .i64 0) N 3)
  have H1 := Lib.hid (H0.out.alloc (.cells (madeCells #[.int .i64 0] N) 3))
  go_enter Tryz.func122, Tryz.ntmps122
  go_wp2_with fail
  refine (HF.out _ (HN.out.step H1.out.below) (HL.out.step H1.out.below)).mono ?_
  rintro e w1 ⟨vf, rfl, ⟨us, hf⟩, hb⟩
  have H2 := Lib.hid (H1.out.step hb)
  have L2 := Lib.hid (rowIs_step L0.out hb)
  rw [show (w.alloc (.cells #[.slice A ns.length c, .slice A2 ls.length c2] 32)).heap.size = w.heap.size + 1 from by simp] at L2
  have hbase : ((w.alloc (.cells #[.slice A ns.length c, .slice A2 ls.length c2] 32)).alloc (.cells (madeCells #[.int .i64 0] N) 3)).heap.size = w.heap.size + 1 + 1 := by simp
  rw [hbase] at hf
  obtain ⟨g, c3, rfl⟩ := hf.some_ HPOS.out
  have HF2 := Lib.hid hf
  have HNB := Lib.hid (fun i (hi : i < F.length) k (hk : (atV us i).ownBlock = some k) => (show k ≠ w.heap.size + 1 from by have := ((hf.each i hi).own k hk).1; omega))
  clear hb hf hmk H0 H1 L0 HF hbase
  go_wp2_with fail
  go_loopw [5] (fun i wr => ∃ k : Nat, k ≤ F.length ∧ i = .int .i64 k ∧ wr.rowIs (w.heap.size + 1) 3 N (fun d => .int .i64 (fillF F k 0 d)) ∧ FaceV wr (w.heap.size + 1 + 1) (.slice (some ⟨g, 0, none⟩) F.length c3) us F ∧ Held w wr [(w.heap.size, 0, .slice A ns.length c), (w.heap.size, 1, .slice A2 ls.length c2)]) (fun i _ => F.length - (intOf i).toNat)
  case atStart => exact ⟨0, Nat.zero_le _, rfl, L2.out.congr (fun d _ => by rw [fillF_zero]), HF2.out, H2.out⟩
  case round =>
    clear L2 HF2 H2
    obtain ⟨k, hk, rfl, hl, hfv, hh⟩ := hrel
    have L1 := Lib.hid hl; clear hl
    have F1 := Lib.hid hfv; clear hfv
    have H1 := Lib.hid hh; clear hh
    by_cases hlt : k < F.length
    · have hrl := HRL.out k hlt
      obtain ⟨gu, cu, hu⟩ := (F1.out.each k hlt).some_ hrl.2
      have HU := Lib.hid hu
      have HFM := Lib.hid (fun i (hi : i < (atR F k).length) => HFX.out k i hlt hi)
      have HFS := Lib.hid (fun i q (hi : i < (atR F k).length) (h1 : atZ (atR F k) i = (q : Nat)) (h2 : fIx F (q : Int) = k) d => fillF_store hi h1 h2 d)
      have HFN := Lib.hid (fun d => fillF_next hlt d)
      have p1 : (0 : Int) ≤ k := by omega
      have p2 : (k : Int) < (F.length : Int) := by omega
      clear hu
      obtain ⟨r, hr0⟩ : ∃ r, r = atR F k := ⟨_, rfl⟩
      have HRR := Lib.hid hr0.symm
      rw [← hr0] at hrl HU HFM HFS HFN
      clear hr0
      go_wp2_with fail
      go_loopw [6] (fun i wq => ∃ m : Nat, m ≤ r.length ∧ i = .int .i64 m ∧ wq.rowIs (w.heap.size + 1) 3 N (fun d => .int .i64 (fillF F k m d)) ∧ FaceV wq (w.heap.size + 1 + 1) (.slice (some ⟨g, 0, none⟩) F.length c3) us F ∧ Held w wq [(w.heap.size, 0, .slice A ns.length c), (w.heap.size, 1, .slice A2 ls.length c2)]) (fun i _ => r.length - (intOf i).toNat)
      case atStart => exact ⟨0, Nat.zero_le _, rfl, L1.out, F1.out, H1.out⟩
      case round =>
        clear L1 F1 H1
        obtain ⟨m, hm, rfl, hl, hfv, hh⟩ := hrel
        have L1 := Lib.hid hl; clear hl
        have F1 := Lib.hid hfv; clear hfv
        have H1 := Lib.hid hh; clear hh
        have c0 := (F1.out.cellAt hlt).1
        rw [HU.out] at c0
        by_cases hmr : m < r.length
        · have hru := F1.out.each k hlt
          rw [HU.out, HRR.out] at hru
          obtain ⟨l0, -, -, -, -⟩ := hru.at_ hmr
          obtain ⟨q, hq, hqN, hfi⟩ := HFM.out m hmr
          rw [hq] at l0
          have HST := Lib.hid (HFS.out m q hmr hq hfi)
          clear hq hfi hru
          have e0 := L1.out.cell hqN
          generalize fillF F k m q = fq at e0
          have e1 := L1.out.frozen q
          have q1 : (0 : Int) ≤ m := by omega
          have q2 : (m : Int) < (r.length : Int) := by omega
          have q3 : (0 : Int) ≤ q := by omega
          have q4 : (q : Int) < (N : Int) := by omega
          have F4 := Lib.hid (F1.out.setFarN (j := q) (x := .int .i64 k) L1.out HNB.out)
          have L4 := Lib.hid (fill_store L1.out HST.out)
          have H4 := Lib.hid (H1.out.setB (g := w.heap.size + 1) (j := q) (x := .int .i64 k) (B := w.heap.size + 1) ⟨Nat.lt_succ_self _, Nat.lt_succ_self _, trivial⟩ (Nat.le_refl _) (Nat.le_succ _))
          go_wp2_with fail
          exact ⟨⟨m + 1, by omega, by go_num, L4.out, F4.out, H4.out⟩, by simp [intOf]; omega⟩
        · obtain rfl : m = r.length := by omega
          go_wp2_with fail
          exact ⟨⟨k + 1, by omega, by go_num, L1.out.congr (fun d hd => by rw [HFN.out d]), F1.out, H1.out⟩, by simp [intOf]; omega⟩
    · obtain rfl : k = F.length := by omega
      go_wp2_with fail
      go_ret
      exact ⟨_, rfl, rowIs_ints L1.out (Nat.le_succ _) (by omega) (by rw [HAL.out, HNE.out]) HEND.out, H1.out.below⟩

theorem idxB_of {n : Nat} {x : Int} {k : Nat} (h : x = (k : Int)) (hk : k < n) : idxB n x = true := (idxB_iff n x).2 (by omega)

theorem sharedW_none {ns ls : List Nd} {f h : Int} (hno : ¬ (idxB (wF ns ls).length f = true ∧ idxB (wF ns ls).length h = true)) : sharedW ns ls f h = [] := by
  unfold sharedW gA gL
  by_cases hh : wholeB ns ls = true
  · rw [if_pos hh, if_pos hh]
    have hwf : wF ns ls = facesL ns ls := if_pos hh
    rw [hwf] at hno
    refine fltN_none _ fun k hk => ?_
    rw [Bool.eq_false_iff]
    intro hp
    obtain ⟨_, l1⟩ := atW_face (whole_win hh).1 (show 2 * k < 2 * ls.length by omega)
    obtain ⟨_, l2⟩ := atW_face (whole_win hh).1 (show 2 * k + 1 < 2 * ls.length by omega)
    have e1 := atW_at (ns := ns) (ls := ls) (show 2 * k < 2 * ls.length by omega)
    have e2 := atW_at (ns := ns) (ls := ls) (show 2 * k + 1 < 2 * ls.length by omega)
    unfold sharedP at hp
    simp only [Bool.or_eq_true, Bool.and_eq_true, beq_iff_eq] at hp
    rcases hp with ⟨h1, h2⟩ | ⟨h1, h2⟩
    · exact hno ⟨idxB_of (by rw [← h1]; exact e1) l1, idxB_of (by rw [← h2]; exact e2) l2⟩
    · exact hno ⟨idxB_of (by rw [← h2]; exact e2) l2, idxB_of (by rw [← h1]; exact e1) l1⟩
  · rw [if_neg hh, if_neg hh]
    rfl

theorem wF_is {ns ls : List Nd} {f : Int} (h : idxB (wF ns ls).length f = true) : wholeB ns ls = true := by
  obtain ⟨k, _, hk⟩ := idx_nat h
  exact (wF_row hk).1

end Go.Proofs.YtepacoacalhdcaaGreat

namespace Go.Proofs.YtepacoacalhdcaaGreat
open Go.RowKit
set_option linter.unusedVariables false
set_option linter.unusedSimpArgs false

theorem infoRowB : (Tryz.prog.info? 146).map (fun i => (i.zero, i.size, i.bytes)) = some (some (.slice none 0 0), 1, 24) := by kernel_rfl

/-- Row j of the square, as a slice value. -/
def rowVal (g : Nat → Nat) (n j : Nat) : Value := .slice (some ⟨g j, 0, none⟩) n n

def rowVals (g : Nat → Nat) (n k : Nat) : List Value := (List.range k).map (rowVal g n)

theorem rowVals_len (g : Nat → Nat) (n k : Nat) : (rowVals g n k).length = k := by simp [rowVals]

theorem rowVals_succ (g : Nat → Nat) (n k : Nat) : rowVals g n (k + 1) = rowVals g n k ++ [rowVal g n k] := by simp [rowVals, List.range_succ]

theorem rowVals_get (g : Nat → Nat) (n : Nat) {k j : Nat} (h : j < k) : (rowVals g n k)[j]? = some (rowVal g n j) := by simp [rowVals, h]

/-- The slice v holds k rows of n bools each, by the blocks g. -/
structure MatG (w : World) (B : Nat) (v : Value) (g : Nat → Nat) (k n : Nat) (M : Nat → Nat → Bool) : Prop where
  row : w.ownsRow B 146 1 v k (rowVals g n k)
  low : ∀ j, j < k → B ≤ g j
  each : ∀ j, j < k → w.rowIs (g j) 4 n (fun i => .bool (M j i))
  apart : ∀ i j, i < j → j < k → g i < g j

section

variable {w w' : World} {B : Nat} {v : Value} {g : Nat → Nat} {k n : Nat} {M : Nat → Nat → Bool}

theorem ownsRow_block {t : TypeId} {s : Nat} {vs : List Value} (h : w.ownsRow B t s v k vs) (hk : ∀ b, v.ownBlock = some b → w'.heap[b]? = w.heap[b]?) : w'.ownsRow B t s v k vs := by
  refine ⟨h.1, ?_⟩
  rcases h.2 with h0 | ⟨g, cap, cur, hv, hb, hg, r⟩
  · exact .inl h0
  · exact .inr ⟨g, cap, cur, hv, hb, (hk g (by rw [hv]; rfl)).trans hg, r⟩

theorem ownsRow_mono {t : TypeId} {s : Nat} {vs : List Value} (h : w.ownsRow B t s v k vs) {b' : Nat} (hb : b' ≤ B) : w.ownsRow b' t s v k vs := by
  refine ⟨h.1, ?_⟩
  rcases h.2 with h0 | ⟨g, cap, cur, hv, hg, r⟩
  · exact .inl h0
  · exact .inr ⟨g, cap, cur, hv, Nat.le_trans hb hg, r⟩

theorem MatG.own (h : MatG w B v g k n M) : ∀ b, v.ownBlock = some b → B ≤ b ∧ b < w.heap.size := World.ownsRow.lt h.row

theorem MatG.step (h : MatG w B v g k n M) (hb : Below w.heap.size w w') : MatG w' B v g k n M :=
  ⟨ownsRow_block h.row fun b e => hb.block b (h.own b e).2, h.low, fun j hj => rowIs_step (h.each j hj) hb, h.apart⟩

theorem MatG.mono (h : MatG w B v g k n M) {b' : Nat} (hb : b' ≤ B) : MatG w b' v g k n M := ⟨ownsRow_mono h.row hb, fun j hj => Nat.le_trans hb (h.low j hj), h.each, h.apart⟩

theorem MatG.congr {M' : Nat → Nat → Bool} (h : MatG w B v g k n M) (e : ∀ j, j < k → ∀ i, i < n → M j i = M' j i) : MatG w B v g k n M' :=
  ⟨h.row, h.low, fun j hj => (h.each j hj).congr fun i hi => by rw [e j hj i hi], h.apart⟩

theorem MatG.made (w : World) (b B : Nat) (hb : b = w.heap.size) (hB : B ≤ b) (g : Nat → Nat) (n : Nat) (M : Nat → Nat → Bool) : MatG (w.alloc (.cells #[] 146)) B (.slice (some ⟨b, 0, none⟩) 0 0) g 0 n M := by
  subst hb
  exact ⟨World.ownsRow_made _ _ _ hB (by unfold maxLen; omega) rfl, fun j hj => by omega, fun j hj => by omega, fun i j _ hj => by omega⟩

theorem mat_typed (h : MatG w B v g k n M) {b : Nat} (e : v.ownBlock = some b) : ∃ cur, w.heap[b]? = some (.cells cur 146 (0, 0)) := by
  rcases h.row.2 with ⟨rfl, _⟩ | ⟨g, cap, cur, rfl, hb, hg, r⟩
  · cases e
  · simp [Value.ownBlock] at e
    subst e
    exact ⟨cur, hg⟩

/-- The rows lie not where the slice of rows lies. -/
theorem MatG.far (h : MatG w B v g k n M) {b c m : Nat} {f : Nat → Value} (e : v.ownBlock = some b) (hr : w.rowIs c 4 m f) : b ≠ c := by
  rintro rfl
  obtain ⟨c1, h1⟩ := mat_typed h e
  obtain ⟨c2, h2, _⟩ := hr
  rw [h1] at h2
  simp at h2

/-- One bool is stored. -/
theorem MatG.set (h : MatG w B v g k n M) {a : Nat} (ha : a < k) (b : Nat) (x : Bool) : MatG (w.setCell ⟨g a, b, none⟩ (.bool x)) B v g k n (fun j i => if j = a ∧ i = b then x else M j i) := by
  refine ⟨ownsRow_block h.row fun c e => Below.heap_setCell _ _ _ _ (h.far e (h.each a ha)), h.low, fun j hj => ?_, h.apart⟩
  by_cases e : j = a
  · subst e
    refine ((h.each j hj).set b (.bool x)).congr fun i hi => ?_
    by_cases e2 : i = b
    · simp [e2]
    · simp [e2]
  · have hne : g j ≠ g a := by
      rcases Nat.lt_or_gt_of_ne e with hl | hl
      · have := h.apart j a hl ha; omega
      · have := h.apart a j hl hj; omega
    refine ((h.each j hj).setOther (a := ⟨g a, b, none⟩) hne (.bool x)).congr fun i hi => ?_
    simp [e]

theorem MatG.cell (h : MatG w B v g k n M) {j i : Nat} (hj : j < k) (hi : i < n) : w.cell? ⟨g j, i, none⟩ = some (.bool (M j i)) ∧ w.frozen? ⟨g j, i, none⟩ = false ∧ g j < w.heap.size :=
  ⟨(h.each j hj).cell hi, (h.each j hj).frozen i, (h.each j hj).lt⟩

theorem MatG.form (h : MatG w B v g k n M) : ∃ a c, v = .slice a k c ∧ k ≤ maxLen ∧ ∀ j, j < k → ∃ b, a = some ⟨b, 0, none⟩ ∧ B ≤ b ∧ b < w.heap.size ∧ w.cell? ⟨b, j, none⟩ = some (rowVal g n j) := by
  have hr := h.row
  rcases hr.2 with ⟨rfl, h0⟩ | ⟨b, cap, cur, rfl, hb, hg, hnc, hcm, hcs, ht⟩
  · exact ⟨none, 0, by rw [h0], by omega, fun j hj => by omega⟩
  · refine ⟨some ⟨b, 0, none⟩, cap, rfl, by omega, fun j hj => ⟨b, rfl, hb, lt_of_block hg, ?_⟩⟩
    rw [World.ownsRow.cellAt hr j (by omega), rowVals_get g n hj]

theorem MatG.some_ (h : MatG w B v g k n M) (h0 : 0 < k) : ∃ b c, v = .slice (some ⟨b, 0, none⟩) k c := by
  obtain ⟨a, c, rfl, _, hc⟩ := h.form
  obtain ⟨b, rfl, _⟩ := hc 0 h0
  exact ⟨b, c, rfl⟩

theorem MatG.cellRow {b c m : Nat} (h : MatG w B (.slice (some ⟨b, 0, none⟩) m c) g k n M) {j : Nat} (hj : j < k) : w.cell? ⟨b, j, none⟩ = some (rowVal g n j) ∧ b < w.heap.size := by
  obtain ⟨a, c2, e, _, hf⟩ := h.form
  obtain ⟨b2, rfl, _, hl, hc⟩ := hf j hj
  simp only [Value.slice.injEq, Option.some.injEq, Addr.mk.injEq] at e
  obtain ⟨⟨rfl, -, -⟩, -, -⟩ := e
  exact ⟨hc, hl⟩

/-- Another row behind. -/
theorem MatG.more {W : World} {v' : Value} {b : Nat} (h : MatG w B v g k n M) (hb : w.rowIs b 4 n (fun i => .bool (M k i))) (hB : B ≤ b) (hlt : ∀ j, j < k → g j < b)
    (hg : w.grownBy W v.ownBlock) (hown : W.ownsRow B 146 1 v' (k + 1) (rowVals g n k ++ [.slice (some ⟨b, 0, none⟩) n n])) : MatG W B v' (fun j => if j = k then b else g j) (k + 1) n M := by
  have far : ∀ {c : Nat} {f : Nat → Value}, w.rowIs c 4 n f → W.rowIs c 4 n f := fun {c f} hc => rowIs_grown hc hg fun e => h.far e hc rfl
  have er : rowVals (fun j => if j = k then b else g j) n (k + 1) = rowVals g n k ++ [.slice (some ⟨b, 0, none⟩) n n] := by
    rw [rowVals_succ]
    congr 1
    · unfold rowVals
      refine List.map_congr_left fun j hj => ?_
      rw [List.mem_range] at hj
      unfold rowVal
      simp only
      rw [if_neg (by omega)]
    · unfold rowVal
      simp
  refine ⟨by rw [er]; exact hown, fun j hj => ?_, fun j hj => ?_, fun i j hij hj => ?_⟩
  · split
    · exact hB
    · exact h.low j (by omega)
  · by_cases e : j = k
    · subst e
      rw [if_pos rfl]; exact far hb
    · rw [if_neg e]; exact far (h.each j (by omega))
  · rw [if_neg (by omega)]
    by_cases e : j = k
    · rw [if_pos e]; exact hlt i (by omega)
    · rw [if_neg e]; exact h.apart i j hij (by omega)

end

/-- What is returned: a square of bools in new memory. -/
def MatNew (n : Nat) (M : Nat → Nat → Bool) (w : World) (e : Ending) (w' : World) : Prop := ∃ v g, e = .returned v ∧ MatG w' w.heap.size v g n n M ∧ Below w.heap.size w w'

theorem grown_belowM {B : Nat} {W W' : World} {v : Value} {g : Nat → Nat} {k n : Nat} {M : Nat → Nat → Bool} {o : Obj} (h : MatG W B v g k n M) (hB : B ≤ W.heap.size) (hg : (W.alloc o).grownBy W' v.ownBlock) : Below B W W' :=
  ((Below.refl B W).alloc hB o).grown hg (by simp; omega) fun k e => (h.own k e).1

theorem stable_mat (B : Nat) (v : Value) (g : Nat → Nat) (k n : Nat) (M : Nat → Nat → Bool) : Stable fun W => MatG W B v g k n M := fun _ _ h hb => h.step hb

/-- Are the faces f and h beside each other, by the first q leads? -/
def besM (ds : List Int) : Nat → Nat → Nat → Bool
  | 0, _, _ => false
  | q + 1, f, h => besM ds q f h || (decide (atZ ds (2 * q) ≠ atZ ds (2 * q + 1)) && ((decide (atZ ds (2 * q) = f) && decide (atZ ds (2 * q + 1) = h)) || (decide (atZ ds (2 * q) = h) && decide (atZ ds (2 * q + 1) = f))))

theorem besM_succ (ds : List Int) (q f h : Nat) : besM ds (q + 1) f h = (besM ds q f h || (decide (atZ ds (2 * q) ≠ atZ ds (2 * q + 1)) && ((decide (atZ ds (2 * q) = f) && decide (atZ ds (2 * q + 1) = h)) || (decide (atZ ds (2 * q) = h) && decide (atZ ds (2 * q + 1) = f))))) := rfl

theorem besM_skip {ds : List Int} {q : Nat} (h : atZ ds (2 * q) = atZ ds (2 * q + 1)) : besM ds (q + 1) = besM ds q := by
  funext f g
  rw [besM_succ]
  simp [h]

theorem besM_store {ds : List Int} {q a b : Nat} (h : a ≠ b) (ha : atZ ds (2 * q) = a) (hb : atZ ds (2 * q + 1) = b) :
    (fun j i => if j = b ∧ i = a then true else if j = a ∧ i = b then true else besM ds q j i) = besM ds (q + 1) := by
  funext j i
  rw [besM_succ, ha, hb]
  have e : ∀ x y : Nat, (decide ((x : Int) = (y : Int)) : Bool) = decide (x = y) := fun x y => by
    rw [Bool.eq_iff_iff]; simp only [decide_eq_true_eq]; omega
  rw [e, e, e, e, show decide ((a : Int) ≠ (b : Int)) = true from decide_eq_true (by omega), Bool.true_and]
  by_cases c1 : j = b ∧ i = a
  · rw [if_pos c1]; simp [c1.1, c1.2]
  · rw [if_neg c1]
    by_cases c2 : j = a ∧ i = b
    · rw [if_pos c2]; simp [c2.1, c2.2]
    · rw [if_neg c2]
      have k1 : (decide (a = j) && decide (b = i)) = false := by
        rw [Bool.eq_false_iff]; intro k; simp only [Bool.and_eq_true, decide_eq_true_eq] at k; omega
      have k2 : (decide (a = i) && decide (b = j)) = false := by
        rw [Bool.eq_false_iff]; intro k; simp only [Bool.and_eq_true, decide_eq_true_eq] at k; omega
      simp [k1, k2]

theorem besM_sym (ds : List Int) : ∀ q f h, besM ds q f h = besM ds q h f
  | 0, _, _ => rfl
  | q + 1, f, h => by
    rw [besM_succ, besM_succ, besM_sym ds q f h]
    congr 2
    rw [Bool.or_comm]

theorem besM_iff (ds : List Int) (f h : Nat) : ∀ q, besM ds q f h = true ↔ ∃ k, k < q ∧ atZ ds (2 * k) ≠ atZ ds (2 * k + 1) ∧ ((atZ ds (2 * k) = f ∧ atZ ds (2 * k + 1) = h) ∨ (atZ ds (2 * k) = h ∧ atZ ds (2 * k + 1) = f))
  | 0 => by simp [besM]
  | q + 1 => by
    rw [besM_succ]
    simp only [Bool.or_eq_true, Bool.and_eq_true, decide_eq_true_eq]
    rw [besM_iff ds f h q]
    constructor
    · rintro (⟨k, h1, h2⟩ | h1)
      · exact ⟨k, by omega, h2⟩
      · exact ⟨q, by omega, h1⟩
    · rintro ⟨k, h1, h2⟩
      by_cases e : k = q
      · subst e; exact .inr h2
      · exact .inl ⟨k, by omega, h2⟩
end Go.Proofs.YtepacoacalhdcaaGreat

namespace Go.Proofs.YtepacoacalhdcaaGreat
open Go.RowKit
set_option linter.unusedVariables false
set_option linter.unusedSimpArgs false

/-- n pigeons leave a hole among n + 1. -/
theorem hole_left : ∀ (k : Nat) (f : Nat → Int), (∀ c : Nat, c ≤ k → ∃ i, i < k ∧ f i = (c : Int)) → False
  | 0, f, h => by
    obtain ⟨i, hi, _⟩ := h 0 (Nat.le_refl _)
    omega
  | k + 1, f, h => by
    refine hole_left k (fun i => if f i > f k then f i - 1 else f i) fun c hc => ?_
    by_cases e : (c : Int) < f k
    · obtain ⟨i, hi, he⟩ := h c (by omega)
      have hik : i ≠ k := by rintro rfl; omega
      exact ⟨i, by omega, by show (if f i > f k then f i - 1 else f i) = _; rw [if_neg (by omega), he]⟩
    · obtain ⟨i, hi, he⟩ := h (c + 1) (by omega)
      have hik : i ≠ k := by rintro rfl; omega
      exact ⟨i, by omega, by show (if f i > f k then f i - 1 else f i) = _; rw [if_pos (by omega), he]; omega⟩

/-- No face before k that is beside k has the color c. -/
def freC (M : Nat → Nat → Bool) (xs : List Int) (k c : Nat) : Bool := (List.range k).all fun i => !(M k i && decide (atZ xs i = (c : Int)))

theorem freC_iff {M : Nat → Nat → Bool} {xs : List Int} {k c : Nat} : freC M xs k c = true ↔ ∀ i, i < k → M k i = true → atZ xs i ≠ (c : Int) := by
  unfold freC
  simp only [List.all_eq_true, List.mem_range, Bool.not_eq_true', Bool.and_eq_false_iff, decide_eq_false_iff_not]
  constructor
  · intro h i hi hm
    rcases h i hi with h1 | h1
    · rw [hm] at h1; cases h1
    · exact h1
  · intro h i hi
    cases hm : M k i
    · exact .inl rfl
    · exact .inr (h i hi hm)

def mexZ (M : Nat → Nat → Bool) (xs : List Int) (k : Nat) : Int := firstI (freC M xs k) (k + 1)

theorem mex_is (M : Nat → Nat → Bool) (xs : List Int) (k : Nat) : ∃ m : Nat, mexZ M xs k = m ∧ m ≤ k ∧ freC M xs k m = true ∧ ∀ j, j < m → freC M xs k j = false := by
  rcases firstI_cases (freC M xs k) (k + 1) with ⟨_, h⟩ | ⟨m, h1, h2, h3, h4⟩
  · refine absurd ?_ id
    refine hole_left k (atZ xs) fun c hc => ?_
    have h1 := h c (by omega)
    have h2 : ¬ ∀ i, i < k → M k i = true → atZ xs i ≠ (c : Int) := by rw [← freC_iff, h1]; simp
    refine Classical.byContradiction fun h3 => h2 fun i hi _ he => h3 ⟨i, hi, he⟩
  · exact ⟨m, h1, by omega, h3, h4⟩

theorem mex_end {M : Nat → Nat → Bool} {xs : List Int} {k m c : Nat} (hm : ∀ j, j < m → freC M xs k j = false) (hc : c ≤ m) (h : ∀ i, i < k → M k i = true → atZ xs i ≠ (c : Int)) : c = m := by
  rcases Nat.lt_or_ge c m with h1 | h1
  · have := hm c h1
    rw [freC_iff.2 h] at this
    cases this
  · omega

theorem mex_up {M : Nat → Nat → Bool} {xs : List Int} {k m c i : Nat} (hm : freC M xs k m = true) (hc : c ≤ m) (hi : i < k) (h1 : M k i = true) (h2 : atZ xs i = (c : Int)) : c + 1 ≤ m := by
  rcases Nat.lt_or_ge c m with h3 | h3
  · exact h3
  · have : c = m := by omega
    subst this
    exact absurd h2 (freC_iff.1 hm i hi h1)

/-- The colors of the first k faces. -/
def grdL (M : Nat → Nat → Bool) : Nat → List Int
  | 0 => []
  | k + 1 => grdL M k ++ [mexZ M (grdL M k) k]

theorem grdL_succ (M : Nat → Nat → Bool) (k : Nat) : grdL M (k + 1) = grdL M k ++ [mexZ M (grdL M k) k] := rfl

theorem grdL_len (M : Nat → Nat → Bool) : ∀ k, (grdL M k).length = k
  | 0 => rfl
  | k + 1 => by rw [grdL_succ, List.length_append, grdL_len M k]; rfl

theorem besM_sub (ds : List Int) (f h : Nat) : ∀ q, besM ds q f h = (decide ((f : Int) ≠ (h : Int)) && decide (0 < (fltN (sharedP ds f h) q).length))
  | 0 => by simp [besM, fltN]
  | q + 1 => by
    rw [besM_succ, besM_sub ds f h q, fltN_succ]
    generalize fltN (sharedP ds f h) q = X
    unfold sharedP
    generalize atZ ds (2 * q) = a
    generalize atZ ds (2 * q + 1) = b
    by_cases hfh : (f : Int) = (h : Int)
    · rw [← hfh, Bool.eq_iff_iff]
      simp
      omega
    · rw [Bool.eq_iff_iff]
      by_cases hs : (a = f ∧ b = h) ∨ (a = h ∧ b = f)
      · have e : ((a == (f : Int) && b == (h : Int)) || (a == (h : Int) && b == (f : Int))) = true := by simpa using hs
        have hab : a ≠ b := by rcases hs with ⟨h1, h2⟩ | ⟨h1, h2⟩ <;> rw [h1, h2] <;> intro e2 <;> exact hfh (by omega)
        rw [if_pos e]
        simp [hab, hs]
        omega
      · have e : ¬ ((a == (f : Int) && b == (h : Int)) || (a == (h : Int) && b == (f : Int))) = true := by simpa using hs
        rw [if_neg e]
        simp only [Bool.or_eq_true, Bool.and_eq_true, decide_eq_true_eq]
        exact ⟨fun h1 => h1.elim id fun h2 => absurd h2.2 hs, .inl⟩

/-- The colors before n that none of the faces of the row has. -/
def freeJ (row xs : List Int) (c : Nat) : Bool := row.all fun h => !decide (atZ xs h.toNat = (c : Int))

def chL (row xs : List Int) (n : Nat) : List Int := fltN (freeJ row xs) n

theorem freeJ_hit {row xs : List Int} {c j : Nat} (hj : j < row.length) (h : atZ xs (atZ row j).toNat = (c : Int)) : freeJ row xs c = false := by
  rw [Bool.eq_false_iff]
  intro h1
  unfold freeJ at h1
  rw [List.all_eq_true] at h1
  have := h1 (atZ row j) (by rw [← atZ_get hj]; exact List.getElem_mem hj)
  simp [h] at this

theorem freeJ_none {row xs : List Int} {c : Nat} (h : ∀ j, j < row.length → atZ xs (atZ row j).toNat ≠ (c : Int)) : freeJ row xs c = true := by
  unfold freeJ
  rw [List.all_eq_true]
  intro x hx
  obtain ⟨p, hp, he, _⟩ := atZ_of_mem hx
  have := h p hp
  rw [he] at this
  simp [this]

theorem flt_first {p : Nat → Bool} {m : Nat} (hp : p m = true) (hb : ∀ j, j < m → p j = false) : ∀ n, m < n → 0 < (fltN p n).length ∧ atZ (fltN p n) 0 = (m : Int)
  | 0, h => by omega
  | n + 1, h => by
    rw [fltN_succ]
    by_cases e : m = n
    · subst e
      rw [if_pos hp, fltN_none m hb]
      exact ⟨by simp, rfl⟩
    · obtain ⟨h1, h2⟩ := flt_first hp hb n (by omega)
      split
      · exact ⟨by rw [List.length_append]; omega, by rw [atZ_more h1]; exact h2⟩
      · exact ⟨h1, h2⟩

/-- What the program's list holds ahead of face k. -/
def fillL (M : Nat → Nat → Bool) (n k : Nat) : List Int := grdL M k ++ List.replicate (n - k) (-1)

theorem fillL_len (M : Nat → Nat → Bool) {n k : Nat} (h : k ≤ n) : (fillL M n k).length = n := by
  unfold fillL
  rw [List.length_append, grdL_len, List.length_replicate]
  omega

theorem fillL_zero (M : Nat → Nat → Bool) (n : Nat) : fillL M n 0 = List.replicate n (-1) := rfl

theorem fillL_end (M : Nat → Nat → Bool) (n : Nat) : fillL M n n = grdL M n := by unfold fillL; simp

theorem fillL_next (M : Nat → Nat → Bool) {n k : Nat} (h : k < n) : (fillL M n k).set k (mexZ M (grdL M k) k) = fillL M n (k + 1) := by
  unfold fillL
  obtain ⟨q, hq⟩ : ∃ q, n - k = q + 1 := ⟨n - k - 1, by omega⟩
  rw [hq, show n - (k + 1) = q from by omega, List.set_append, if_neg (by rw [grdL_len]; omega), grdL_len, Nat.sub_self, grdL_succ, List.replicate_succ]
  simp

theorem atZ_fill_lo (M : Nat → Nat → Bool) {n k i : Nat} (h : i < k) : atZ (fillL M n k) i = atZ (grdL M k) i := by
  unfold fillL atZ
  simp [List.getD, List.getElem?_append, grdL_len, h]

theorem atZ_fill_hi (M : Nat → Nat → Bool) {n k i : Nat} (h : k ≤ i) (h2 : i < n) : atZ (fillL M n k) i = -1 := by
  unfold fillL atZ
  simp [List.getD, List.getElem?_append, grdL_len, show ¬ i < k by omega, List.getElem?_replicate, show i - k < n - k by omega]

/-- The row of the faces beside face k. -/
def rowM (M : Nat → Nat → Bool) (n k : Nat) : List Int := fltN (fun h => M k h) n

theorem freeJ_is (M : Nat → Nat → Bool) {n k : Nat} (hk : k < n) (c : Nat) : freeJ (rowM M n k) (fillL M n k) c = freC M (grdL M k) k c := by
  rw [Bool.eq_iff_iff, freC_iff]
  constructor
  · intro h i hi hm
    unfold freeJ at h
    rw [List.all_eq_true] at h
    have := h (i : Int) (by unfold rowM; rw [fltN_mem]; exact ⟨i, rfl, by omega, hm⟩)
    rw [← atZ_fill_lo M (n := n) hi]
    simpa using this
  · intro h
    refine freeJ_none fun j hj => ?_
    have hmem : atZ (rowM M n k) j ∈ rowM M n k := by rw [← atZ_get hj]; exact List.getElem_mem hj
    obtain ⟨i, hi, hin, hm⟩ := (fltN_mem (fun h => M k h) n _).1 hmem
    rw [hi]
    show atZ (fillL M n k) i ≠ _
    rcases Nat.lt_or_ge i k with h1 | h1
    · rw [atZ_fill_lo M h1]; exact h i h1 hm
    · rw [atZ_fill_hi M h1 hin]; omega

theorem chL_first (M : Nat → Nat → Bool) {n k : Nat} (hk : k < n) : 0 < (chL (rowM M n k) (fillL M n k) n).length ∧ atZ (chL (rowM M n k) (fillL M n k) n) 0 = mexZ M (grdL M k) k := by
  obtain ⟨m, hm, hmk, h1, h2⟩ := mex_is M (grdL M k) k
  rw [hm]
  unfold chL
  exact flt_first (by rw [freeJ_is M hk]; exact h1) (fun j hj => by rw [freeJ_is M hk]; exact h2 j hj) n (by omega)

theorem rowM_lt {M : Nat → Nat → Bool} {n k j : Nat} (hj : j < (rowM M n k).length) : ∃ q : Nat, atZ (rowM M n k) j = q ∧ q < n := by
  have hmem : atZ (rowM M n k) j ∈ rowM M n k := by rw [← atZ_get hj]; exact List.getElem_mem hj
  obtain ⟨i, hi, hin, hm⟩ := (fltN_mem (fun h => M k h) n _).1 hmem
  exact ⟨i, hi, hin⟩

section

variable {w w' : World} {B : Nat} {v : Value} {g : Nat → Nat} {k n : Nat} {M : Nat → Nat → Bool}

/-- A row of ints grows: the square of bools lies elsewhere. -/
theorem MatG.grownI (h : MatG w B v g k n M) {B' : Nat} {u : Value} {xs : List Int} (hx : Ints w B' u xs) (hg : w.grownBy w' u.ownBlock) : MatG w' B v g k n M := by
  refine ⟨ownsRow_block h.row fun b e => hg.block b (h.own b e).2 fun e2 => ?_, h.low, fun j hj => rowIs_grown (h.each j hj) hg fun e => hx.farB (h.each j hj) e rfl, h.apart⟩
  obtain ⟨c1, h1⟩ := mat_typed h e
  obtain ⟨c2, h2⟩ := hx.typed (k := b) (by first | exact e2 | exact e2.symm)
  rw [h1] at h2
  simp at h2

end
end Go.Proofs.YtepacoacalhdcaaGreat

namespace Go.Proofs.YtepacoacalhdcaaGreat
open Go.RowKit
set_option linter.unusedVariables false
set_option linter.unusedSimpArgs false

def sumQ (f : Nat → Int) : Nat → Int
  | 0 => 0
  | n + 1 => sumQ f n + f n

theorem sumQ_succ (f : Nat → Int) (n : Nat) : sumQ f (n + 1) = sumQ f n + f n := rfl

theorem sumQ_bd {f : Nat → Int} {b : Int} (h : ∀ c, 0 ≤ f c ∧ f c ≤ b) : ∀ n : Nat, 0 ≤ sumQ f n ∧ sumQ f n ≤ n * b
  | 0 => by simp [sumQ]
  | n + 1 => by
    obtain ⟨h1, h2⟩ := sumQ_bd h n
    obtain ⟨h3, h4⟩ := h n
    rw [sumQ_succ, show ((n + 1 : Nat) : Int) * b = n * b + b from by rw [Int.natCast_succ, Int.add_mul, Int.one_mul]]
    omega

/-- The ways to fill d more faces with the colors before n. -/
def cntQ (M : Nat → Nat → Bool) (n : Nat) : Nat → List Int → Int
  | 0, _ => 1
  | d + 1, xs => sumQ (fun c => if freC M xs xs.length c = true then cntQ M n d (xs ++ [(c : Int)]) else 0) n

theorem cntQ_bd (M : Nat → Nat → Bool) {n : Nat} (hn : n ≤ 4) : ∀ d xs, 0 ≤ cntQ M n d xs ∧ cntQ M n d xs ≤ ((4 ^ d : Nat) : Int)
  | 0, xs => by simp [cntQ]
  | d + 1, xs => by
    have h := sumQ_bd (f := fun c => if freC M xs xs.length c = true then cntQ M n d (xs ++ [(c : Int)]) else 0) (b := ((4 ^ d : Nat) : Int)) (fun c => by
      split
      · exact cntQ_bd M hn d _
      · exact ⟨Int.le_refl _, Int.natCast_nonneg _⟩) n
    unfold cntQ
    refine ⟨h.1, Int.le_trans h.2 ?_⟩
    rw [Nat.pow_succ, Nat.mul_comm, Int.natCast_mul]
    exact Int.mul_le_mul_of_nonneg_right (by omega) (Int.natCast_nonneg _)

theorem pow_13 {d : Nat} (h : d ≤ 13) : 4 ^ d ≤ 67108864 := Nat.le_trans (Nat.pow_le_pow_right (by decide) h) (by decide)

/-- Each part of the sum is small. -/
theorem cntQ_part (M : Nat → Nat → Bool) {n d : Nat} (hn : n ≤ 4) (hd : d ≤ 12) (xs : List Int) : ∀ q : Nat, q ≤ 4 → 0 ≤ sumQ (fun c => if freC M xs xs.length c = true then cntQ M n d (xs ++ [(c : Int)]) else 0) q ∧ sumQ (fun c => if freC M xs xs.length c = true then cntQ M n d (xs ++ [(c : Int)]) else 0) q ≤ 268435456 := fun q hq => by
  have hp := pow_13 (d := d) (by omega)
  have h := sumQ_bd (f := fun c => if freC M xs xs.length c = true then cntQ M n d (xs ++ [(c : Int)]) else 0) (b := 67108864) (fun c => by
    split
    · have := cntQ_bd M hn d (xs ++ [(c : Int)])
      omega
    · omega) q
  refine ⟨h.1, Int.le_trans h.2 ?_⟩
  omega

/-- No face before i that is beside k has the color c. -/
def freeK (M : Nat → Nat → Bool) (xs : List Int) (k c : Nat) (i : Nat) : Bool := (List.range i).all fun j => !(M k j && decide (atZ xs j = (c : Int)))

theorem freeK_succ (M : Nat → Nat → Bool) (xs : List Int) (k c i : Nat) : freeK M xs k c (i + 1) = (freeK M xs k c i && !(M k i && decide (atZ xs i = (c : Int)))) := by
  unfold freeK
  rw [List.range_succ, List.all_append]
  simp

section

variable {P : Program}

theorem run_append_seq {w : World} {B g : Nat} {t ty : TypeId} {i : TypeInfo} {v : Value} {xs : List Int} (ht : P.underlying t = some (.slice 3)) (hi : P.info? 3 = some i) (hz : i.zero = some (.int .i64 0))
    (hsize : i.size = 1) (hby : i.bytes = 8) (hg : w.heap[g]? = some (.cells #[] 3 (0, 0))) (hB : B ≤ g) (hv : Seq w v xs) (hlen : xs.length ≤ 1048576) :
    ∃ v' w', (Builtin.append_ #[t, t] ty #[.slice (some ⟨g, 0, none⟩) 0 0, v]).run P w = .ok v' w' ∧ Ints w' B v' xs ∧ Below w.heap.size w w' := by
  have hgl := lt_of_block hg
  have hown : Ints w B (.slice (some ⟨g, 0, none⟩) 0 0) [] := ⟨by simp, .inr ⟨g, 0, #[], rfl, hB, hg, Nat.le_refl _, Nat.zero_le _, rfl, rfl⟩⟩
  obtain ⟨A, c, rfl, hl, hc, hx⟩ := hv
  by_cases h0 : xs.length = 0
  · obtain rfl : xs = [] := List.eq_nil_of_length_eq_zero h0
    cases A with
    | none =>
      refine ⟨_, w, ?_, hown, Below.refl _ _⟩
      simp [Builtin.append_, run_underlying ht, sizeOf, typeInfo, hi, Builtin.lenOf, Builtin.firstCells, storeCells]
    | some a =>
      have hr := run_append_room (P := P) w t ty 3 i ht hi g 0 0 #[] hg a 0 c [] (by simp) (fun j u h => by simp at h) (fun u h => by simp at h) (Nat.le_refl _) (by simp)
      simp only [Nat.zero_mul, Nat.add_zero] at hr
      refine ⟨_, _, hr, ?_, ⟨rfl, rfl, rfl, by simp [World.setRow], fun k hk => ?_⟩⟩
      · exact ⟨by simp, .inr ⟨g, 0, _, rfl, hB, setRow_heap w g #[] _ 3 _ hg, Nat.le_refl _, Nat.zero_le _, rfl, by simp⟩⟩
      · by_cases hkg : k = g
        · subst hkg; rw [setRow_heap w k #[] _ 3 _ hg, hg]; rfl
        · exact setRow_other w g k _ hkg
  · obtain ⟨b, o, rfl, hbl, hcs⟩ := hx (by omega)
    have hn : ∀ j u, (xs.map fun x => Value.int .i64 x)[j]? = some u → w.cell? ((⟨b, o, none⟩ : Addr).add j) = some u := fun j u hj => by
      rcases Nat.lt_or_ge j xs.length with h | h
      · rw [List.getElem?_map, List.getElem?_eq_getElem h, Option.map_some, atZ_get h] at hj
        rw [← hj, ← hcs j h]
        congr 1
        unfold Addr.add; split <;> simp_all
      · rw [List.getElem?_eq_none (by simpa using h)] at hj
        cases hj
    have hr := run_append_grow (P := P) w t ty 3 i (.int .i64 0) ht hi hz ⟨g, 0, none⟩ 0 0 [] (by simp) (fun j u h => by simp at h) ⟨b, o, none⟩ xs.length c (xs.map fun x => .int .i64 x) (by rw [List.length_map, hsize, Nat.mul_one]) hn (by omega) (by omega)
      (by rw [Nat.zero_add, nextslicecap_zero (by omega), hby]; omega)
    refine ⟨_, _, hr, ?_, (Below.refl _ _).drew.alloc (by simp) _⟩
    have hge := grownCap_ge w (0 + xs.length) 0 3
    have hcm := grownCap_le_maxLen w (0 + xs.length) 0 3 (by unfold maxLen; omega)
    unfold Ints
    refine ⟨by simp, .inr ⟨w.heap.size, _, _, by rw [Nat.zero_add], by omega, heap_alloc_new w.drew _, ?_, ?_, ?_, ?_⟩⟩
    · simpa using hge
    · simpa using hcm
    · simp only [Array.size_append, List.size_toArray, size_zeroCells, List.length_nil, List.length_map, Nat.zero_add] at hge ⊢
      simp [Value.cells]
      omega
    · simp

end

/-- A list and a bool handed back. -/
def CwRet (b : Bool) (L : List Int) (w : World) (e : Ending) (w' : World) : Prop := (∃ v, e = .returned (.tuple #[v, .bool b]) ∧ Ints w' w.heap.size v L) ∧ Below w.heap.size w w'
end Go.Proofs.YtepacoacalhdcaaGreat
