/-
  The harness's functions over slices of slices of ints: eqIntSS, markIntSS, heldIntSS.
-/
import Derived.Test.YtnonebfdognlmaaGreatGlsV
import Derived.Test.YtnonebfdognlmaaGreatG1
namespace Go.Proofs.YtnonebfdognlmaaGreat
open Go.RowKit
set_option linter.unusedVariables false
set_option linter.unusedSimpArgs false

theorem FaceV.cellR {w : World} {B n c : Nat} {a : Option Addr} {us : List Value} {rs : List (List Int)} (h : FaceV w B (.slice a n c) us rs) {j : Nat} (hj : j < rs.length) :
    ∃ g u d, a = some ⟨g, 0, none⟩ ∧ g < w.heap.size ∧ atV us j = .slice u (atR rs j).length d ∧ w.cell? ⟨g, j, none⟩ = some (.slice u (atR rs j).length d) ∧ Ints w B (.slice u (atR rs j).length d) (atR rs j) := by
  obtain ⟨a', c', e, _, hc⟩ := h.form
  obtain ⟨g, rfl, _, hg, hcell⟩ := hc j hj
  simp only [Value.slice.injEq] at e
  obtain ⟨u, d, e2⟩ := ints_form (h.each j hj)
  have hi := h.each j hj
  rw [e2] at hcell hi
  exact ⟨g, u, d, e.1, hg, e2, hcell, hi⟩
/-- A block of the slice or of its rows. -/
def FB (v : Value) (us : List Value) (k : Nat) : Prop := v.ownBlock = some k ∨ ∃ j, j < us.length ∧ (atV us j).ownBlock = some k
theorem FaceV.bd {w : World} {B : Nat} {v : Value} {us : List Value} {rs : List (List Int)} (h : FaceV w B v us rs) : ∀ k, FB v us k → B ≤ k ∧ k < w.heap.size := by
  rintro k (e | ⟨j, hj, e⟩)
  · exact h.row.own k e
  · exact (h.each j (by rw [← h.len]; exact hj)).own k e
theorem FaceV.turn {Lo Hi B : Nat} {w w' : World} {v : Value} {us : List Value} {rs : List (List Int)} (h : FaceV w B v us rs) (t : Turn Lo Hi w w') (hk : ∀ k, FB v us k → k < Lo ∨ Hi ≤ k) : FaceV w' B v us rs :=
  ⟨h.row.keep fun k e => t.block k (h.row.own k e).2 (hk k (.inl e)), h.len, fun j hj => (h.each j hj).turn t fun k e => hk k (.inr ⟨j, by rw [h.len]; exact hj, e⟩), h.asc⟩
theorem atR_set {rs : List (List Int)} {m j : Nat} {ms : List Int} (hj : j < rs.length) : atR (rs.set m ms) j = if m = j then ms else atR rs j := by
  unfold atR
  simp [List.getD, List.getElem?_set]
  by_cases e : m = j
  · subst e; simp [hj]
  · simp [e]
theorem FaceV.mark {w w' : World} {B m : Nat} {v : Value} {us : List Value} {rs : List (List Int)} {ms : List Int} (h : FaceV w B v us rs) (hm : m < rs.length) (hi : Ints w' B (atV us m) ms) (hg : w.grownBy w' (atV us m).ownBlock) : FaceV w' B v us (rs.set m ms) := by
  refine ⟨h.row.keep fun k e => hg.block k (h.row.own k e).2 (fun e2 => h.row.far (h.each m hm) e2.symm e), by simp [h.len], fun j hj => ?_, fun i j hij hj => h.asc i j hij (by simpa using hj)⟩
  have hj2 : j < rs.length := by simpa using hj
  rw [atR_set hj2]
  by_cases e : m = j
  · subst e; rw [if_pos rfl]; exact hi
  · rw [if_neg e]
    refine (h.each j hj2).keep fun k hk => hg.block k ((h.each j hj2).own k hk).2 (fun e2 => ?_)
    by_cases hlt : j < m
    · have := h.asc j m hlt hm k k hk e2.symm; omega
    · have := h.asc m j (by omega) hj2 k k e2.symm hk; omega

set_option maxRecDepth 100000 in
set_option maxHeartbeats 2000000 in
theorem eqIntSS_yes {b1 b2 : Nat} {w : World} {v1 v2 : Value} {rs : List (List Int)} (h1 : Faces w b1 v1 rs) (h2 : Faces w b2 v2 rs) (h40 : rs.length ≤ 40) :
    Calls Tryz.prog 19 #[v1, v2] w (BoolIs true w) := by
  obtain ⟨us1, h1⟩ := h1
  obtain ⟨us2, h2⟩ := h2
  obtain ⟨a1, c1, rfl, -, -⟩ := h1.form
  obtain ⟨a2, c2, rfl, -, -⟩ := h2.form
  have F1 := Lib.hid h1
  have F2 := Lib.hid h2
  clear h1 h2
  go_enter Tryz.func19, Tryz.ntmps19
  go_wp2_with fail
  go_loopw [5] (fun i wr => ∃ m : Nat, m ≤ rs.length ∧ i = .int .i64 m ∧ Below w.heap.size w wr) (fun i _ => rs.length - (intOf i).toNat)
  case atStart => exact ⟨0, Nat.zero_le _, rfl, Below.refl _ _⟩
  case round =>
    obtain ⟨m, hm, rfl, hbb⟩ := hrel
    have HB := Lib.hid hbb; clear hbb
    by_cases hlt : m < rs.length
    · obtain ⟨g1, u1, d1, rfl, hg1, -, k1, i1⟩ := (F1.out.step HB.out).cellR hlt
      obtain ⟨g2, u2, d2, rfl, hg2, -, k2, i2⟩ := (F2.out.step HB.out).cellR hlt
      have HEQ := Lib.hid (fun W (hb : Below wr.heap.size wr W) => (eqIntS_yes (i1.step hb) (i2.step hb)).mono (fun e w' h => (show e = .returned (.bool true) ∧ Below W.heap.size W w' from by
        obtain ⟨he, n, rfl⟩ := h
        exact ⟨he, below_drewN (Below.refl _ _) n⟩)))
      have H2 := Lib.hid (Held.start (w := wr) (fs := [(g1, m, .slice u1 (atR rs m).length d1), (g2, m, .slice u2 (atR rs m).length d2)]) ⟨k1, k2, trivial⟩ ⟨hg1, hg2, trivial⟩)
      have p1 : (0 : Int) ≤ m := by omega
      have p2 : (m : Int) < (rs.length : Int) := by omega
      clear k1 k2 i1 i2 hg1 hg2
      generalize (atR rs m).length = n at *
      obtain ⟨x0, x1, _⟩ := H2.out.1
      go_wp2_with fail
      refine regionD (S := fun W => Held _ W [(g1, m, .slice u1 n d1), (g2, m, .slice u2 n d2)]) (by kernel_rfl) H2.out.drew ?_
      iterate 10 (refine takeT (v := ?_) rfl (by kernel_rfl) (by kernel_rfl) (by kernel_rfl) ?_ ?_; rotate_left; (first | (refine Or.inr ⟨by rfl, ?_⟩; with_reducible rfl) | (refine Or.inl ⟨by rfl, fun W hS => detRes_value (w' := W) ?_ hS⟩; obtain ⟨x0, x1, _⟩ := hS.1; go_simp; first | done | with_reducible rfl) | (refine Or.inl ⟨by rfl, fun W hS => ?_⟩; refine detRes_call (w' := W) (f := ?_) (args := ?_) ?_ ?_; rotate_left 2; (go_simp; (refine ⟨?_, ?_⟩ <;> with_reducible rfl)); (first | (with_reducible refine (HEQ.out _ hS.below).mono ?_) | fail); (first | (rintro e wn ⟨rfl, hb⟩; refine ⟨?_, hS.step hb⟩; with_reducible rfl) | (rintro e wn ⟨rfl, rfl⟩; refine ⟨?_, hS⟩; with_reducible rfl) | fail)) | fail); (simp only [Act.put, List.setIfInBounds_toArray, List.set_cons_zero, List.set_cons_succ]))
      refine doneD (by kernel_rfl) fun wH3 HS => ?_
      have H3 := Lib.hid HS; clear HS
      try clear x0 x1
      obtain ⟨x0, x1, _⟩ := H3.out.1
      go_wp2_with fail
      exact ⟨⟨m + 1, by omega, by go_num, HB.out.trans (H3.out.below.mono HB.out.size)⟩, by simp [intOf]; omega⟩
    · obtain rfl : m = rs.length := by omega
      go_wp2_with fail
      go_ret
      exact ⟨ret_bool rfl, HB.out⟩

/-- How many ints lie in the rows before m; the rows before m marked. -/
def offL (rs : List (List Int)) : Nat → Nat
  | 0 => 0
  | m + 1 => offL rs m + (atR rs m).length
def mkR (rs : List (List Int)) : Nat → List (List Int)
  | 0 => rs
  | m + 1 => (mkR rs m).set m (marksI (1 + offL rs m) (atR rs m).length)
theorem mkR_len (rs : List (List Int)) : ∀ m, (mkR rs m).length = rs.length
  | 0 => rfl
  | m + 1 => by unfold mkR; rw [List.length_set, mkR_len rs m]
theorem mkR_at (rs : List (List Int)) {j : Nat} (hj : j < rs.length) : ∀ m, atR (mkR rs m) j = if j < m then marksI (1 + offL rs j) (atR rs j).length else atR rs j
  | 0 => by simp [mkR]
  | m + 1 => by
    unfold mkR
    rw [atR_set (by rw [mkR_len]; exact hj), mkR_at rs hj m]
    by_cases e : m = j
    · subst e; simp
    · rw [if_neg e]
      by_cases h : j < m
      · rw [if_pos h, if_pos (by omega)]
      · rw [if_neg h, if_neg (by omega)]
theorem off_le {rs : List (List Int)} (h : ∀ j, j < rs.length → (atR rs j).length ≤ 40) : ∀ m, m ≤ rs.length → offL rs m ≤ 40 * m
  | 0, _ => Nat.le_refl _
  | m + 1, hm => by have := off_le h m (by omega); have := h m (by omega); unfold offL; omega

set_option maxRecDepth 100000 in
set_option maxHeartbeats 2000000 in
theorem markIntSS_one {B : Nat} {w : World} {v : Value} {us : List Value} {rs : List (List Int)} (h : FaceV w B v us rs) (h40 : rs.length ≤ 40) (hr : ∀ j, j < rs.length → (atR rs j).length ≤ 40) :
    Calls Tryz.prog 22 #[v, .int .i64 1] w fun e w' => e = .returned (.int .i64 ((1 + offL rs rs.length : Nat) : Int)) ∧ FaceV w' B v us (mkR rs rs.length) ∧ Turn B w.heap.size w w' := by
  obtain ⟨a, c, rfl, -, -⟩ := h.form
  have HF := Lib.hid h; clear h
  have HO := Lib.hid (fun m => off_le hr m)
  have HRR := Lib.hid hr; clear hr
  have HM := Lib.hid (mkR_len rs)
  have HA := Lib.hid (fun m (h : m < rs.length) => (show atR (mkR rs m) m = atR rs m from by rw [mkR_at rs h m, if_neg (by omega)]))
  have HS := Lib.hid (fun m => show mkR rs (m + 1) = (mkR rs m).set m (marksI (1 + offL rs m) (atR rs m).length) from rfl)
  have HOS := Lib.hid (fun m => show offL rs (m + 1) = offL rs m + (atR rs m).length from rfl)
  have HZ := Lib.hid (show offL rs 0 = 0 from rfl)
  have HM0 := Lib.hid (show mkR rs 0 = rs from rfl)
  have HBD := Lib.hid HF.out.bd
  generalize mkR rs = M at *
  generalize offL rs = O at *
  go_enter Tryz.func22, Tryz.ntmps22
  go_wp2_with fail
  go_loopw [1, 5] (fun k i wr => ∃ m : Nat, m ≤ rs.length ∧ i = .int .i64 m ∧ k = .int .i64 ((1 + O m : Nat) : Int) ∧ FaceV wr B (.slice a rs.length c) us (M m) ∧ Turn B w.heap.size w wr) (fun _ i _ => rs.length - (intOf i).toNat)
  case atStart => exact ⟨0, Nat.zero_le _, rfl, by rw [HZ.out]; rfl, by rw [HM0.out]; exact HF.out, Turn.of_below (Below.refl _ _)⟩
  case round =>
    obtain ⟨m, hm, rfl, rfl, hf, ht⟩ := hrel
    have HFM := Lib.hid hf; clear hf
    have HT := Lib.hid ht; clear ht
    by_cases hlt : m < rs.length
    · have hltM : m < (M m).length := by rw [HM.out]; exact hlt
      obtain ⟨g, u, d, rfl, hg, eu, k0, hi⟩ := HFM.out.cellR hltM
      have HFB := Lib.hid (fun k (e : (atV us m).ownBlock = some k) => HBD.out k (.inr ⟨m, by rw [HF.out.len]; exact hlt, e⟩))
      rw [HA.out m hlt] at eu k0 hi
      have hol := HO.out m (by omega)
      have hrl := HRR.out m hlt
      have HC := Lib.hid ((markIntS_any (1 + O m) hi (by omega) (by omega)).mono (fun e w' h => (show e = .returned (.int .i64 ((1 + O (m + 1) : Nat) : Int)) ∧ FaceV w' B (.slice (some ⟨g, 0, none⟩) rs.length c) us (M (m + 1)) ∧ Turn B w.heap.size wr w' from by
        obtain ⟨h1, h2, h3⟩ := h
        rw [← eu] at h2 h3
        refine ⟨?_, ?_, Turn.of_grown h3 fun k e => HFB.out k e⟩
        · rw [h1, HOS.out, Nat.add_assoc]
        · rw [HS.out]; exact HFM.out.mark hltM h2 h3)))
      have p1 : (0 : Int) ≤ m := by omega
      have p2 : (m : Int) < (rs.length : Int) := by omega
      clear hi eu hltM hol hrl
      generalize (atR rs m).length = n at *
      generalize ((1 + O m : Nat) : Int) = z at *
      go_wp2_with fail
      refine HC.out.mono ?_
      rintro e w2 ⟨rfl, hf2, ht2⟩
      have HF2 := Lib.hid hf2; clear hf2
      have HT2 := Lib.hid (HT.out.trans ht2); clear ht2
      go_wp2_with fail
      exact ⟨⟨m + 1, by omega, by go_num, rfl, HF2.out, HT2.out⟩, by simp [intOf]; omega⟩
    · obtain rfl : m = rs.length := by omega
      go_wp2_with fail
      go_ret
      exact ⟨rfl, HFM.out, HT.out⟩

set_option maxRecDepth 100000 in
set_option maxHeartbeats 2000000 in
theorem heldIntSS_one {B : Nat} {w : World} {v : Value} {us : List Value} {rs : List (List Int)} (h : FaceV w B v us (mkR rs rs.length)) (h40 : rs.length ≤ 40) (hr : ∀ j, j < rs.length → (atR rs j).length ≤ 40) :
    Calls Tryz.prog 23 #[v, .int .i64 1] w fun e w' => e = .returned (.int .i64 ((1 + offL rs rs.length : Nat) : Int)) ∧ Below w.heap.size w w' := by
  obtain ⟨a, c, rfl, -, -⟩ := h.form
  have HF := Lib.hid h; clear h
  have HO := Lib.hid (fun m => off_le hr m)
  have HRR := Lib.hid hr; clear hr
  have HM := Lib.hid (mkR_len rs rs.length)
  have HA := Lib.hid (fun m (h : m < rs.length) => (show atR (mkR rs rs.length) m = marksI (1 + offL rs m) (atR rs m).length from by rw [mkR_at rs h _, if_pos h]))
  have HOS := Lib.hid (fun m => show offL rs (m + 1) = offL rs m + (atR rs m).length from rfl)
  have HZ := Lib.hid (show offL rs 0 = 0 from rfl)
  rw [mkR_len]
  generalize mkR rs rs.length = M at *
  generalize offL rs = O at *
  go_enter Tryz.func23, Tryz.ntmps23
  go_wp2_with fail
  go_loopw [1, 5] (fun k i wr => ∃ m : Nat, m ≤ rs.length ∧ i = .int .i64 m ∧ k = .int .i64 ((1 + O m : Nat) : Int) ∧ Below w.heap.size w wr) (fun _ i _ => rs.length - (intOf i).toNat)
  case atStart => exact ⟨0, Nat.zero_le _, rfl, by rw [HZ.out]; rfl, Below.refl _ _⟩
  case round =>
    obtain ⟨m, hm, rfl, rfl, hbb⟩ := hrel
    have HB := Lib.hid hbb; clear hbb
    by_cases hlt : m < rs.length
    · have hltM : m < M.length := by rw [HM.out]; exact hlt
      have HFW := Lib.hid (HF.out.step HB.out)
      rw [HM.out] at HFW
      obtain ⟨g, u, d, rfl, hg, -, k0, hi⟩ := HFW.out.cellR hltM
      rw [HA.out m hlt] at k0 hi
      rw [marksI_length] at k0 hi
      have hol := HO.out m (by omega)
      have hrl := HRR.out m hlt
      have HC := Lib.hid ((heldIntS_any (1 + O m) (atR rs m).length hi (by omega) (by omega)).mono (fun e w' h => (show e = .returned (.int .i64 ((1 + O (m + 1) : Nat) : Int)) ∧ Below wr.heap.size wr w' from by
        obtain ⟨h1, n, rfl⟩ := h
        exact ⟨by rw [h1, HOS.out, Nat.add_assoc], below_drewN (Below.refl _ _) n⟩)))
      have p1 : (0 : Int) ≤ m := by omega
      have p2 : (m : Int) < (rs.length : Int) := by omega
      obtain ⟨z2, hz2, hz20⟩ : ∃ z2 : Int, ((1 + O (m + 1) : Nat) : Int) = z2 ∧ 0 ≤ z2 := ⟨_, rfl, by omega⟩
      rw [hz2] at HC
      have HZ2 := Lib.hid hz2; clear hz2
      clear hi hltM hol hrl HFW
      generalize (atR rs m).length = n at *
      generalize ((1 + O m : Nat) : Int) = z at *
      go_wp2_with fail
      refine HC.out.mono ?_
      rintro e w2 ⟨rfl, hb2⟩
      have HB2 := Lib.hid (HB.out.trans (hb2.mono HB.out.size)); clear hb2
      go_wp2_with fail
      exact ⟨⟨m + 1, by omega, by go_num, by rw [HZ2.out], HB2.out⟩, by simp [intOf]; omega⟩
    · obtain rfl : m = rs.length := by omega
      go_wp2_with fail
      go_ret
      exact ⟨rfl, HB.out⟩
end Go.Proofs.YtnonebfdognlmaaGreat
