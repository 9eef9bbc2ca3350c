/-
  Saddle bars: heights in ascending order, of the model and of the program.
-/
import Derived.Test.YtfppnaknnijobaaTri
import Derived.Test.YtfppnaknnijobaaDet
import Derived.BigQuiet
namespace Go.Proofs.Ytfppnaknnijobaa
open Go.RowKit
set_option linter.unusedVariables false
set_option linter.unusedSimpArgs false

theorem seq_at {W : World} {n c : Nat} {A : Option Addr} {L : List Int} (h : Seq W (.slice A n c) L) : ∀ k, k < L.length → ∃ b o, A = some ⟨b, o, none⟩ ∧ b < W.heap.size ∧ ∀ j, j < L.length → W.cell? ⟨b, o + j, none⟩ = some (.int .i64 (atZ L j)) := by
  obtain ⟨A', c', e, _, _, hx⟩ := h
  injection e with e1 _ _
  intro k hk
  obtain ⟨b, o, ha, hb, hc⟩ := hx (by omega)
  exact ⟨b, o, e1.trans ha, hb, hc⟩

structure BarsP (xs : List Int) : Prop where
  inr : ∀ k, k < xs.length → 0 ≤ atZ xs k ∧ atZ xs k ≤ 20
  up : ∀ k, k + 1 < xs.length → atZ xs k < atZ xs (k + 1)
  few : xs.length ≤ 10
open Classical in
noncomputable def barB (xs : List Int) : Bool := decide (BarsP xs)
theorem barB_iff (xs : List Int) : barB xs = true ↔ BarsP xs := by unfold barB; simp
theorem inR_iff (xs : List Int) (a b : Int) : inR xs a b = true ↔ ∀ k, k < xs.length → a ≤ atZ xs k ∧ atZ xs k ≤ b := by
  unfold inR
  rw [List.all_eq_true]
  constructor
  · intro h k hk
    have := h _ (List.getElem_mem hk)
    rw [atZ_get hk] at this
    exact (inB_iff _ _ _).1 this
  · intro h x hx
    obtain ⟨k, hk, rfl⟩ := List.getElem_of_mem hx
    rw [atZ_get hk]
    exact (inB_iff _ _ _).2 (h k hk)

set_option maxRecDepth 100000 in
theorem specBars (xs : List Int) (v : Value) (w : World) (hv : Seq w v xs) : Calls Try.prog 53 #[v] w (BoolIs (barB xs) w) := by
  have hlen := hv.len
  have HV := Lib.hid hv
  obtain ⟨A, c, rfl, _, _, _⟩ := hv.form
  clear hv
  have HR := Lib.hid (barB_iff xs)
  generalize barB xs = r at *
  go_enter Try.func53, Try.ntmps53
  go_wp2_with fail
  go_loopw [3] (fun i wr => ∃ m : Nat, m ≤ xs.length ∧ i = .int .i64 m ∧ (∀ k, k < m → 0 ≤ atZ xs k ∧ atZ xs k ≤ 20) ∧ (∀ k, k + 1 < m → atZ xs k < atZ xs (k + 1)) ∧ Below w.heap.size w wr) (fun i _ => xs.length - (intOf i).toNat)
  case atStart => exact ⟨0, Nat.zero_le _, rfl, fun k h => absurd h (by omega), fun k h => absurd h (by omega), Below.refl _ _⟩
  case round =>
    obtain ⟨m, hm, rfl, ha, hu, hb⟩ := hrel
    have HA := Lib.hid ha; clear ha
    have HU := Lib.hid hu; clear hu
    have HB := Lib.hid hb; clear hb
    by_cases hlt : m < xs.length
    · obtain ⟨bb, o, rfl, hbl, hcs⟩ := seq_at (HV.out.step HB.out) m hlt
      have c0 := hcs m hlt
      have c1 := hcs (m - 1) (by omega)
      clear hcs
      have HZ := Lib.hid (show ∀ k, k < m + 1 → k < m ∨ k = m from fun k h => by omega)
      have hz1 : (m : Int) < (xs.length : Int) := by omega
      have hz2 : (0 : Int) ≤ m := by omega
      have hz3 : ((m - 1 : Nat) : Int) < (xs.length : Int) := by omega
      have hz4 : (0 : Int) ≤ ((m - 1 : Nat) : Int) := by omega
      have HX := Lib.hid (fun w => specInB (atZ xs m) 0 20 w)
      have HI := Lib.hid (inB_iff (atZ xs m) 0 20)
      generalize hz : atZ xs m = z at *
      generalize hy : atZ xs (m - 1) = y at *
      have HZM := Lib.hid hz; clear hz
      have HYM := Lib.hid hy; clear hy
      generalize inB z 0 20 = b at *
      have H0 := Lib.hid (Held.start (w := wr) (fs := [(bb, o + m, .int .i64 z), (bb, o + (m - 1), .int .i64 y)]) ⟨c0, c1, trivial⟩ ⟨hbl, hbl, trivial⟩)
      clear c0 c1
      have hsz := HB.out.size
      cases b
      · skip
        go_wp2_with fail
        refine regionD (S := fun W => Held _ W [(bb, o + m, .int .i64 (z)), (bb, o + (m - 1), .int .i64 (y))]) (by kernel_rfl) H0.out.drew ?_
        iterate 22 (refine takeT (v := ?_) rfl (by kernel_rfl) (by kernel_rfl) (by kernel_rfl) ?_ ?_; rotate_left; (first | (refine Or.inr ⟨by rfl, ?_⟩; with_reducible rfl) | (refine Or.inl ⟨by rfl, fun W hS => detRes_value (w' := W) ?_ hS⟩; obtain ⟨x0, x1, _⟩ := hS.1; go_simp; first | done | with_reducible rfl) | (refine Or.inl ⟨by rfl, fun W hS => ?_⟩; refine detRes_call (w' := W) (f := ?_) (args := ?_) ?_ ?_; rotate_left 2; (go_simp; (refine ⟨?_, ?_⟩ <;> with_reducible rfl)); (first | (with_reducible refine (HX.out _).mono ?_) | fail); (first | (rintro e wn ⟨rfl, hb⟩; refine ⟨?_, hS.step hb⟩; with_reducible rfl) | (rintro e wn ⟨rfl, rfl⟩; refine ⟨?_, hS⟩; with_reducible rfl) | fail)) | fail); (simp only [Act.put, List.setIfInBounds_toArray, List.set_cons_zero, List.set_cons_succ]))
        refine doneD (by kernel_rfl) fun wH1 HS => ?_
        have H1 := Lib.hid HS; clear HS
        try clear x0 x1
        obtain ⟨x0, x1, _⟩ := H1.out.1
        go_wp2_with fail
        go_ret
        exact ⟨ret_bool (by by_cases hr : r = true; (· have h1 := (HR.out.1 hr).inr m hlt; rw [HZM.out] at h1; have := HI.out.2 h1; cases this); (· simpa using hr)), HB.out.trans (H1.out.below.mono hsz)⟩
      have HI2 := Lib.hid (HI.out.1 rfl)
      by_cases h0 : 0 < m
      · have g0 : decide (0 < m) = true := by simpa using h0
        have h0i : (0 : Int) < m := by omega
        have ew : IntKind.i64.wrap ((m : Int) - 1) = ((m - 1 : Nat) : Int) := by rw [IntWalk.i64_in _ (by omega)]; omega
        by_cases hzy : z ≤ y
        · have HZY := Lib.hid hzy
          go_wp2_with fail
          refine regionD (S := fun W => Held _ W [(bb, o + m, .int .i64 (z)), (bb, o + (m - 1), .int .i64 (y))]) (by kernel_rfl) H0.out.drew ?_
          iterate 22 (refine takeT (v := ?_) rfl (by kernel_rfl) (by kernel_rfl) (by kernel_rfl) ?_ ?_; rotate_left; (first | (refine Or.inr ⟨by rfl, ?_⟩; with_reducible rfl) | (refine Or.inl ⟨by rfl, fun W hS => detRes_value (w' := W) ?_ hS⟩; obtain ⟨x0, x1, _⟩ := hS.1; go_simp; first | done | with_reducible rfl) | (refine Or.inl ⟨by rfl, fun W hS => ?_⟩; refine detRes_call (w' := W) (f := ?_) (args := ?_) ?_ ?_; rotate_left 2; (go_simp; (refine ⟨?_, ?_⟩ <;> with_reducible rfl)); (first | (with_reducible refine (HX.out _).mono ?_) | fail); (first | (rintro e wn ⟨rfl, hb⟩; refine ⟨?_, hS.step hb⟩; with_reducible rfl) | (rintro e wn ⟨rfl, rfl⟩; refine ⟨?_, hS⟩; with_reducible rfl) | fail)) | fail); (simp only [Act.put, List.setIfInBounds_toArray, List.set_cons_zero, List.set_cons_succ]))
          refine doneD (by kernel_rfl) fun wH1 HS => ?_
          have H1 := Lib.hid HS; clear HS
          try clear x0 x1
          obtain ⟨x0, x1, _⟩ := H1.out.1
          go_wp2_with fail
          go_ret
          exact ⟨ret_bool (by by_cases hr : r = true; (· have h1 := (HR.out.1 hr).up (m - 1) (by omega); rw [show m - 1 + 1 = m from by omega, HZM.out, HYM.out] at h1; have := HZY.out; omega); (· simpa using hr)), HB.out.trans (H1.out.below.mono hsz)⟩
        · have HZY := Lib.hid hzy
          go_wp2_with fail
          refine regionD (S := fun W => Held _ W [(bb, o + m, .int .i64 (z)), (bb, o + (m - 1), .int .i64 (y))]) (by kernel_rfl) H0.out.drew ?_
          iterate 22 (refine takeT (v := ?_) rfl (by kernel_rfl) (by kernel_rfl) (by kernel_rfl) ?_ ?_; rotate_left; (first | (refine Or.inr ⟨by rfl, ?_⟩; with_reducible rfl) | (refine Or.inl ⟨by rfl, fun W hS => detRes_value (w' := W) ?_ hS⟩; obtain ⟨x0, x1, _⟩ := hS.1; go_simp; first | done | with_reducible rfl) | (refine Or.inl ⟨by rfl, fun W hS => ?_⟩; refine detRes_call (w' := W) (f := ?_) (args := ?_) ?_ ?_; rotate_left 2; (go_simp; (refine ⟨?_, ?_⟩ <;> with_reducible rfl)); (first | (with_reducible refine (HX.out _).mono ?_) | fail); (first | (rintro e wn ⟨rfl, hb⟩; refine ⟨?_, hS.step hb⟩; with_reducible rfl) | (rintro e wn ⟨rfl, rfl⟩; refine ⟨?_, hS⟩; with_reducible rfl) | fail)) | fail); (simp only [Act.put, List.setIfInBounds_toArray, List.set_cons_zero, List.set_cons_succ]))
          refine doneD (by kernel_rfl) fun wH1 HS => ?_
          have H1 := Lib.hid HS; clear HS
          try clear x0 x1
          obtain ⟨x0, x1, _⟩ := H1.out.1
          go_wp2_with fail
          exact ⟨⟨m + 1, by omega, by go_num, fun k h => by rcases HZ.out k h with h | rfl; exact HA.out k h; rw [HZM.out]; exact HI2.out, fun k h => by
            rcases HZ.out (k + 1) h with h | h
            · exact HU.out k h
            · rw [h, HZM.out, show k = m - 1 from by omega, HYM.out]; have := HZY.out; omega, HB.out.trans (H1.out.below.mono hsz)⟩, by simp [intOf]; omega⟩
      · obtain rfl : m = 0 := by omega
        have H00 := Lib.hid (Held.start (w := wr) (fs := [(bb, o, .int .i64 z)]) ⟨by have := H0.out.1.1; simpa using this, trivial⟩ ⟨hbl, trivial⟩)
        go_wp2_with fail
        refine regionD (S := fun W => Held _ W [(bb, o, .int .i64 (z))]) (by kernel_rfl) H00.out.drew ?_
        iterate 22 (refine takeT (v := ?_) rfl (by kernel_rfl) (by kernel_rfl) (by kernel_rfl) ?_ ?_; rotate_left; (first | (refine Or.inr ⟨by rfl, ?_⟩; with_reducible rfl) | (refine Or.inl ⟨by rfl, fun W hS => detRes_value (w' := W) ?_ hS⟩; obtain ⟨x0, _⟩ := hS.1; go_simp; first | done | with_reducible rfl) | (refine Or.inl ⟨by rfl, fun W hS => ?_⟩; refine detRes_call (w' := W) (f := ?_) (args := ?_) ?_ ?_; rotate_left 2; (go_simp; (refine ⟨?_, ?_⟩ <;> with_reducible rfl)); (first | (with_reducible refine (HX.out _).mono ?_) | fail); (first | (rintro e wn ⟨rfl, hb⟩; refine ⟨?_, hS.step hb⟩; with_reducible rfl) | (rintro e wn ⟨rfl, rfl⟩; refine ⟨?_, hS⟩; with_reducible rfl) | fail)) | fail); (simp only [Act.put, List.setIfInBounds_toArray, List.set_cons_zero, List.set_cons_succ]))
        refine doneD (by kernel_rfl) fun wH1 HS => ?_
        have H1 := Lib.hid HS; clear HS
        try clear x0
        obtain ⟨x0, _⟩ := H1.out.1
        go_wp2_with fail
        exact ⟨⟨0 + 1, by omega, by go_num, fun k h => by rcases HZ.out k h with h | rfl; exact HA.out k h; rw [HZM.out]; exact HI2.out, fun k h => absurd h (by omega), HB.out.trans (H1.out.below.mono hsz)⟩, by simp [intOf]; omega⟩
    · obtain rfl : m = xs.length := by omega
      go_wp2_with fail
      all_goals
        go_ret
        exact ⟨ret_bool (by
          rw [Bool.eq_iff_iff, HR.out]
          constructor
          · intro h; simp at h; exact ⟨HA.out, HU.out, by omega⟩
          · intro h; have := h.few; simp; omega), HB.out⟩

set_option maxRecDepth 100000 in
theorem implBars (xs : List Int) (v : Value) (w : World) (hv : Seq w v xs) : Calls Try.prog 57 #[v] w (BoolIs (barB xs) w) := by
  have hlen := hv.len
  have HV := Lib.hid hv
  have HX := Lib.hid (fun w h => implInR xs v 0 20 w h)
  have HI := Lib.hid (inR_iff xs 0 20)
  obtain ⟨A, c, rfl, _, _, _⟩ := hv.form
  clear hv
  have HR := Lib.hid (barB_iff xs)
  have H0 := Lib.hid (Held.none_ w)
  generalize barB xs = r at *
  generalize inR xs 0 20 = b at *
  by_cases h10 : 10 < xs.length
  · have HT := Lib.hid h10
    have hz10 : (10 : Int) < (xs.length : Int) := by omega
    go_enter Try.func57, Try.ntmps57
    go_wp2_with fail
    go_ret
    exact ⟨ret_bool (by by_cases hr : r = true; (· have := (HR.out.1 hr).few; have := HT.out; omega); (· simpa using hr)), Below.refl _ _⟩
  have hz10 : (xs.length : Int) ≤ 10 := by omega
  cases b
  · go_enter Try.func57, Try.ntmps57
    go_wp2_with fail
    refine (HX.out _ HV.out).mono ?_
    rintro e wH1 ⟨rfl, hb⟩
    have H1 := Lib.hid ((H0.out).step hb); clear hb
    go_wp2_with fail
    go_ret
    exact ⟨ret_bool (by by_cases hr : r = true; (· have := HI.out.2 (HR.out.1 hr).inr; cases this); (· simpa using hr)), H1.out.below⟩
  have HI2 := Lib.hid (HI.out.1 rfl)
  have HT := Lib.hid h10
  go_enter Try.func57, Try.ntmps57
  go_wp2_with fail
  all_goals first | (exfalso; have := HT.out; omega) | skip
  refine (HX.out _ HV.out).mono ?_
  rintro e wH1 ⟨rfl, hb⟩
  have H1 := Lib.hid ((H0.out).step hb); clear hb
  go_wp2_with fail
  have HB1 := Lib.hid H1.out.below
  go_loopw [3] (fun i wr => ∃ m : Nat, m ≤ xs.length + 1 ∧ i = .int .i64 ((m + 1 : Nat) : Int) ∧ (∀ k, k < m → k + 1 < xs.length → atZ xs k < atZ xs (k + 1)) ∧ Below w.heap.size w wr) (fun i _ => xs.length + 1 - (intOf i).toNat)
  case atStart => exact ⟨0, Nat.zero_le _, rfl, fun k h => absurd h (by omega), HB1.out⟩
  case round =>
    clear H0 H1 HB1
    obtain ⟨m, hm, rfl, hu, hb⟩ := hrel
    have HU := Lib.hid hu; clear hu
    have HB := Lib.hid hb; clear hb
    by_cases hlt : m + 1 < xs.length
    · obtain ⟨bb, o, rfl, hbl, hcs⟩ := seq_at (HV.out.step HB.out) m (by omega)
      have c0 := hcs (m + 1) hlt
      have c1 := hcs m (by omega)
      clear hcs
      have hz1 : ((m + 1 : Nat) : Int) < (xs.length : Int) := by omega
      have hz2 : (0 : Int) ≤ ((m + 1 : Nat) : Int) := by omega
      have hz3 : (m : Int) < (xs.length : Int) := by omega
      have hz4 : (0 : Int) ≤ (m : Int) := by omega
      have ew : IntKind.i64.wrap (((m + 1 : Nat) : Int) - 1) = (m : Int) := by rw [IntWalk.i64_in _ (by omega)]; omega
      have ew2 : IntKind.i64.wrap ((m : Int) + 1 - 1) = (m : Int) := by rw [IntWalk.i64_in _ (by omega)]; omega
      have en : IntKind.i64.wrap (((m + 1 : Nat) : Int) + 1) = ((m + 1 + 1 : Nat) : Int) := by rw [IntWalk.i64_in _ (by omega)]; omega
      have HN := Lib.hid (show ∀ k, k < m + 1 → k < m ∨ k = m from fun k h => by omega)
      generalize hz : atZ xs (m + 1) = z at *
      generalize hy : atZ xs m = y at *
      have HZM := Lib.hid hz; clear hz
      have HYM := Lib.hid hy; clear hy
      by_cases hzy : z ≤ y
      · have HZY := Lib.hid hzy
        go_wp2_with fail
        go_quiet (fail)
        go_wp2_with fail
        go_ret
        exact ⟨ret_bool (by by_cases hr : r = true; (· have h1 := (HR.out.1 hr).up m hlt; rw [HZM.out, HYM.out] at h1; have := HZY.out; omega); (· simpa using hr)), below_drewN HB.out _⟩
      · have HZY := Lib.hid hzy
        go_wp2_with fail
        go_quiet (fail)
        go_wp2_with fail
        exact ⟨⟨m + 1, by omega, congrArg (Value.int .i64) (by omega), fun k h h2 => by
          rcases HN.out k h with h | rfl
          · exact HU.out k h h2
          · rw [HZM.out, HYM.out]; have := HZY.out; omega, below_drewN HB.out _⟩, by simp [intOf]; omega⟩
    · have HLT := Lib.hid hlt
      go_wp2_with fail
      go_ret
      exact ⟨ret_bool (HR.out.2 ⟨HI2.out, fun k h => HU.out k (by have := HLT.out; omega) h, by have := HT.out; omega⟩).symm, HB.out⟩
end Go.Proofs.Ytfppnaknnijobaa
