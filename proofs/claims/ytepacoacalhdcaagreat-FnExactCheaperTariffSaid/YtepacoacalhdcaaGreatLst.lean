/-
  Lists of ascending indices, of the model and of the program.
-/
import Derived.Test.YtepacoacalhdcaaGreatG22
namespace Go.Proofs.YtepacoacalhdcaaGreat
open Go.RowKit
set_option linter.unusedVariables false
set_option linter.unusedSimpArgs false

structure LstP (n : Nat) (xs : List Int) : Prop where
  inr : ∀ k, k < xs.length → 0 ≤ atZ xs k ∧ atZ xs k ≤ (n : Int) - 1
  up : ∀ k, k + 1 < xs.length → atZ xs k < atZ xs (k + 1)

open Classical in
noncomputable def lstB (n : Nat) (xs : List Int) : Bool := decide (LstP n xs)

theorem lstB_iff (n : Nat) (xs : List Int) : lstB n xs = true ↔ LstP n xs := by unfold lstB; simp

theorem LstP.low {n : Nat} {xs : List Int} (h : LstP n xs) : ∀ k, k < xs.length → (k : Int) ≤ atZ xs k
  | 0, hk => by have := (h.inr 0 hk).1; omega
  | k + 1, hk => by have := h.low k (by omega); have := h.up k hk; omega

theorem LstP.len {n : Nat} {xs : List Int} (h : LstP n xs) : xs.length ≤ n := by
  by_cases h0 : xs.length = 0
  · omega
  · have := h.low (xs.length - 1) (by omega)
    have := (h.inr (xs.length - 1) (by omega)).2
    omega

set_option maxRecDepth 100000 in
theorem specLst (n : Nat) (xs : List Int) (v : Value) (w : World) (hv : Seq w v xs) (hn : (n : Int) ≤ 9223372036854775807) : Calls Tryz.prog 96 #[.int .i64 n, v] w (BoolIs (lstB n xs) w) := by
  have hlen := hv.len
  have HV := Lib.hid hv
  obtain ⟨A, c, rfl, _, _, _⟩ := hv.form
  clear hv
  have HR := Lib.hid (lstB_iff n xs)
  generalize lstB n xs = r at *
  have ewn : IntKind.i64.wrap ((n : Int) - 1) = (n : Int) - 1 := IntWalk.i64_in _ (by omega)
  go_enter Tryz.func96, Tryz.ntmps96
  go_wp2_with fail
  go_loopw [5] (fun i wr => ∃ m : Nat, m ≤ xs.length ∧ i = .int .i64 m ∧ (∀ k, k < m → 0 ≤ atZ xs k ∧ atZ xs k ≤ (n : Int) - 1) ∧ (∀ k, k + 1 < m → atZ xs k < atZ xs (k + 1)) ∧ Below w.heap.size w wr) (fun i _ => xs.length - (intOf i).toNat)
  case atStart => exact ⟨0, Nat.zero_le _, rfl, fun k h => absurd h (by omega), fun k h => absurd h (by omega), Below.refl _ _⟩
  case round =>
    obtain ⟨m, hm, rfl, ha, hu, hb⟩ := hrel
    have HA := Lib.hid ha; clear ha
    have HU := Lib.hid hu; clear hu
    have HB := Lib.hid hb; clear hb
    by_cases hlt : m < xs.length
    · obtain ⟨bb, o, rfl, hbl, hcs⟩ := seq_at (HV.out.step HB.out) m hlt
      have c0 := hcs m hlt
      have c1 := hcs (m - 1) (by omega)
      clear hcs
      have HZ := Lib.hid (show ∀ k, k < m + 1 → k < m ∨ k = m from fun k h => by omega)
      have hz1 : (m : Int) < (xs.length : Int) := by omega
      have hz2 : (0 : Int) ≤ m := by omega
      have hz3 : ((m - 1 : Nat) : Int) < (xs.length : Int) := by omega
      have hz4 : (0 : Int) ≤ ((m - 1 : Nat) : Int) := by omega
      have HX := Lib.hid (fun w => specInB (atZ xs m) 0 ((n : Int) - 1) w)
      have HI := Lib.hid (inB_iff (atZ xs m) 0 ((n : Int) - 1))
      generalize hz : atZ xs m = z at *
      generalize hy : atZ xs (m - 1) = y at *
      have HZM := Lib.hid hz; clear hz
      have HYM := Lib.hid hy; clear hy
      generalize inB z 0 ((n : Int) - 1) = b at *
      have H0 := Lib.hid (Held.start (w := wr) (fs := [(bb, o + m, .int .i64 z), (bb, o + (m - 1), .int .i64 y)]) ⟨c0, c1, trivial⟩ ⟨hbl, hbl, trivial⟩)
      clear c0 c1
      have hsz := HB.out.size
      cases b
      · skip
        go_wp2_with fail
        refine regionD (S := fun W => Held _ W [(bb, o + m, .int .i64 (z)), (bb, o + (m - 1), .int .i64 (y))]) (by kernel_rfl) H0.out.drew ?_
        iterate 24 (refine takeT (v := ?_) rfl (by kernel_rfl) (by kernel_rfl) (by kernel_rfl) ?_ ?_; rotate_left; (first | (refine Or.inr ⟨by rfl, ?_⟩; with_reducible rfl) | (refine Or.inl ⟨by rfl, fun W hS => detRes_value (w' := W) ?_ hS⟩; obtain ⟨x0, x1, _⟩ := hS.1; go_simp; first | done | with_reducible rfl) | (refine Or.inl ⟨by rfl, fun W hS => ?_⟩; refine detRes_call (w' := W) (f := ?_) (args := ?_) ?_ ?_; rotate_left 2; (go_simp; (refine ⟨?_, ?_⟩ <;> with_reducible rfl)); (first | (with_reducible refine (HX.out _).mono ?_) | fail); (first | (rintro e wn ⟨rfl, hb⟩; refine ⟨?_, hS.step hb⟩; with_reducible rfl) | (rintro e wn ⟨rfl, rfl⟩; refine ⟨?_, hS⟩; with_reducible rfl) | fail)) | fail); (simp only [Act.put, List.setIfInBounds_toArray, List.set_cons_zero, List.set_cons_succ]))
        refine doneD (by kernel_rfl) fun wH1 HS => ?_
        have H1 := Lib.hid HS; clear HS
        try clear x0 x1
        obtain ⟨x0, x1, _⟩ := H1.out.1
        go_wp2_with fail
        go_ret
        exact ⟨ret_bool (by by_cases hr : r = true; (· have h1 := (HR.out.1 hr).inr m hlt; rw [HZM.out] at h1; have := HI.out.2 h1; cases this); (· simpa using hr)), HB.out.trans (H1.out.below.mono hsz)⟩
      have HI2 := Lib.hid (HI.out.1 rfl)
      by_cases h0 : 0 < m
      · have g0 : decide (0 < m) = true := by simpa using h0
        have h0i : (0 : Int) < m := by omega
        have ew : IntKind.i64.wrap ((m : Int) - 1) = ((m - 1 : Nat) : Int) := by rw [IntWalk.i64_in _ (by omega)]; omega
        by_cases hzy : z ≤ y
        · have HZY := Lib.hid hzy
          go_wp2_with fail
          refine regionD (S := fun W => Held _ W [(bb, o + m, .int .i64 (z)), (bb, o + (m - 1), .int .i64 (y))]) (by kernel_rfl) H0.out.drew ?_
          iterate 24 (refine takeT (v := ?_) rfl (by kernel_rfl) (by kernel_rfl) (by kernel_rfl) ?_ ?_; rotate_left; (first | (refine Or.inr ⟨by rfl, ?_⟩; with_reducible rfl) | (refine Or.inl ⟨by rfl, fun W hS => detRes_value (w' := W) ?_ hS⟩; obtain ⟨x0, x1, _⟩ := hS.1; go_simp; first | done | with_reducible rfl) | (refine Or.inl ⟨by rfl, fun W hS => ?_⟩; refine detRes_call (w' := W) (f := ?_) (args := ?_) ?_ ?_; rotate_left 2; (go_simp; (refine ⟨?_, ?_⟩ <;> with_reducible rfl)); (first | (with_reducible refine (HX.out _).mono ?_) | fail); (first | (rintro e wn ⟨rfl, hb⟩; refine ⟨?_, hS.step hb⟩; with_reducible rfl) | (rintro e wn ⟨rfl, rfl⟩; refine ⟨?_, hS⟩; with_reducible rfl) | fail)) | fail); (simp only [Act.put, List.setIfInBounds_toArray, List.set_cons_zero, List.set_cons_succ]))
          refine doneD (by kernel_rfl) fun wH1 HS => ?_
          have H1 := Lib.hid HS; clear HS
          try clear x0 x1
          obtain ⟨x0, x1, _⟩ := H1.out.1
          go_wp2_with fail
          go_ret
          exact ⟨ret_bool (by by_cases hr : r = true; (· have h1 := (HR.out.1 hr).up (m - 1) (by omega); rw [show m - 1 + 1 = m from by omega, HZM.out, HYM.out] at h1; have := HZY.out; omega); (· simpa using hr)), HB.out.trans (H1.out.below.mono hsz)⟩
        · have HZY := Lib.hid hzy
          go_wp2_with fail
          refine regionD (S := fun W => Held _ W [(bb, o + m, .int .i64 (z)), (bb, o + (m - 1), .int .i64 (y))]) (by kernel_rfl) H0.out.drew ?_
          iterate 24 (refine takeT (v := ?_) rfl (by kernel_rfl) (by kernel_rfl) (by kernel_rfl) ?_ ?_; rotate_left; (first | (refine Or.inr ⟨by rfl, ?_⟩; with_reducible rfl) | (refine Or.inl ⟨by rfl, fun W hS => detRes_value (w' := W) ?_ hS⟩; obtain ⟨x0, x1, _⟩ := hS.1; go_simp; first | done | with_reducible rfl) | (refine Or.inl ⟨by rfl, fun W hS => ?_⟩; refine detRes_call (w' := W) (f := ?_) (args := ?_) ?_ ?_; rotate_left 2; (go_simp; (refine ⟨?_, ?_⟩ <;> with_reducible rfl)); (first | (with_reducible refine (HX.out _).mono ?_) | fail); (first | (rintro e wn ⟨rfl, hb⟩; refine ⟨?_, hS.step hb⟩; with_reducible rfl) | (rintro e wn ⟨rfl, rfl⟩; refine ⟨?_, hS⟩; with_reducible rfl) | fail)) | fail); (simp only [Act.put, List.setIfInBounds_toArray, List.set_cons_zero, List.set_cons_succ]))
          refine doneD (by kernel_rfl) fun wH1 HS => ?_
          have H1 := Lib.hid HS; clear HS
          try clear x0 x1
          obtain ⟨x0, x1, _⟩ := H1.out.1
          go_wp2_with fail
          exact ⟨⟨m + 1, by omega, by go_num, fun k h => by rcases HZ.out k h with h | rfl; exact HA.out k h; rw [HZM.out]; exact HI2.out, fun k h => by
            rcases HZ.out (k + 1) h with h | h
            · exact HU.out k h
            · rw [h, HZM.out, show k = m - 1 from by omega, HYM.out]; have := HZY.out; omega, HB.out.trans (H1.out.below.mono hsz)⟩, by simp [intOf]; omega⟩
      · obtain rfl : m = 0 := by omega
        have H00 := Lib.hid (Held.start (w := wr) (fs := [(bb, o, .int .i64 z)]) ⟨by have := H0.out.1.1; simpa using this, trivial⟩ ⟨hbl, trivial⟩)
        go_wp2_with fail
        refine regionD (S := fun W => Held _ W [(bb, o, .int .i64 (z))]) (by kernel_rfl) H00.out.drew ?_
        iterate 24 (refine takeT (v := ?_) rfl (by kernel_rfl) (by kernel_rfl) (by kernel_rfl) ?_ ?_; rotate_left; (first | (refine Or.inr ⟨by rfl, ?_⟩; with_reducible rfl) | (refine Or.inl ⟨by rfl, fun W hS => detRes_value (w' := W) ?_ hS⟩; obtain ⟨x0, _⟩ := hS.1; go_simp; first | done | with_reducible rfl) | (refine Or.inl ⟨by rfl, fun W hS => ?_⟩; refine detRes_call (w' := W) (f := ?_) (args := ?_) ?_ ?_; rotate_left 2; (go_simp; (refine ⟨?_, ?_⟩ <;> with_reducible rfl)); (first | (with_reducible refine (HX.out _).mono ?_) | fail); (first | (rintro e wn ⟨rfl, hb⟩; refine ⟨?_, hS.step hb⟩; with_reducible rfl) | (rintro e wn ⟨rfl, rfl⟩; refine ⟨?_, hS⟩; with_reducible rfl) | fail)) | fail); (simp only [Act.put, List.setIfInBounds_toArray, List.set_cons_zero, List.set_cons_succ]))
        refine doneD (by kernel_rfl) fun wH1 HS => ?_
        have H1 := Lib.hid HS; clear HS
        try clear x0
        obtain ⟨x0, _⟩ := H1.out.1
        go_wp2_with fail
        exact ⟨⟨0 + 1, by omega, by go_num, fun k h => by rcases HZ.out k h with h | rfl; exact HA.out k h; rw [HZM.out]; exact HI2.out, fun k h => absurd h (by omega), HB.out.trans (H1.out.below.mono hsz)⟩, by simp [intOf]; omega⟩
    · obtain rfl : m = xs.length := by omega
      go_wp2_with fail
      all_goals
        go_ret
        exact ⟨ret_bool (HR.out.2 ⟨HA.out, HU.out⟩).symm, HB.out⟩

set_option maxRecDepth 100000 in
theorem implLst (n : Nat) (xs : List Int) (v : Value) (w : World) (hv : Seq w v xs) (hn : (n : Int) ≤ 9223372036854775807) : Calls Tryz.prog 150 #[v, .int .i64 n] w (BoolIs (lstB n xs) w) := by
  have hlen := hv.len
  have HV := Lib.hid hv
  obtain ⟨A, c, rfl, _, _, _⟩ := hv.form
  clear hv
  have HR := Lib.hid (lstB_iff n xs)
  generalize lstB n xs = r at *
  go_enter Tryz.func150, Tryz.ntmps150
  go_wp2_with fail
  go_loopw [9] (fun i wr => ∃ m : Nat, m ≤ xs.length ∧ i = .int .i64 m ∧ (∀ k, k < m → 0 ≤ atZ xs k ∧ atZ xs k ≤ (n : Int) - 1) ∧ (∀ k, k + 1 < m → atZ xs k < atZ xs (k + 1)) ∧ Below w.heap.size w wr) (fun i _ => xs.length - (intOf i).toNat)
  case atStart => exact ⟨0, Nat.zero_le _, rfl, fun k h => absurd h (by omega), fun k h => absurd h (by omega), Below.refl _ _⟩
  case round =>
    obtain ⟨m, hm, rfl, ha, hu, hb⟩ := hrel
    have HA := Lib.hid ha; clear ha
    have HU := Lib.hid hu; clear hu
    have HB := Lib.hid hb; clear hb
    by_cases hlt : m < xs.length
    · obtain ⟨bb, o, rfl, hbl, hcs⟩ := seq_at (HV.out.step HB.out) m hlt
      have c0 := hcs m hlt
      have c1 := hcs (m - 1) (by omega)
      clear hcs
      have HZ := Lib.hid (show ∀ k, k < m + 1 → k < m ∨ k = m from fun k h => by omega)
      have hz1 : (m : Int) < (xs.length : Int) := by omega
      have hz2 : (0 : Int) ≤ m := by omega
      have hz3 : ((m - 1 : Nat) : Int) < (xs.length : Int) := by omega
      have hz4 : (0 : Int) ≤ ((m - 1 : Nat) : Int) := by omega
      generalize hz : atZ xs m = z at *
      generalize hy : atZ xs (m - 1) = y at *
      have HZM := Lib.hid hz; clear hz
      have HYM := Lib.hid hy; clear hy
      by_cases h1 : z < 0
      · have HH := Lib.hid h1
        go_wp2_with fail
        go_ret
        exact ⟨ret_bool (by by_cases hr : r = true; (· have h2 := (HR.out.1 hr).inr m hlt; rw [HZM.out] at h2; have := HH.out; omega); (· simpa using hr)), HB.out⟩
      by_cases h2 : (n : Int) ≤ z
      · have HH := Lib.hid h2
        go_wp2_with fail
        go_ret
        exact ⟨ret_bool (by by_cases hr : r = true; (· have h2 := (HR.out.1 hr).inr m hlt; rw [HZM.out] at h2; have := HH.out; omega); (· simpa using hr)), HB.out⟩
      have HI2 := Lib.hid (show 0 ≤ z ∧ z ≤ (n : Int) - 1 from by omega)
      by_cases h0 : 0 < m
      · have h0i : (0 : Int) < m := by omega
        have ew : IntKind.i64.wrap ((m : Int) - 1) = ((m - 1 : Nat) : Int) := by rw [IntWalk.i64_in _ (by omega)]; omega
        by_cases hzy : z ≤ y
        · have HZY := Lib.hid hzy
          go_wp2_with fail
          go_ret
          exact ⟨ret_bool (by by_cases hr : r = true; (· have h1 := (HR.out.1 hr).up (m - 1) (by omega); rw [show m - 1 + 1 = m from by omega, HZM.out, HYM.out] at h1; have := HZY.out; omega); (· simpa using hr)), HB.out⟩
        · have HZY := Lib.hid hzy
          go_wp2_with fail
          exact ⟨⟨m + 1, by omega, by go_num, fun k h => by rcases HZ.out k h with h | rfl; exact HA.out k h; rw [HZM.out]; exact HI2.out, fun k h => by
            rcases HZ.out (k + 1) h with h | h
            · exact HU.out k h
            · rw [h, HZM.out, show k = m - 1 from by omega, HYM.out]; have := HZY.out; omega, HB.out⟩, by simp [intOf]; omega⟩
      · obtain rfl : m = 0 := by omega
        simp only [Nat.add_zero] at c0
        go_wp2_with fail
        exact ⟨⟨0 + 1, by omega, by go_num, fun k h => by rcases HZ.out k h with h | rfl; exact HA.out k h; rw [HZM.out]; exact HI2.out, fun k h => absurd h (by omega), HB.out⟩, by simp [intOf]; omega⟩
    · obtain rfl : m = xs.length := by omega
      go_wp2_with fail
      all_goals
        go_ret
        exact ⟨ret_bool (HR.out.2 ⟨HA.out, HU.out⟩).symm, HB.out⟩
end Go.Proofs.YtepacoacalhdcaaGreat
