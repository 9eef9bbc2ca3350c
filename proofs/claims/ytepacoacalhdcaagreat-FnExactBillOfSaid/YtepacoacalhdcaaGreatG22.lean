/-
  Several texts in one: a claim has at most 60 files.
-/
import Derived.Test.YtepacoacalhdcaaGreatG5
import Derived.Test.YtepacoacalhdcaaGreatG1
import Derived.BigQuiet

namespace Go.Proofs.YtepacoacalhdcaaGreat
open Go.RowKit
set_option linter.unusedVariables false
set_option linter.unusedSimpArgs false

theorem seq_at {W : World} {n c : Nat} {A : Option Addr} {L : List Int} (h : Seq W (.slice A n c) L) : ∀ k, k < L.length → ∃ b o, A = some ⟨b, o, none⟩ ∧ b < W.heap.size ∧ ∀ j, j < L.length → W.cell? ⟨b, o + j, none⟩ = some (.int .i64 (atZ L j)) := by
  obtain ⟨A', c', e, _, _, hx⟩ := h
  injection e with e1 _ _
  intro k hk
  obtain ⟨b, o, ha, hb, hc⟩ := hx (by omega)
  exact ⟨b, o, e1.trans ha, hb, hc⟩

structure BarsP (xs : List Int) : Prop where
  inr : ∀ k, k < xs.length → 0 ≤ atZ xs k ∧ atZ xs k ≤ 20
  up : ∀ k, k + 1 < xs.length → atZ xs k < atZ xs (k + 1)
  few : xs.length ≤ 10

open Classical in
noncomputable def barB (xs : List Int) : Bool := decide (BarsP xs)

theorem barB_iff (xs : List Int) : barB xs = true ↔ BarsP xs := by unfold barB; simp

theorem inR_iff (xs : List Int) (a b : Int) : inR xs a b = true ↔ ∀ k, k < xs.length → a ≤ atZ xs k ∧ atZ xs k ≤ b := by
  unfold inR
  rw [List.all_eq_true]
  constructor
  · intro h k hk
    have := h _ (List.getElem_mem hk)
    rw [atZ_get hk] at this
    exact (inB_iff _ _ _).1 this
  · intro h x hx
    obtain ⟨k, hk, rfl⟩ := List.getElem_of_mem hx
    rw [atZ_get hk]
    exact (inB_iff _ _ _).2 (h k hk)

end Go.Proofs.YtepacoacalhdcaaGreat

namespace Go.Proofs.YtepacoacalhdcaaGreat
open Go.RowKit
set_option linter.unusedVariables false
set_option linter.unusedSimpArgs false

structure LstP (n : Nat) (xs : List Int) : Prop where
  inr : ∀ k, k < xs.length → 0 ≤ atZ xs k ∧ atZ xs k ≤ (n : Int) - 1
  up : ∀ k, k + 1 < xs.length → atZ xs k < atZ xs (k + 1)

open Classical in
noncomputable def lstB (n : Nat) (xs : List Int) : Bool := decide (LstP n xs)

theorem lstB_iff (n : Nat) (xs : List Int) : lstB n xs = true ↔ LstP n xs := by unfold lstB; simp

theorem LstP.low {n : Nat} {xs : List Int} (h : LstP n xs) : ∀ k, k < xs.length → (k : Int) ≤ atZ xs k
  | 0, hk => by have := (h.inr 0 hk).1; omega
  | k + 1, hk => by have := h.low k (by omega); have := h.up k hk; omega

theorem LstP.len {n : Nat} {xs : List Int} (h : LstP n xs) : xs.length ≤ n := by
  by_cases h0 : xs.length = 0
  · omega
  · have := h.low (xs.length - 1) (by omega)
    have := (h.inr (xs.length - 1) (by omega)).2
    omega

set_option maxRecDepth 100000 in
theorem specLst (n : Nat) (xs : List Int) (v : Value) (w : World) (hv : Seq w v xs) (hn : (n : Int) ≤ 9223372036854775807) : Calls Tryz.prog 96 #[.int .i64 n, v] w (BoolIs (lstB n xs) w) := by
  have hlen := hv.len
  have HV := Lib.hid hv
  obtain ⟨A, c, rfl, _, _, _⟩ := hv.form
  clear hv
  have HR := Lib.hid (lstB_iff n xs)
  generalize lstB n xs = r at *
  have ewn : IntKind.i64.wrap ((n : Int) - 1) = (n : Int) - 1 := IntWalk.i64_in _ (by omega)
  go_enter Tryz.func96, Tryz.ntmps96
  go_wp2_with fail
  go_loopw [5] (fun i wr => ∃ m : Nat, m ≤ xs.length ∧ i = .int .i64 m ∧ (∀ k, k < m → 0 ≤ atZ xs k ∧ atZ xs k ≤ (n : Int) - 1) ∧ (∀ k, k + 1 < m → atZ xs k < atZ xs (k + 1)) ∧ Below w.heap.size w wr) (fun i _ => xs.length - (intOf i).toNat)
  case atStart => exact ⟨0, Nat.zero_le _, rfl, fun k h => absurd h (by omega), fun k h => absurd h (by omega), Below.refl _ _⟩
  case round =>
    obtain ⟨m, hm, rfl, ha, hu, hb⟩ := hrel
    have HA := Lib.hid ha; clear ha
    have HU := Lib.hid hu; clear hu
    have HB := Lib.hid hb; clear hb
    by_cases hlt : m < xs.length
    · obtain ⟨bb, o, rfl, hbl, hcs⟩ := seq_at (HV.out.step HB.out) m hlt
      have c0 := hcs m hlt
      have c1 := hcs (m - 1) (by omega)
      clear hcs
      have HZ := Lib.hid (show ∀ k, k < m + 1 → k < m ∨ k = m from fun k h => by omega)
      have hz1 : (m : Int) < (xs.length : Int) := by omega
      have hz2 : (0 : Int) ≤ m := by omega
      have hz3 : ((m - 1 : Nat) : Int) < (xs.length : Int) := by omega
      have hz4 : (0 : Int) ≤ ((m - 1 : Nat) : Int) := by omega
      have HX := Lib.hid (fun w => specInB (atZ xs m) 0 ((n : Int) - 1) w)
      have HI := Lib.hid (inB_iff (atZ xs m) 0 ((n : Int) - 1))
      generalize hz : atZ xs m = z at *
      generalize hy : atZ xs (m - 1) = y at *
      have HZM := Lib.hid hz; clear hz
      have HYM := Lib.hid hy; clear hy
      generalize inB z 0 ((n : Int) - 1) = b at *
      have H0 := Lib.hid (Held.start (w := wr) (fs := [(bb, o + m, .int .i64 z), (bb, o + (m - 1), .int .i64 y)]) ⟨c0, c1, trivial⟩ ⟨hbl, hbl, trivial⟩)
      clear c0 c1
      have hsz := HB.out.size
      cases b
      · skip
        go_wp2_with fail
        refine regionD (S := fun W => Held _ W [(bb, o + m, .int .i64 (z)), (bb, o + (m - 1), .int .i64 (y))]) (by kernel_rfl) H0.out.drew ?_
        iterate 24 (refine takeT (v := ?_) rfl (by kernel_rfl) (by kernel_rfl) (by kernel_rfl) ?_ ?_; rotate_left; (first | (refine Or.inr ⟨by rfl, ?_⟩; with_reducible rfl) | (refine Or.inl ⟨by rfl, fun W hS => detRes_value (w' := W) ?_ hS⟩; obtain ⟨x0, x1, _⟩ := hS.1; go_simp; first | done | with_reducible rfl) | (refine Or.inl ⟨by rfl, fun W hS => ?_⟩; refine detRes_call (w' := W) (f := ?_) (args := ?_) ?_ ?_; rotate_left 2; (go_simp; (refine ⟨?_, ?_⟩ <;> with_reducible rfl)); (first | (with_reducible refine (HX.out _).mono ?_) | fail); (first | (rintro e wn ⟨rfl, hb⟩; refine ⟨?_, hS.step hb⟩; with_reducible rfl) | (rintro e wn ⟨rfl, rfl⟩; refine ⟨?_, hS⟩; with_reducible rfl) | fail)) | fail); (simp only [Act.put, List.setIfInBounds_toArray, List.set_cons_zero, List.set_cons_succ]))
        refine doneD (by kernel_rfl) fun wH1 HS => ?_
        have H1 := Lib.hid HS; clear HS
        try clear x0 x1
        obtain ⟨x0, x1, _⟩ := H1.out.1
        go_wp2_with fail
        go_ret
        exact ⟨ret_bool (by by_cases hr : r = true; (· have h1 := (HR.out.1 hr).inr m hlt; rw [HZM.out] at h1; have := HI.out.2 h1; cases this); (· simpa using hr)), HB.out.trans (H1.out.below.mono hsz)⟩
      have HI2 := Lib.hid (HI.out.1 rfl)
      by_cases h0 : 0 < m
      · have g0 : decide (0 < m) = true := by simpa using h0
        have h0i : (0 : Int) < m := by omega
        have ew : IntKind.i64.wrap ((m : Int) - 1) = ((m - 1 : Nat) : Int) := by rw [IntWalk.i64_in _ (by omega)]; omega
        by_cases hzy : z ≤ y
        · have HZY := Lib.hid hzy
          go_wp2_with fail
          refine regionD (S := fun W => Held _ W [(bb, o + m, .int .i64 (z)), (bb, o + (m - 1), .int .i64 (y))]) (by kernel_rfl) H0.out.drew ?_
          iterate 24 (refine takeT (v := ?_) rfl (by kernel_rfl) (by kernel_rfl) (by kernel_rfl) ?_ ?_; rotate_left; (first | (refine Or.inr ⟨by rfl, ?_⟩; with_reducible rfl) | (refine Or.inl ⟨by rfl, fun W hS => detRes_value (w' := W) ?_ hS⟩; obtain ⟨x0, x1, _⟩ := hS.1; go_simp; first | done | with_reducible rfl) | (refine Or.inl ⟨by rfl, fun W hS => ?_⟩; refine detRes_call (w' := W) (f := ?_) (args := ?_) ?_ ?_; rotate_left 2; (go_simp; (refine ⟨?_, ?_⟩ <;> with_reducible rfl)); (first | (with_reducible refine (HX.out _).mono ?_) | fail); (first | (rintro e wn ⟨rfl, hb⟩; refine ⟨?_, hS.step hb⟩; with_reducible rfl) | (rintro e wn ⟨rfl, rfl⟩; refine ⟨?_, hS⟩; with_reducible rfl) | fail)) | fail); (simp only [Act.put, List.setIfInBounds_toArray, List.set_cons_zero, List.set_cons_succ]))
          refine doneD (by kernel_rfl) fun wH1 HS => ?_
          have H1 := Lib.hid HS; clear HS
          try clear x0 x1
          obtain ⟨x0, x1, _⟩ := H1.out.1
          go_wp2_with fail
          go_ret
          exact ⟨ret_bool (by by_cases hr : r = true; (· have h1 := (HR.out.1 hr).up (m - 1) (by omega); rw [show m - 1 + 1 = m from by omega, HZM.out, HYM.out] at h1; have := HZY.out; omega); (· simpa using hr)), HB.out.trans (H1.out.below.mono hsz)⟩
        · have HZY := Lib.hid hzy
          go_wp2_with fail
          refine regionD (S := fun W => Held _ W [(bb, o + m, .int .i64 (z)), (bb, o + (m - 1), .int .i64 (y))]) (by kernel_rfl) H0.out.drew ?_
          iterate 24 (refine takeT (v := ?_) rfl (by kernel_rfl) (by kernel_rfl) (by kernel_rfl) ?_ ?_; rotate_left; (first | (refine Or.inr ⟨by rfl, ?_⟩; with_reducible rfl) | (refine Or.inl ⟨by rfl, fun W hS => detRes_value (w' := W) ?_ hS⟩; obtain ⟨x0, x1, _⟩ := hS.1; go_simp; first | done | with_reducible rfl) | (refine Or.inl ⟨by rfl, fun W hS => ?_⟩; refine detRes_call (w' := W) (f := ?_) (args := ?_) ?_ ?_; rotate_left 2; (go_simp; (refine ⟨?_, ?_⟩ <;> with_reducible rfl)); (first | (with_reducible refine (HX.out _).mono ?_) | fail); (first | (rintro e wn ⟨rfl, hb⟩; refine ⟨?_, hS.step hb⟩; with_reducible rfl) | (rintro e wn ⟨rfl, rfl⟩; refine ⟨?_, hS⟩; with_reducible rfl) | fail)) | fail); (simp only [Act.put, List.setIfInBounds_toArray, List.set_cons_zero, List.set_cons_succ]))
          refine doneD (by kernel_rfl) fun wH1 HS => ?_
          have H1 := Lib.hid HS; clear HS
          try clear x0 x1
          obtain ⟨x0, x1, _⟩ := H1.out.1
          go_wp2_with fail
          exact ⟨⟨m + 1, by omega, by go_num, fun k h => by rcases HZ.out k h with h | rfl; exact HA.out k h; rw [HZM.out]; exact HI2.out, fun k h => by
            rcases HZ.out (k + 1) h with h | h
            · exact HU.out k h
            · rw [h, HZM.out, show k = m - 1 from by omega, HYM.out]; have := HZY.out; omega, HB.out.trans (H1.out.below.mono hsz)⟩, by simp [intOf]; omega⟩
      · obtain rfl : m = 0 := by omega
        have H00 := Lib.hid (Held.start (w := wr) (fs := [(bb, o, .int .i64 z)]) ⟨by have := H0.out.1.1; simpa using this, trivial⟩ ⟨hbl, trivial⟩)
        go_wp2_with fail
        refine regionD (S := fun W => Held _ W [(bb, o, .int .i64 (z))]) (by kernel_rfl) H00.out.drew ?_
        iterate 24 (refine takeT (v := ?_) rfl (by kernel_rfl) (by kernel_rfl) (by kernel_rfl) ?_ ?_; rotate_left; (first | (refine Or.inr ⟨by rfl, ?_⟩; with_reducible rfl) | (refine Or.inl ⟨by rfl, fun W hS => detRes_value (w' := W) ?_ hS⟩; obtain ⟨x0, _⟩ := hS.1; go_simp; first | done | with_reducible rfl) | (refine Or.inl ⟨by rfl, fun W hS => ?_⟩; refine detRes_call (w' := W) (f := ?_) (args := ?_) ?_ ?_; rotate_left 2; (go_simp; (refine ⟨?_, ?_⟩ <;> with_reducible rfl)); (first | (with_reducible refine (HX.out _).mono ?_) | fail); (first | (rintro e wn ⟨rfl, hb⟩; refine ⟨?_, hS.step hb⟩; with_reducible rfl) | (rintro e wn ⟨rfl, rfl⟩; refine ⟨?_, hS⟩; with_reducible rfl) | fail)) | fail); (simp only [Act.put, List.setIfInBounds_toArray, List.set_cons_zero, List.set_cons_succ]))
        refine doneD (by kernel_rfl) fun wH1 HS => ?_
        have H1 := Lib.hid HS; clear HS
        try clear x0
        obtain ⟨x0, _⟩ := H1.out.1
        go_wp2_with fail
        exact ⟨⟨0 + 1, by omega, by go_num, fun k h => by rcases HZ.out k h with h | rfl; exact HA.out k h; rw [HZM.out]; exact HI2.out, fun k h => absurd h (by omega), HB.out.trans (H1.out.below.mono hsz)⟩, by simp [intOf]; omega⟩
    · obtain rfl : m = xs.length := by omega
      go_wp2_with fail
      all_goals
        go_ret
        exact ⟨ret_bool (HR.out.2 ⟨HA.out, HU.out⟩).symm, HB.out⟩

set_option maxRecDepth 100000 in
theorem implLst (n : Nat) (xs : List Int) (v : Value) (w : World) (hv : Seq w v xs) (hn : (n : Int) ≤ 9223372036854775807) : Calls Tryz.prog 150 #[v, .int .i64 n] w (BoolIs (lstB n xs) w) := by
  have hlen := hv.len
  have HV := Lib.hid hv
  obtain ⟨A, c, rfl, _, _, _⟩ := hv.form
  clear hv
  have HR := Lib.hid (lstB_iff n xs)
  generalize lstB n xs = r at *
  go_enter Tryz.func150, Tryz.ntmps150
  go_wp2_with fail
  go_loopw [9] (fun i wr => ∃ m : Nat, m ≤ xs.length ∧ i = .int .i64 m ∧ (∀ k, k < m → 0 ≤ atZ xs k ∧ atZ xs k ≤ (n : Int) - 1) ∧ (∀ k, k + 1 < m → atZ xs k < atZ xs (k + 1)) ∧ Below w.heap.size w wr) (fun i _ => xs.length - (intOf i).toNat)
  case atStart => exact ⟨0, Nat.zero_le _, rfl, fun k h => absurd h (by omega), fun k h => absurd h (by omega), Below.refl _ _⟩
  case round =>
    obtain ⟨m, hm, rfl, ha, hu, hb⟩ := hrel
    have HA := Lib.hid ha; clear ha
    have HU := Lib.hid hu; clear hu
    have HB := Lib.hid hb; clear hb
    by_cases hlt : m < xs.length
    · obtain ⟨bb, o, rfl, hbl, hcs⟩ := seq_at (HV.out.step HB.out) m hlt
      have c0 := hcs m hlt
      have c1 := hcs (m - 1) (by omega)
      clear hcs
      have HZ := Lib.hid (show ∀ k, k < m + 1 → k < m ∨ k = m from fun k h => by omega)
      have hz1 : (m : Int) < (xs.length : Int) := by omega
      have hz2 : (0 : Int) ≤ m := by omega
      have hz3 : ((m - 1 : Nat) : Int) < (xs.length : Int) := by omega
      have hz4 : (0 : Int) ≤ ((m - 1 : Nat) : Int) := by omega
      generalize hz : atZ xs m = z at *
      generalize hy : atZ xs (m - 1) = y at *
      have HZM := Lib.hid hz; clear hz
      have HYM := Lib.hid hy; clear hy
      by_cases h1 : z < 0
      · have HH := Lib.hid h1
        go_wp2_with fail
        go_ret
        exact ⟨ret_bool (by by_cases hr : r = true; (· have h2 := (HR.out.1 hr).inr m hlt; rw [HZM.out] at h2; have := HH.out; omega); (· simpa using hr)), HB.out⟩
      by_cases h2 : (n : Int) ≤ z
      · have HH := Lib.hid h2
        go_wp2_with fail
        go_ret
        exact ⟨ret_bool (by by_cases hr : r = true; (· have h2 := (HR.out.1 hr).inr m hlt; rw [HZM.out] at h2; have := HH.out; omega); (· simpa using hr)), HB.out⟩
      have HI2 := Lib.hid (show 0 ≤ z ∧ z ≤ (n : Int) - 1 from by omega)
      by_cases h0 : 0 < m
      · have h0i : (0 : Int) < m := by omega
        have ew : IntKind.i64.wrap ((m : Int) - 1) = ((m - 1 : Nat) : Int) := by rw [IntWalk.i64_in _ (by omega)]; omega
        by_cases hzy : z ≤ y
        · have HZY := Lib.hid hzy
          go_wp2_with fail
          go_ret
          exact ⟨ret_bool (by by_cases hr : r = true; (· have h1 := (HR.out.1 hr).up (m - 1) (by omega); rw [show m - 1 + 1 = m from by omega, HZM.out, HYM.out] at h1; have := HZY.out; omega); (· simpa using hr)), HB.out⟩
        · have HZY := Lib.hid hzy
          go_wp2_with fail
          exact ⟨⟨m + 1, by omega, by go_num, fun k h => by rcases HZ.out k h with h | rfl; exact HA.out k h; rw [HZM.out]; exact HI2.out, fun k h => by
            rcases HZ.out (k + 1) h with h | h
            · exact HU.out k h
            · rw [h, HZM.out, show k = m - 1 from by omega, HYM.out]; have := HZY.out; omega, HB.out⟩, by simp [intOf]; omega⟩
      · obtain rfl : m = 0 := by omega
        simp only [Nat.add_zero] at c0
        go_wp2_with fail
        exact ⟨⟨0 + 1, by omega, by go_num, fun k h => by rcases HZ.out k h with h | rfl; exact HA.out k h; rw [HZM.out]; exact HI2.out, fun k h => absurd h (by omega), HB.out⟩, by simp [intOf]; omega⟩
    · obtain rfl : m = xs.length := by omega
      go_wp2_with fail
      all_goals
        go_ret
        exact ⟨ret_bool (HR.out.2 ⟨HA.out, HU.out⟩).symm, HB.out⟩
end Go.Proofs.YtepacoacalhdcaaGreat

namespace Go.Proofs.YtepacoacalhdcaaGreat
open Go.RowKit
set_option linter.unusedVariables false
set_option linter.unusedSimpArgs false

section

variable {K : Type} [DecidableEq K]

/-- The joins, the newest ahead: (who has a head now, this head). -/
def hdJ : List (K × K) → K → K
  | [], x => x
  | p :: J, x => if hdJ J x = p.1 then p.2 else hdJ J x

def JOk : List (K × K) → Prop
  | [] => True
  | p :: J => JOk J ∧ p.1 ≠ p.2 ∧ hdJ J p.1 = p.1 ∧ hdJ J p.2 = p.2

def lookJ : List (K × K) → K → Option K
  | [], _ => none
  | p :: J, x => if x = p.1 then some p.2 else lookJ J x

def depJ : List (K × K) → K → Nat
  | [], _ => 0
  | p :: J, x => if hdJ J x = p.1 then depJ J x + 1 else depJ J x

theorem hdJ_idem : ∀ {J : List (K × K)}, JOk J → ∀ x, hdJ J (hdJ J x) = hdJ J x
  | [], _, _ => rfl
  | p :: J, h, x => by
    have ih := hdJ_idem h.1 x
    show (if hdJ J (if hdJ J x = p.1 then p.2 else hdJ J x) = p.1 then p.2 else hdJ J (if hdJ J x = p.1 then p.2 else hdJ J x)) = if hdJ J x = p.1 then p.2 else hdJ J x
    by_cases e : hdJ J x = p.1
    · rw [if_pos e, h.2.2.2, if_neg (fun e2 => h.2.1 e2.symm)]
    · rw [if_neg e, ih, if_neg e]

theorem depJ_root : ∀ {J : List (K × K)}, JOk J → ∀ x, hdJ J x = x → depJ J x = 0
  | [], _, _, _ => rfl
  | p :: J, h, x, hx => by
    have hx2 : (if hdJ J x = p.1 then p.2 else hdJ J x) = x := hx
    show (if hdJ J x = p.1 then depJ J x + 1 else depJ J x) = 0
    by_cases e : hdJ J x = p.1
    · rw [if_pos e] at hx2
      rw [← hx2, h.2.2.2] at e
      exact absurd e.symm h.2.1
    · rw [if_neg e] at hx2 ⊢
      exact depJ_root h.1 x hx2

theorem lookJ_none : ∀ {J : List (K × K)}, JOk J → ∀ x, lookJ J x = none → hdJ J x = x
  | [], _, _, _ => rfl
  | p :: J, h, x, hx => by
    have hx2 : (if x = p.1 then some p.2 else lookJ J x) = none := hx
    by_cases e : x = p.1
    · rw [if_pos e] at hx2; cases hx2
    · rw [if_neg e] at hx2
      have ih := lookJ_none h.1 x hx2
      show (if hdJ J x = p.1 then p.2 else hdJ J x) = x
      rw [ih, if_neg e]

theorem lookJ_some : ∀ {J : List (K × K)}, JOk J → ∀ x y, lookJ J x = some y → hdJ J y = hdJ J x ∧ depJ J y + 1 = depJ J x
  | [], _, _, _, hx => by cases hx
  | p :: J, h, x, y, hx => by
    have hx2 : (if x = p.1 then some p.2 else lookJ J x) = some y := hx
    by_cases e : x = p.1
    · rw [if_pos e] at hx2
      injection hx2 with hy
      subst hy
      subst e
      refine ⟨?_, ?_⟩
      · show (if hdJ J p.2 = p.1 then p.2 else hdJ J p.2) = if hdJ J p.1 = p.1 then p.2 else hdJ J p.1
        rw [h.2.2.2, h.2.2.1, if_pos rfl, if_neg (fun e => h.2.1 e.symm)]
      · show (if hdJ J p.2 = p.1 then depJ J p.2 + 1 else depJ J p.2) + 1 = if hdJ J p.1 = p.1 then depJ J p.1 + 1 else depJ J p.1
        rw [h.2.2.2, h.2.2.1, if_pos rfl, if_neg (fun e => h.2.1 e.symm), depJ_root h.1 _ h.2.2.1, depJ_root h.1 _ h.2.2.2]
    · rw [if_neg e] at hx2
      obtain ⟨h1, h2⟩ := lookJ_some h.1 x y hx2
      refine ⟨?_, ?_⟩
      · show (if hdJ J y = p.1 then p.2 else hdJ J y) = if hdJ J x = p.1 then p.2 else hdJ J x
        rw [h1]
      · show (if hdJ J y = p.1 then depJ J y + 1 else depJ J y) + 1 = if hdJ J x = p.1 then depJ J x + 1 else depJ J x
        rw [h1]
        split <;> omega

/-- The join of two, if they are apart. -/
def addJ (J : List (K × K)) (a b : K) : List (K × K) := if hdJ J a = hdJ J b then J else (hdJ J b, hdJ J a) :: J

theorem addJ_ok {J : List (K × K)} (h : JOk J) (a b : K) : JOk (addJ J a b) := by
  unfold addJ
  split
  · exact h
  · rename_i e
    exact ⟨h, fun e2 => e e2.symm, hdJ_idem h b, hdJ_idem h a⟩

theorem addJ_len (J : List (K × K)) (a b : K) : (addJ J a b).length ≤ J.length + 1 := by
  unfold addJ
  split
  · omega
  · simp

/-- The numbers of the groups say the same. -/
def SameJ (g : Nat → Int) (J : List (K × K)) (nd : Nat → K) (N : Nat) : Prop := ∀ a b, a < N → b < N → (g a = g b ↔ hdJ J (nd a) = hdJ J (nd b))

theorem SameJ.join {g : Nat → Int} {J : List (K × K)} {nd : Nat → K} {N a b : Nat} (h : SameJ g J nd N) (ha : a < N) (hb : b < N) (hne : g a ≠ g b) :
    SameJ (fun x => if g x = g b then g a else g x) (addJ J (nd a) (nd b)) nd N := by
  intro x y hx hy
  have hne2 : ¬ hdJ J (nd a) = hdJ J (nd b) := fun e => hne ((h a b ha hb).2 e)
  unfold addJ
  rw [if_neg hne2]
  show ((if g x = g b then g a else g x) = if g y = g b then g a else g y) ↔ (if hdJ J (nd x) = hdJ J (nd b) then hdJ J (nd a) else hdJ J (nd x)) = if hdJ J (nd y) = hdJ J (nd b) then hdJ J (nd a) else hdJ J (nd y)
  by_cases ex : g x = g b
  · rw [if_pos ex, if_pos ((h x b hx hb).1 ex)]
    by_cases ey : g y = g b
    · rw [if_pos ey, if_pos ((h y b hy hb).1 ey)]
      simp
    · rw [if_neg ey, if_neg (fun e => ey ((h y b hy hb).2 e))]
      exact h a y ha hy
  · rw [if_neg ex, if_neg (fun e => ex ((h x b hx hb).2 e))]
    by_cases ey : g y = g b
    · rw [if_pos ey, if_pos ((h y b hy hb).1 ey)]
      exact h x a hx ha
    · rw [if_neg ey, if_neg (fun e => ey ((h y b hy hb).2 e))]
      exact h x y hx hy

/-- The joins after k steps. -/
def stpJ (nd : Nat → K) (p : Nat → Nat × Nat) : Nat → List (K × K)
  | 0 => []
  | k + 1 => addJ (stpJ nd p k) (nd (p k).1) (nd (p k).2)

theorem stpJ_ok (nd : Nat → K) (p : Nat → Nat × Nat) : ∀ k, JOk (stpJ nd p k)
  | 0 => trivial
  | k + 1 => addJ_ok (stpJ_ok nd p k) _ _

theorem stpJ_len (nd : Nat → K) (p : Nat → Nat × Nat) : ∀ k, (stpJ nd p k).length ≤ k
  | 0 => Nat.le_refl _
  | k + 1 => Nat.le_trans (addJ_len _ _ _) (by have := stpJ_len nd p k; omega)

end

/-- The groups by their numbers: b's members get the number of a. -/
def jnL (G : List Int) (a b : Nat) : List Int := if atZ G a = atZ G b then G else G.map fun x => if x = atZ G b then atZ G a else x

/-- The same, when the first k members have got it. -/
def jnK (G : List Int) (u v : Int) (k : Nat) : List Int := (G.take k).map (fun x => if x = v then u else x) ++ G.drop k

theorem jnK_len (G : List Int) (u v : Int) (k : Nat) : (jnK G u v k).length = G.length := by
  unfold jnK
  simp
  omega

theorem jnK_zero (G : List Int) (u v : Int) : jnK G u v 0 = G := by simp [jnK]

theorem jnK_end (G : List Int) (u v : Int) : jnK G u v G.length = G.map fun x => if x = v then u else x := by simp [jnK]

theorem jnK_at {G : List Int} {k : Nat} (h : k < G.length) (u v : Int) : atZ (jnK G u v k) k = atZ G k := by
  unfold jnK atZ
  simp [List.getD, List.getElem?_append, Nat.min_eq_left (Nat.le_of_lt h)]

theorem jnK_succ {G : List Int} {k : Nat} (h : k < G.length) (u v : Int) : jnK G u v (k + 1) = (jnK G u v k).set k (if atZ G k = v then u else atZ G k) := by
  unfold jnK
  have hl : ((G.take k).map fun x => if x = v then u else x).length = k := by simp; omega
  rw [List.set_append, if_neg (by omega), hl, Nat.sub_self, List.drop_eq_getElem_cons h, List.set_cons_zero, List.take_succ_eq_append_getElem h, List.map_append, atZ_get h]
  simp

theorem jnK_same {G : List Int} {k : Nat} (h : k < G.length) (u v : Int) (hv : atZ G k ≠ v) : jnK G u v (k + 1) = jnK G u v k := by
  rw [jnK_succ h, if_neg hv]
  have hl : k < (jnK G u v k).length := by rw [jnK_len]; exact h
  have e := jnK_at h u v
  rw [← atZ_get hl] at e
  rw [← e]
  exact List.set_getElem_self hl

theorem jnL_len (G : List Int) (a b : Nat) : (jnL G a b).length = G.length := by
  unfold jnL
  split <;> simp

theorem jnL_at {G : List Int} {a b x : Nat} (h : x < G.length) (hne : atZ G a ≠ atZ G b) : atZ (jnL G a b) x = if atZ G x = atZ G b then atZ G a else atZ G x := by
  unfold jnL
  rw [if_neg hne, ← atZ_get (xs := G.map _) (by simpa using h), List.getElem_map, atZ_get h]

def numL (N : Nat) : List Int := (List.range N).map fun k : Nat => (k : Int)

theorem numL_len (N : Nat) : (numL N).length = N := by simp [numL]

theorem numL_at {N k : Nat} (h : k < N) : atZ (numL N) k = k := by simp [numL, atZ, List.getD, h]

theorem numL_succ (N : Nat) : numL (N + 1) = numL N ++ [(N : Int)] := by simp [numL, List.range_succ]

/-- The groups after k steps. -/
def grpL (p : Nat → Nat × Nat) (N : Nat) : Nat → List Int
  | 0 => numL N
  | k + 1 => jnL (grpL p N k) (p k).1 (p k).2

theorem grpL_len (p : Nat → Nat × Nat) (N : Nat) : ∀ k, (grpL p N k).length = N
  | 0 => numL_len N
  | k + 1 => (jnL_len _ _ _).trans (grpL_len p N k)

/-- Does step k join two groups? -/
def stpB (p : Nat → Nat × Nat) (N k : Nat) : Bool := atZ (grpL p N k) (p k).1 != atZ (grpL p N k) (p k).2

def allB (p : Nat → Nat × Nat) (N m : Nat) : Bool := (List.range m).all (stpB p N)

theorem allB_bad {p : Nat → Nat × Nat} {N m k : Nat} (hk : k < m) (h : stpB p N k = false) : allB p N m = false := by
  cases e : allB p N m
  · rfl
  · unfold allB at e
    rw [List.all_eq_true] at e
    rw [e k (List.mem_range.2 hk)] at h
    cases h

theorem allB_good {p : Nat → Nat × Nat} {N m : Nat} (h : ∀ k, k < m → stpB p N k = true) : allB p N m = true := by
  unfold allB
  rw [List.all_eq_true]
  exact fun k hk => h k (List.mem_range.1 hk)

theorem same_step {K : Type} [DecidableEq K] (nd : Nat → K) (p : Nat → Nat × Nat) (N : Nat) (hinj : ∀ a b, a < N → b < N → nd a = nd b → a = b) : ∀ k, (∀ i, i < k → (p i).1 < N ∧ (p i).2 < N) → SameJ (atZ (grpL p N k)) (stpJ nd p k) nd N
  | 0, _ => fun a b ha hb => by
    show atZ (numL N) a = atZ (numL N) b ↔ nd a = nd b
    rw [numL_at ha, numL_at hb]
    exact ⟨fun e => by rw [show a = b by omega], fun e => by rw [hinj a b ha hb e]⟩
  | k + 1, hp => by
    have ih := same_step nd p N hinj k fun i hi => hp i (by omega)
    obtain ⟨h1, h2⟩ := hp k (by omega)
    by_cases e : atZ (grpL p N k) (p k).1 = atZ (grpL p N k) (p k).2
    · show SameJ (atZ (jnL (grpL p N k) (p k).1 (p k).2)) (addJ (stpJ nd p k) (nd (p k).1) (nd (p k).2)) nd N
      unfold jnL addJ
      rw [if_pos e, if_pos ((ih _ _ h1 h2).1 e)]
      exact ih
    · have hj := ih.join h1 h2 e
      intro a b ha hb
      have hg := grpL_len p N k
      show atZ (jnL (grpL p N k) (p k).1 (p k).2) a = atZ (jnL (grpL p N k) (p k).1 (p k).2) b ↔ _
      rw [jnL_at (by omega) e, jnL_at (by omega) e]
      exact hj a b ha hb

/-- Whether a step joins, by the heads. -/
theorem stp_heads {K : Type} [DecidableEq K] (nd : Nat → K) (p : Nat → Nat × Nat) (N : Nat) (hinj : ∀ a b, a < N → b < N → nd a = nd b → a = b) (k : Nat) (hp : ∀ i, i ≤ k → (p i).1 < N ∧ (p i).2 < N) : stpB p N k = !decide (hdJ (stpJ nd p k) (nd (p k).1) = hdJ (stpJ nd p k) (nd (p k).2)) := by
  have h := same_step nd p N hinj k (fun i hi => hp i (by omega)) _ _ (hp k (Nat.le_refl _)).1 (hp k (Nat.le_refl _)).2
  unfold stpB
  rw [Bool.eq_iff_iff]
  simp only [bne_iff_ne, ne_eq, Bool.not_eq_true', decide_eq_false_iff_not]
  exact not_congr h
end Go.Proofs.YtepacoacalhdcaaGreat
