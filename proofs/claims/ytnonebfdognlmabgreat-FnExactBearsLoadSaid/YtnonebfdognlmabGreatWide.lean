/-
  WidestPane, of the program and of the model.
-/
import Derived.Test.YtnonebfdognlmabGreatPaneS
namespace Go.Proofs.YtnonebfdognlmabGreat
open Go.RowKit
set_option linter.unusedVariables false
set_option linter.unusedSimpArgs false

/-- The first one of the greatest area among the first n. -/
def widL (ar : Int → Int) (xs : List Int) : Nat → Int
  | 0 => -1
  | n + 1 => if widL ar xs n < 0 then atZ xs n else if ar (widL ar xs n) < ar (atZ xs n) then atZ xs n else widL ar xs n
theorem widL_succ (ar : Int → Int) (xs : List Int) (n : Nat) : widL ar xs (n + 1) = if widL ar xs n < 0 then atZ xs n else if ar (widL ar xs n) < ar (atZ xs n) then atZ xs n else widL ar xs n := rfl
noncomputable def widW (ns ls : List Nd) : Int := widL (areaW ns ls) (panesW ns ls) (panesW ns ls).length

set_option maxRecDepth 100000 in
set_option maxHeartbeats 1000000 in
theorem implWidest (ns ls : List Nd) (vn vl : Value) (w : World) (hn : Prs w vn ns) (hl : Prs w vl ls) :
    Calls Tryz.prog 36 #[.agg #[vn, vl]] w (IntIs (widW ns ls) w) := by
  have HP := Lib.hid (fun w h1 h2 => implPanesOf ns ls vn vl w h1 h2)
  unfold IntsNew at HP
  have HA := Lib.hid (fun f w h1 h2 => implAreaOf ns ls vn vl f w h1 h2)
  unfold IntIs at HA
  have HN := Lib.hid hn
  have HL := Lib.hid hl
  have h40 := panesW_len ns ls
  have HR := Lib.hid (show widW ns ls = widL (areaW ns ls) (panesW ns ls) (panesW ns ls).length from rfl)
  have HU := Lib.hid (widL_succ (areaW ns ls) (panesW ns ls))
  have HZ := Lib.hid (show widL (areaW ns ls) (panesW ns ls) 0 = -1 from rfl)
  have H0 := Lib.hid (held_pair w vn vl 32)
  obtain ⟨A, c, rfl⟩ := prs_form2 hn
  obtain ⟨A2, c2, rfl⟩ := prs_form2 hl
  clear hn hl
  generalize widW ns ls = res at *
  generalize widL (areaW ns ls) (panesW ns ls) = X at *
  generalize areaW ns ls = ar at *
  generalize panesW ns ls = xs at *
  go_enter Tryz.func36, Tryz.ntmps36
  go_wp2_with fail
  refine (HP.out _ (HN.out.step H0.out.below) (HL.out.step H0.out.below)).mono ?_
  rintro e w1 ⟨v, rfl, hv, hb⟩
  have HB1 := Lib.hid (H0.out.below.trans (hb.mono H0.out.below.size))
  have HS := H0.out.step hb
  have H1 := Lib.hid (Held.start (w := w1) (fs := [(w.heap.size, 0, .slice A ns.length c), (w.heap.size, 1, .slice A2 ls.length c2)]) HS.1 HS.2.1)
  obtain ⟨a, cv, rfl⟩ := ints_form hv
  have HV := Lib.hid hv
  clear hb hv HS H0
  go_wp2_with fail
  go_loopw [3, 9] (fun b i wr => ∃ m : Nat, m ≤ xs.length ∧ i = .int .i64 m ∧ b = .int .i64 (X m) ∧ Held w1 wr [(w.heap.size, 0, .slice A ns.length c), (w.heap.size, 1, .slice A2 ls.length c2)]) (fun _ i _ => xs.length - (intOf i).toNat)
  case atStart => exact ⟨0, Nat.zero_le _, rfl, by rw [HZ.out], H1.out⟩
  case round =>
    clear H1
    obtain ⟨m, hm, rfl, rfl, hh⟩ := hrel
    have H1 := Lib.hid hh; clear hh
    by_cases hlt : m < xs.length
    · obtain ⟨A6, c6, e6, -, -, hcs⟩ := (HV.out.step H1.out.below).seq.form
      simp only [Value.slice.injEq] at e6
      obtain ⟨rfl, -, -⟩ := e6
      obtain ⟨bb, oo, rfl, hbl, hc⟩ := hcs m hlt
      have BN := Lib.hid (HB1.out.trans (H1.out.below.mono HB1.out.size))
      have HUM := Lib.hid (HU.out m)
      obtain ⟨ax, hax⟩ : ∃ ax, ar (atZ xs m) = ax := ⟨_, rfl⟩
      obtain ⟨ab, hab⟩ : ∃ ab, ar (X m) = ab := ⟨_, rfl⟩
      have HAX := Lib.hid (fun w h1 h2 => HA.out (atZ xs m) w h1 h2)
      have HAB := Lib.hid (fun w h1 h2 => HA.out (X m) w h1 h2)
      rw [hax] at HAX
      rw [hab] at HAB
      rw [hax, hab] at HUM
      have H2 := Lib.hid (held_plus H1.out (gs := [(bb, oo + m, .int .i64 (atZ xs m))]) ⟨hc, trivial⟩ ⟨hbl, trivial⟩)
      clear hax hab hcs hc hbl
      have p1 : (0 : Int) ≤ m := by omega
      have p2 : (m : Int) < (xs.length : Int) := by omega
      generalize X m = b at *
      generalize atZ xs m = x at *
      obtain ⟨x0, x1, x2, _⟩ := H2.out.1
      by_cases hb : b < 0
      · rw [if_pos hb] at HUM
        have hd : decide (b < 0) = true := decide_eq_true hb
        go_wp2_with fail
        refine regionD (S := fun W => Held _ W [(w.heap.size, 0, .slice A ns.length c), (w.heap.size, 1, .slice A2 ls.length c2), (bb, oo + m, .int .i64 (x))]) (by kernel_rfl) H2.out.drew ?_
        iterate 11 (refine takeT (v := ?_) rfl (by kernel_rfl) (by kernel_rfl) (by kernel_rfl) ?_ ?_; rotate_left; (first | (refine Or.inr ⟨by rfl, ?_⟩; with_reducible rfl) | (refine Or.inl ⟨by rfl, fun W hS => detRes_value (w' := W) ?_ hS⟩; obtain ⟨x0, x1, x2, _⟩ := hS.1; go_simp; first | done | with_reducible rfl) | fail); (simp only [Act.put, List.setIfInBounds_toArray, List.set_cons_zero, List.set_cons_succ]))
        refine doneD (by kernel_rfl) fun wH3 HS => ?_
        have H3 := Lib.hid HS; clear HS
        try clear x0 x1 x2
        obtain ⟨x0, x1, x2, _⟩ := H3.out.1
        go_wp2_with fail
        exact ⟨⟨m + 1, by omega, by go_num, by rw [HUM.out], H3.out.only (fun ⟨a, b, _⟩ => ⟨a, b, trivial⟩) (fun ⟨a, b, _⟩ => ⟨a, b, trivial⟩)⟩, by simp [intOf]; omega⟩
      · rw [if_neg hb] at HUM
        have hd : decide (b < 0) = false := decide_eq_false hb
        by_cases hg : ab < ax
        · rw [if_pos hg] at HUM
          have hdg : decide (ab < ax) = true := decide_eq_true hg
          go_wp2_with fail
          refine regionD (S := fun W => Held _ W [(w.heap.size, 0, .slice A ns.length c), (w.heap.size, 1, .slice A2 ls.length c2), (bb, oo + m, .int .i64 (x))]) (by kernel_rfl) H2.out.drew ?_
          iterate 11 (refine takeT (v := ?_) rfl (by kernel_rfl) (by kernel_rfl) (by kernel_rfl) ?_ ?_; rotate_left; (first | (refine Or.inr ⟨by rfl, ?_⟩; with_reducible rfl) | (refine Or.inl ⟨by rfl, fun W hS => detRes_value (w' := W) ?_ hS⟩; obtain ⟨x0, x1, x2, _⟩ := hS.1; go_simp; first | done | with_reducible rfl) | (refine Or.inl ⟨by rfl, fun W hS => ?_⟩; refine detRes_call (w' := W) (f := ?_) (args := ?_) ?_ ?_; rotate_left 2; (go_simp; (refine ⟨?_, ?_⟩ <;> with_reducible rfl)); (first | (with_reducible refine (HAX.out _ (HN.out.step (HB1.out.trans (hS.below.mono HB1.out.size))) (HL.out.step (HB1.out.trans (hS.below.mono HB1.out.size)))).mono ?_) | (with_reducible refine (HAB.out _ (HN.out.step (HB1.out.trans (hS.below.mono HB1.out.size))) (HL.out.step (HB1.out.trans (hS.below.mono HB1.out.size)))).mono ?_) | fail); (first | (rintro e wn ⟨rfl, hb⟩; refine ⟨?_, hS.step hb⟩; with_reducible rfl) | (rintro e wn ⟨rfl, rfl⟩; refine ⟨?_, hS⟩; with_reducible rfl) | fail)) | fail); (simp only [Act.put, List.setIfInBounds_toArray, List.set_cons_zero, List.set_cons_succ]))
          refine doneD (by kernel_rfl) fun wH3 HS => ?_
          have H3 := Lib.hid HS; clear HS
          try clear x0 x1 x2
          obtain ⟨x0, x1, x2, _⟩ := H3.out.1
          go_wp2_with fail
          exact ⟨⟨m + 1, by omega, by go_num, by rw [HUM.out], H3.out.only (fun ⟨a, b, _⟩ => ⟨a, b, trivial⟩) (fun ⟨a, b, _⟩ => ⟨a, b, trivial⟩)⟩, by simp [intOf]; omega⟩
        · rw [if_neg hg] at HUM
          have hdg : decide (ab < ax) = false := decide_eq_false hg
          go_wp2_with fail
          refine regionD (S := fun W => Held _ W [(w.heap.size, 0, .slice A ns.length c), (w.heap.size, 1, .slice A2 ls.length c2), (bb, oo + m, .int .i64 (x))]) (by kernel_rfl) H2.out.drew ?_
          iterate 11 (refine takeT (v := ?_) rfl (by kernel_rfl) (by kernel_rfl) (by kernel_rfl) ?_ ?_; rotate_left; (first | (refine Or.inr ⟨by rfl, ?_⟩; with_reducible rfl) | (refine Or.inl ⟨by rfl, fun W hS => detRes_value (w' := W) ?_ hS⟩; obtain ⟨x0, x1, x2, _⟩ := hS.1; go_simp; first | done | with_reducible rfl) | (refine Or.inl ⟨by rfl, fun W hS => ?_⟩; refine detRes_call (w' := W) (f := ?_) (args := ?_) ?_ ?_; rotate_left 2; (go_simp; (refine ⟨?_, ?_⟩ <;> with_reducible rfl)); (first | (with_reducible refine (HAX.out _ (HN.out.step (HB1.out.trans (hS.below.mono HB1.out.size))) (HL.out.step (HB1.out.trans (hS.below.mono HB1.out.size)))).mono ?_) | (with_reducible refine (HAB.out _ (HN.out.step (HB1.out.trans (hS.below.mono HB1.out.size))) (HL.out.step (HB1.out.trans (hS.below.mono HB1.out.size)))).mono ?_) | fail); (first | (rintro e wn ⟨rfl, hb⟩; refine ⟨?_, hS.step hb⟩; with_reducible rfl) | (rintro e wn ⟨rfl, rfl⟩; refine ⟨?_, hS⟩; with_reducible rfl) | fail)) | fail); (simp only [Act.put, List.setIfInBounds_toArray, List.set_cons_zero, List.set_cons_succ]))
          refine doneD (by kernel_rfl) fun wH3 HS => ?_
          have H3 := Lib.hid HS; clear HS
          try clear x0 x1 x2
          obtain ⟨x0, x1, x2, _⟩ := H3.out.1
          go_wp2_with fail
          exact ⟨⟨m + 1, by omega, by go_num, by rw [HUM.out], H3.out.only (fun ⟨a, b, _⟩ => ⟨a, b, trivial⟩) (fun ⟨a, b, _⟩ => ⟨a, b, trivial⟩)⟩, by simp [intOf]; omega⟩
    · obtain rfl : m = xs.length := by omega
      go_wp2_with fail
      go_ret
      exact ⟨ret_int HR.out.symm, HB1.out.trans (H1.out.below.mono HB1.out.size)⟩

set_option maxRecDepth 100000 in
set_option maxHeartbeats 1000000 in
theorem specWidest (ns ls : List Nd) (vn vl : Value) (w : World) (hn : Prs w vn ns) (hl : Prs w vl ls) :
    Calls Tryz.prog 35 #[.agg #[vn, vl]] w (IntIs (widW ns ls) w) := by
  have HP := Lib.hid (fun w h1 h2 => specPanesOf ns ls vn vl w h1 h2)
  unfold IntsNew at HP
  have HA := Lib.hid (fun f w h1 h2 => specAreaOf ns ls vn vl f w h1 h2)
  unfold IntIs at HA
  have HN := Lib.hid hn
  have HL := Lib.hid hl
  have h40 := panesW_len ns ls
  have HR := Lib.hid (show widW ns ls = widL (areaW ns ls) (panesW ns ls) (panesW ns ls).length from rfl)
  have HU := Lib.hid (widL_succ (areaW ns ls) (panesW ns ls))
  have HZ := Lib.hid (show widL (areaW ns ls) (panesW ns ls) 0 = -1 from rfl)
  have H0 := Lib.hid (held_pair w vn vl 32)
  obtain ⟨A, c, rfl⟩ := prs_form2 hn
  obtain ⟨A2, c2, rfl⟩ := prs_form2 hl
  clear hn hl
  generalize widW ns ls = res at *
  generalize widL (areaW ns ls) (panesW ns ls) = X at *
  generalize areaW ns ls = ar at *
  generalize panesW ns ls = xs at *
  go_enter Tryz.func35, Tryz.ntmps35
  go_wp2_with fail
  refine (HP.out _ (HN.out.step H0.out.below) (HL.out.step H0.out.below)).mono ?_
  rintro e w1 ⟨v, rfl, hv, hb⟩
  have HB1 := Lib.hid (H0.out.below.trans (hb.mono H0.out.below.size))
  have HS := H0.out.step hb
  have H1 := Lib.hid (Held.start (w := w1) (fs := [(w.heap.size, 0, .slice A ns.length c), (w.heap.size, 1, .slice A2 ls.length c2)]) HS.1 HS.2.1)
  obtain ⟨a, cv, rfl⟩ := ints_form hv
  have HV := Lib.hid hv
  clear hb hv HS H0
  go_wp2_with fail
  go_loopw [3, 5] (fun b i wr => ∃ m : Nat, m ≤ xs.length ∧ i = .int .i64 m ∧ b = .int .i64 (X m) ∧ Held w1 wr [(w.heap.size, 0, .slice A ns.length c), (w.heap.size, 1, .slice A2 ls.length c2)]) (fun _ i _ => xs.length - (intOf i).toNat)
  case atStart => exact ⟨0, Nat.zero_le _, rfl, by rw [HZ.out], H1.out⟩
  case round =>
    clear H1
    obtain ⟨m, hm, rfl, rfl, hh⟩ := hrel
    have H1 := Lib.hid hh; clear hh
    by_cases hlt : m < xs.length
    · obtain ⟨A6, c6, e6, -, -, hcs⟩ := (HV.out.step H1.out.below).seq.form
      simp only [Value.slice.injEq] at e6
      obtain ⟨rfl, -, -⟩ := e6
      obtain ⟨bb, oo, rfl, hbl, hc⟩ := hcs m hlt
      have BN := Lib.hid (HB1.out.trans (H1.out.below.mono HB1.out.size))
      have HUM := Lib.hid (HU.out m)
      obtain ⟨ax, hax⟩ : ∃ ax, ar (atZ xs m) = ax := ⟨_, rfl⟩
      obtain ⟨ab, hab⟩ : ∃ ab, ar (X m) = ab := ⟨_, rfl⟩
      have HAX := Lib.hid (fun w h1 h2 => HA.out (atZ xs m) w h1 h2)
      have HAB := Lib.hid (fun w h1 h2 => HA.out (X m) w h1 h2)
      rw [hax] at HAX
      rw [hab] at HAB
      rw [hax, hab] at HUM
      have H2 := Lib.hid (held_plus H1.out (gs := [(bb, oo + m, .int .i64 (atZ xs m))]) ⟨hc, trivial⟩ ⟨hbl, trivial⟩)
      clear hax hab hcs hc hbl
      have p1 : (0 : Int) ≤ m := by omega
      have p2 : (m : Int) < (xs.length : Int) := by omega
      generalize X m = b at *
      generalize atZ xs m = x at *
      obtain ⟨x0, x1, x2, _⟩ := H2.out.1
      by_cases hb : b < 0
      · rw [if_pos hb] at HUM
        have hd : decide (b < 0) = true := decide_eq_true hb
        go_wp2_with fail
        refine regionD (S := fun W => Held _ W [(w.heap.size, 0, .slice A ns.length c), (w.heap.size, 1, .slice A2 ls.length c2), (bb, oo + m, .int .i64 (x))]) (by kernel_rfl) H2.out.drew ?_
        iterate 14 (refine takeT (v := ?_) rfl (by kernel_rfl) (by kernel_rfl) (by kernel_rfl) ?_ ?_; rotate_left; (first | (refine Or.inr ⟨by rfl, ?_⟩; with_reducible rfl) | (refine Or.inl ⟨by rfl, fun W hS => detRes_value (w' := W) ?_ hS⟩; obtain ⟨x0, x1, x2, _⟩ := hS.1; go_simp; first | done | with_reducible rfl) | fail); (simp only [Act.put, List.setIfInBounds_toArray, List.set_cons_zero, List.set_cons_succ]))
        refine doneD (by kernel_rfl) fun wH3 HS => ?_
        have H3 := Lib.hid HS; clear HS
        try clear x0 x1 x2
        obtain ⟨x0, x1, x2, _⟩ := H3.out.1
        go_wp2_with fail
        exact ⟨⟨m + 1, by omega, by go_num, by rw [HUM.out], H3.out.only (fun ⟨a, b, _⟩ => ⟨a, b, trivial⟩) (fun ⟨a, b, _⟩ => ⟨a, b, trivial⟩)⟩, by simp [intOf]; omega⟩
      · rw [if_neg hb] at HUM
        have hd : decide (b < 0) = false := decide_eq_false hb
        by_cases hg : ab < ax
        · rw [if_pos hg] at HUM
          have hdg : decide (ab < ax) = true := decide_eq_true hg
          go_wp2_with fail
          refine regionD (S := fun W => Held _ W [(w.heap.size, 0, .slice A ns.length c), (w.heap.size, 1, .slice A2 ls.length c2), (bb, oo + m, .int .i64 (x))]) (by kernel_rfl) H2.out.drew ?_
          iterate 14 (refine takeT (v := ?_) rfl (by kernel_rfl) (by kernel_rfl) (by kernel_rfl) ?_ ?_; rotate_left; (first | (refine Or.inr ⟨by rfl, ?_⟩; with_reducible rfl) | (refine Or.inl ⟨by rfl, fun W hS => detRes_value (w' := W) ?_ hS⟩; obtain ⟨x0, x1, x2, _⟩ := hS.1; go_simp; first | done | with_reducible rfl) | (refine Or.inl ⟨by rfl, fun W hS => ?_⟩; refine detRes_call (w' := W) (f := ?_) (args := ?_) ?_ ?_; rotate_left 2; (go_simp; (refine ⟨?_, ?_⟩ <;> with_reducible rfl)); (first | (with_reducible refine (HAX.out _ (HN.out.step (HB1.out.trans (hS.below.mono HB1.out.size))) (HL.out.step (HB1.out.trans (hS.below.mono HB1.out.size)))).mono ?_) | (with_reducible refine (HAB.out _ (HN.out.step (HB1.out.trans (hS.below.mono HB1.out.size))) (HL.out.step (HB1.out.trans (hS.below.mono HB1.out.size)))).mono ?_) | fail); (first | (rintro e wn ⟨rfl, hb⟩; refine ⟨?_, hS.step hb⟩; with_reducible rfl) | (rintro e wn ⟨rfl, rfl⟩; refine ⟨?_, hS⟩; with_reducible rfl) | fail)) | fail); (simp only [Act.put, List.setIfInBounds_toArray, List.set_cons_zero, List.set_cons_succ]))
          refine doneD (by kernel_rfl) fun wH3 HS => ?_
          have H3 := Lib.hid HS; clear HS
          try clear x0 x1 x2
          obtain ⟨x0, x1, x2, _⟩ := H3.out.1
          go_wp2_with fail
          exact ⟨⟨m + 1, by omega, by go_num, by rw [HUM.out], H3.out.only (fun ⟨a, b, _⟩ => ⟨a, b, trivial⟩) (fun ⟨a, b, _⟩ => ⟨a, b, trivial⟩)⟩, by simp [intOf]; omega⟩
        · rw [if_neg hg] at HUM
          have hdg : decide (ab < ax) = false := decide_eq_false hg
          go_wp2_with fail
          refine regionD (S := fun W => Held _ W [(w.heap.size, 0, .slice A ns.length c), (w.heap.size, 1, .slice A2 ls.length c2), (bb, oo + m, .int .i64 (x))]) (by kernel_rfl) H2.out.drew ?_
          iterate 14 (refine takeT (v := ?_) rfl (by kernel_rfl) (by kernel_rfl) (by kernel_rfl) ?_ ?_; rotate_left; (first | (refine Or.inr ⟨by rfl, ?_⟩; with_reducible rfl) | (refine Or.inl ⟨by rfl, fun W hS => detRes_value (w' := W) ?_ hS⟩; obtain ⟨x0, x1, x2, _⟩ := hS.1; go_simp; first | done | with_reducible rfl) | (refine Or.inl ⟨by rfl, fun W hS => ?_⟩; refine detRes_call (w' := W) (f := ?_) (args := ?_) ?_ ?_; rotate_left 2; (go_simp; (refine ⟨?_, ?_⟩ <;> with_reducible rfl)); (first | (with_reducible refine (HAX.out _ (HN.out.step (HB1.out.trans (hS.below.mono HB1.out.size))) (HL.out.step (HB1.out.trans (hS.below.mono HB1.out.size)))).mono ?_) | (with_reducible refine (HAB.out _ (HN.out.step (HB1.out.trans (hS.below.mono HB1.out.size))) (HL.out.step (HB1.out.trans (hS.below.mono HB1.out.size)))).mono ?_) | fail); (first | (rintro e wn ⟨rfl, hb⟩; refine ⟨?_, hS.step hb⟩; with_reducible rfl) | (rintro e wn ⟨rfl, rfl⟩; refine ⟨?_, hS⟩; with_reducible rfl) | fail)) | fail); (simp only [Act.put, List.setIfInBounds_toArray, List.set_cons_zero, List.set_cons_succ]))
          refine doneD (by kernel_rfl) fun wH3 HS => ?_
          have H3 := Lib.hid HS; clear HS
          try clear x0 x1 x2
          obtain ⟨x0, x1, x2, _⟩ := H3.out.1
          go_wp2_with fail
          exact ⟨⟨m + 1, by omega, by go_num, by rw [HUM.out], H3.out.only (fun ⟨a, b, _⟩ => ⟨a, b, trivial⟩) (fun ⟨a, b, _⟩ => ⟨a, b, trivial⟩)⟩, by simp [intOf]; omega⟩
    · obtain rfl : m = xs.length := by omega
      go_wp2_with fail
      go_ret
      exact ⟨ret_int HR.out.symm, HB1.out.trans (H1.out.below.mono HB1.out.size)⟩
end Go.Proofs.YtnonebfdognlmabGreat
