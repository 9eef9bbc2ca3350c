/-
  LeadBetween, of the model and of the program.
-/
import Derived.Test.YtkkjcdilpbofmaaWinS
import Derived.Test.YtkkjcdilpbofmaaWinJ
namespace Go.Proofs.Ytkkjcdilpbofmaa
open Go.RowKit
set_option linter.unusedVariables false
set_option linter.unusedSimpArgs false

/-- The first of n places from k on at which xs has p; -1 if there is none. -/
def fstGo (xs : List Nd) (p : Nd) : Nat → Nat → Int
  | _, 0 => -1
  | k, n + 1 => if atN xs k = p then (k : Int) else fstGo xs p (k + 1) n
def fstI (xs : List Nd) (p : Nd) : Int := fstGo xs p 0 xs.length
theorem fstGo_step {xs : List Nd} {p : Nd} {k : Nat} (h : k < xs.length) : fstGo xs p k (xs.length - k) = if atN xs k = p then (k : Int) else fstGo xs p (k + 1) (xs.length - (k + 1)) := by
  rw [show xs.length - k = (xs.length - (k + 1)) + 1 by omega]; rfl
theorem fstGo_end (xs : List Nd) (p : Nd) : fstGo xs p xs.length (xs.length - xs.length) = -1 := by rw [Nat.sub_self]; rfl
def betI (ns ls : List Nd) (a b : Int) : Int := if winB ns ls = true then fstI ls ⟨min a b, max a b⟩ else -1

theorem leadOf_any (a b : Int) (w : World) :
    Calls Try.prog 82 #[.int .i64 a, .int .i64 b] w (fun e w' => e = .returned (.agg #[.int .i64 (min a b), .int .i64 (max a b)]) ∧ Below w.heap.size w w') := by
  have e1 := min_if a b
  have e2 := max_if a b
  generalize min a b = m1 at *
  generalize max a b = m2 at *
  go_enter Try.func82, Try.ntmps82
  go_wp2_with fail
  refine bodyPost_ret (v := .agg #[.int .i64 m1, .int .i64 m2]) (by simp [results, Try.results82, go_sem]) rfl ⟨rfl, (Below.refl _ _).alloc (Nat.le_refl _) _⟩

theorem eqLd (a b : Nd) (w : World) : (Op.equalIn 10000 57 (.agg #[.int .i64 a.x, .int .i64 a.y]) (.agg #[.int .i64 b.x, .int .i64 b.y])).run Try.prog w = .ok (decide (a = b)) w := by
  obtain ⟨ax, ay⟩ := a
  obtain ⟨bx, by'⟩ := b
  simp only [Nd.mk.injEq]
  by_cases h1 : ax = bx
  · subst h1
    by_cases h2 : ay = by'
    · subst h2; go_simp
    · have h3 : (ay == by') = false := by rw [beq_eq_false_iff_ne]; exact h2
      go_simp
  · have h3 : (ax == bx) = false := by rw [beq_eq_false_iff_ne]; exact h1
    go_simp

theorem indexLead_any (ls : List Nd) (v : Value) (n : Nd) (w : World) (hv : Prs w v ls) :
    Calls Try.prog 101 #[v, n.val] w (IntIs (fstI ls n) w) := by
  have HN := Lib.hid hv
  have hlen := hv.len
  have H0 := Lib.hid (held1 w n 57)
  obtain ⟨A, c, rfl⟩ := prs_form2 hv
  clear hv
  have HQ := Lib.hid (fun k => eqLd n (atN ls k))
  have HV : n.val = .agg #[.int .i64 n.x, .int .i64 n.y] := rfl
  rw [HV]; clear HV
  unfold B1 at H0
  have HG := Lib.hid (fun k (h : k < ls.length) => fstGo_step (p := n) h)
  have HE := Lib.hid (fstGo_end ls n)
  have HR := Lib.hid (show fstGo ls n 0 (ls.length - 0) = fstI ls n from rfl)
  generalize fstI ls n = r at *
  obtain ⟨nx, hnx⟩ : ∃ x, x = n.x := ⟨_, rfl⟩
  obtain ⟨ny, hny⟩ : ∃ x, x = n.y := ⟨_, rfl⟩
  rw [← hnx, ← hny] at H0 HQ ⊢
  have HX := Lib.hid hnx; clear hnx
  have HY := Lib.hid hny; clear hny
  go_enter Try.func101, Try.ntmps101
  go_wp2_with fail
  go_loopw [8] (fun i wr => ∃ k : Nat, k ≤ ls.length ∧ i = .int .i64 k ∧ fstGo ls n k (ls.length - k) = r ∧ Held w wr [(w.heap.size, 0, .int .i64 nx), (w.heap.size, 1, .int .i64 ny)]) (fun i _ => ls.length - (intOf i).toNat)
  case atStart => exact ⟨0, Nat.zero_le _, rfl, HR.out, H0.out⟩
  case round =>
    clear H0
    obtain ⟨k, hk, rfl, hno, hh⟩ := hrel
    have HO := Lib.hid hno; clear hno
    have H1 := Lib.hid hh; clear hh
    obtain ⟨x0, x1, _⟩ := H1.out.1
    by_cases hlt : k < ls.length
    · obtain ⟨b, o, c', he, hbl, hcs⟩ := prs_at2 (HN.out.step H1.out.below) hlt
      injection he with he1 he2 he3
      subst he1
      clear he2 he3
      obtain ⟨c0, c1⟩ := hcs k hlt
      have q := HQ.out k
      have HGK := Lib.hid (HG.out k hlt)
      have HD := Lib.hid (show decide (n = atN ls k) = true ↔ atN ls k = n by rw [decide_eq_true_iff]; exact eq_comm)
      generalize decide (n = atN ls k) = d at *
      obtain ⟨nk, hnk⟩ : ∃ m, m = atN ls k := ⟨_, rfl⟩
      rw [← hnk] at c0 c1 q
      have HK := Lib.hid hnk; clear hnk hcs
      obtain ⟨kx, ky⟩ := nk
      simp only at c0 c1 q
      have hz1 : (k : Int) < (ls.length : Int) := by omega
      have hz2 : (0 : Int) ≤ k := by omega
      cases d
      · go_wp2_with fail
        go_quiet (fail)
        go_wp2_with fail
        exact ⟨⟨k + 1, by omega, by go_num, by rw [← HO.out, HGK.out, if_neg (fun e => by have := HD.out.2 e; cases this)], H1.out.drewN _⟩, by simp [intOf]; omega⟩
      · go_wp2_with fail
        go_quiet (fail)
        go_wp2_with fail
        go_ret
        exact ⟨ret_int (by rw [← HO.out, HGK.out, if_pos (HD.out.1 trivial)]), (H1.out.drewN _).below⟩
    · obtain rfl : k = ls.length := by omega
      go_wp2_with fail
      go_ret
      exact ⟨ret_int (by rw [← HO.out, HE.out]), H1.out.below⟩

set_option maxRecDepth 100000 in
theorem implBet (ns ls : List Nd) (vn vl : Value) (a b : Int) (w : World) (hn : Prs w vn ns) (hl : Prs w vl ls) :
    Calls Try.prog 67 #[.agg #[vn, vl], .int .i64 a, .int .i64 b] w (IntIs (betI ns ls a b) w) := by
  have HN := Lib.hid hn
  have HL := Lib.hid hl
  obtain ⟨A, c, rfl⟩ := prs_form2 hn
  obtain ⟨A2, c2, rfl⟩ := prs_form2 hl
  clear hn hl
  have H0 := Lib.hid (held_pair w (.slice A ns.length c) (.slice A2 ls.length c2) 38)
  have HW := Lib.hid (fun w h1 h2 => implWin ns ls (.slice A ns.length c) (.slice A2 ls.length c2) w h1 h2)
  have HO := Lib.hid (leadOf_any a b)
  have HI := Lib.hid (fun w h => indexLead_any ls (.slice A2 ls.length c2) ⟨min a b, max a b⟩ w h)
  have HR := Lib.hid (show betI ns ls a b = if winB ns ls = true then fstI ls ⟨min a b, max a b⟩ else -1 from rfl)
  generalize betI ns ls a b = r at *
  generalize winB ns ls = d at *
  generalize fstI ls ⟨min a b, max a b⟩ = f at *
  unfold Nd.val at HI
  simp only at HI
  generalize min a b = m1 at *
  generalize max a b = m2 at *
  cases d
  · go_enter Try.func67, Try.ntmps67
    go_wp2_with fail
    refine (HW.out _ (HN.out.step H0.out.below) (HL.out.step H0.out.below)).mono ?_
    rintro e wH1 ⟨rfl, hb⟩
    have H1 := Lib.hid ((H0.out).step hb); clear hb
    try clear x0 x1
    obtain ⟨x0, x1, _⟩ := H1.out.1
    go_wp2_with fail
    go_ret
    exact ⟨ret_int (by rw [HR.out]; simp), H1.out.below⟩
  · go_enter Try.func67, Try.ntmps67
    go_wp2_with fail
    refine (HW.out _ (HN.out.step H0.out.below) (HL.out.step H0.out.below)).mono ?_
    rintro e wH1 ⟨rfl, hb⟩
    have H1 := Lib.hid ((H0.out).step hb); clear hb
    try clear x0 x1
    obtain ⟨x0, x1, _⟩ := H1.out.1
    go_wp2_with fail
    refine regionD (S := fun W => Held _ W [(w.heap.size, 0, .slice A ns.length c), (w.heap.size, 1, .slice A2 ls.length c2)]) (by kernel_rfl) H1.out.drew ?_
    iterate 7 (refine takeT (v := ?_) rfl (by kernel_rfl) (by kernel_rfl) (by kernel_rfl) ?_ ?_; rotate_left; (first | (refine Or.inr ⟨by rfl, ?_⟩; with_reducible rfl) | (refine Or.inl ⟨by rfl, fun W hS => detRes_value (w' := W) ?_ hS⟩; obtain ⟨x0, x1, _⟩ := hS.1; go_simp; first | done | with_reducible rfl) | (refine Or.inl ⟨by rfl, fun W hS => ?_⟩; refine detRes_call (w' := W) (f := ?_) (args := ?_) ?_ ?_; rotate_left 2; (go_simp; (refine ⟨?_, ?_⟩ <;> with_reducible rfl)); (first | (with_reducible refine (HO.out _).mono ?_) | (with_reducible refine (HI.out _ (HL.out.step hS.below)).mono ?_) | fail); (first | (rintro e wn ⟨rfl, hb⟩; refine ⟨?_, hS.step hb⟩; with_reducible rfl) | (rintro e wn ⟨rfl, rfl⟩; refine ⟨?_, hS⟩; with_reducible rfl) | fail)) | fail); (simp only [Act.put, List.setIfInBounds_toArray, List.set_cons_zero, List.set_cons_succ]))
    refine doneD (by kernel_rfl) fun wH2 HS => ?_
    have H2 := Lib.hid HS; clear HS
    try clear x0 x1
    obtain ⟨x0, x1, _⟩ := H2.out.1
    go_wp2_with fail
    go_ret
    exact ⟨ret_int (by rw [HR.out]; simp), H2.out.below⟩

set_option maxRecDepth 100000 in
theorem specBet (ns ls : List Nd) (vn vl : Value) (a b : Int) (w : World) (hn : Prs w vn ns) (hl : Prs w vl ls) :
    Calls Try.prog 66 #[.agg #[vn, vl], .int .i64 a, .int .i64 b] w (IntIs (betI ns ls a b) w) := by
  have HN := Lib.hid hn
  have HL := Lib.hid hl
  have hlen := hl.len
  obtain ⟨A, c, rfl⟩ := prs_form2 hn
  obtain ⟨A2, c2, rfl⟩ := prs_form2 hl
  clear hn hl
  have H0 := Lib.hid (heldW w (.slice A ns.length c) (.slice A2 ls.length c2) 38)
  unfold BW at H0
  have HW := Lib.hid (fun w h1 h2 => specWin ns ls (.slice A ns.length c) (.slice A2 ls.length c2) w h1 h2)
  have HR := Lib.hid (show betI ns ls a b = if winB ns ls = true then fstGo ls ⟨min a b, max a b⟩ 0 (ls.length - 0) else -1 from rfl)
  have HG := Lib.hid (fun k (h : k < ls.length) => fstGo_step (p := ⟨min a b, max a b⟩) h)
  have HE := Lib.hid (fstGo_end ls ⟨min a b, max a b⟩)
  have e1 := min_if a b
  have e2 := max_if a b
  generalize betI ns ls a b = r at *
  generalize winB ns ls = d at *
  generalize min a b = m1 at *
  generalize max a b = m2 at *
  have HD0 := Lib.hid (show d = false → r = -1 from fun h => by rw [HR.out, h]; rfl)
  have HD1 := Lib.hid (show d = true → fstGo ls ⟨m1, m2⟩ 0 (ls.length - 0) = r from fun h => by rw [HR.out, if_pos h])
  clear HR
  cases d
  · go_enter Try.func66, Try.ntmps66
    go_wp2_with fail
    go_loopw [7] (fun i wr => i = .int .i64 0 ∧ Held w wr [(w.heap.size, 0, .slice A ns.length c), (w.heap.size, 1, .slice A2 ls.length c2)]) (fun i _ => 0)
    case atStart => exact ⟨rfl, H0.out⟩
    case round =>
      clear H0
      obtain ⟨rfl, hh⟩ := hrel
      have H1 := Lib.hid hh; clear hh
      obtain ⟨x0, x1, _⟩ := H1.out.1
      by_cases hlt : 0 < ls.length
      · go_wp2_with fail
        refine (HW.out _ (HN.out.step H1.out.below) (HL.out.step H1.out.below)).mono ?_
        rintro e wH2 ⟨rfl, hb⟩
        have H2 := Lib.hid ((H1.out).step hb); clear hb
        try clear x0 x1
        obtain ⟨x0, x1, _⟩ := H2.out.1
        go_wp2_with fail
        go_ret
        exact ⟨ret_int (HD0.out trivial).symm, H2.out.below⟩
      · go_wp2_with fail
        go_ret
        exact ⟨ret_int (HD0.out trivial).symm, H1.out.below⟩
  · go_enter Try.func66, Try.ntmps66
    go_wp2_with fail
    go_loopw [7] (fun i wr => ∃ k : Nat, k ≤ ls.length ∧ i = .int .i64 k ∧ fstGo ls ⟨m1, m2⟩ k (ls.length - k) = r ∧ Held w wr [(w.heap.size, 0, .slice A ns.length c), (w.heap.size, 1, .slice A2 ls.length c2)]) (fun i _ => ls.length - (intOf i).toNat)
    case atStart => exact ⟨0, Nat.zero_le _, rfl, HD1.out trivial, H0.out⟩
    case round =>
      clear H0
      obtain ⟨k, hk, rfl, hno, hh⟩ := hrel
      have HO := Lib.hid hno; clear hno
      have H1 := Lib.hid hh; clear hh
      obtain ⟨x0, x1, _⟩ := H1.out.1
      by_cases hlt : k < ls.length
      · obtain ⟨b', o, c', he, hbl, hcs⟩ := prs_at2 (HL.out.step H1.out.below) hlt
        injection he with he1 he2 he3
        subst he1
        clear he2 he3
        have H2 := Lib.hid (held_more H1.out (P1_cs hcs hlt) (P1_bs (k := k) hbl))
        unfold P1 at H2
        clear hcs
        have HGK := Lib.hid (HG.out k hlt)
        have HD := Lib.hid (show (atN ls k = ⟨m1, m2⟩) ↔ ((atN ls k).x = m1 ∧ (atN ls k).y = m2) by cases atN ls k; simp)
        generalize (atN ls k).x = kx at *
        generalize (atN ls k).y = ky at *
        clear x0 x1
        have hz1 : (k : Int) < (ls.length : Int) := by omega
        have hz2 : (0 : Int) ≤ k := by omega
        obtain ⟨x0, x1, x2, x3, _⟩ := H2.out.1
        by_cases ex : kx = m1
        · subst ex
          by_cases ey : ky = m2
          · subst ey
            go_wp2_with fail
            refine (HW.out _ (HN.out.step H2.out.below) (HL.out.step H2.out.below)).mono ?_
            rintro e wH3 ⟨rfl, hb⟩
            have H3 := Lib.hid ((H2.out).step hb); clear hb
            try clear x0 x1 x2 x3
            obtain ⟨x0, x1, x2, x3, _⟩ := H3.out.1
            go_wp2_with fail
            go_ret
            exact ⟨ret_int (by rw [← HO.out, HGK.out, if_pos (HD.out.2 (by simp))]), H3.out.below⟩
          · have g1 : (ky == m2) = false := by rw [beq_eq_false_iff_ne]; exact ey
            have EY := Lib.hid ey; clear ey
            go_wp2_with fail
            refine (HW.out _ (HN.out.step H2.out.below) (HL.out.step H2.out.below)).mono ?_
            rintro e wH3 ⟨rfl, hb⟩
            have H3 := Lib.hid ((H2.out).step hb); clear hb
            try clear x0 x1 x2 x3
            obtain ⟨x0, x1, x2, x3, _⟩ := H3.out.1
            go_wp2_with fail
            exact ⟨⟨k + 1, by omega, by go_num, by rw [← HO.out, HGK.out, if_neg (fun e => EY.out (HD.out.1 e).2)], H3.out.only (fun ⟨a, b, _⟩ => ⟨a, b, trivial⟩) (fun ⟨a, b, _⟩ => ⟨a, b, trivial⟩)⟩, by simp [intOf]; omega⟩
        · have g1 : (kx == m1) = false := by rw [beq_eq_false_iff_ne]; exact ex
          have EX := Lib.hid ex; clear ex
          go_wp2_with fail
          refine (HW.out _ (HN.out.step H2.out.below) (HL.out.step H2.out.below)).mono ?_
          rintro e wH3 ⟨rfl, hb⟩
          have H3 := Lib.hid ((H2.out).step hb); clear hb
          try clear x0 x1 x2 x3
          obtain ⟨x0, x1, x2, x3, _⟩ := H3.out.1
          go_wp2_with fail
          exact ⟨⟨k + 1, by omega, by go_num, by rw [← HO.out, HGK.out, if_neg (fun e => EX.out (HD.out.1 e).1)], H3.out.only (fun ⟨a, b, _⟩ => ⟨a, b, trivial⟩) (fun ⟨a, b, _⟩ => ⟨a, b, trivial⟩)⟩, by simp [intOf]; omega⟩
      · obtain rfl : k = ls.length := by omega
        go_wp2_with fail
        go_ret
        exact ⟨ret_int (by rw [← HO.out, HE.out]), H1.out.below⟩
end Go.Proofs.Ytkkjcdilpbofmaa
