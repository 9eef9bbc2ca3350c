/-
  The order in which panes are fired, of the program: how two are compared.
-/
import Derived.Test.YtfppnaknnijobabTri
import Derived.Test.YtfppnaknnijobabTrp
import Derived.Test.YtfppnaknnijobabSeq
import Derived.Test.YtfppnaknnijobabDetW
import Derived.BigQuiet
namespace Go.Proofs.Ytfppnaknnijobab
open Go.RowKit
set_option linter.unusedVariables false
set_option linter.unusedSimpArgs false

def cmpI (a b : Int) : Int := if a < b then -1 else if b < a then 1 else 0
def orI (a b c : Int) : Int := if a ≠ 0 then a else if b ≠ 0 then b else c
theorem isNaN_int (a : Int) (w : World) : Calls Try.prog 123 #[.int .i64 a] w (BoolIs false w) := by
  go_enter Try.func123, Try.ntmps123
  go_wp2_with fail
  go_ret
  exact ⟨by simp, Below.refl _ _⟩
set_option maxRecDepth 100000 in
theorem cmp_int (a b : Int) (w : World) : Calls Try.prog 104 #[.int .i64 a, .int .i64 b] w (IntIs (cmpI a b) w) := by
  have HN := Lib.hid (fun a w => isNaN_int a w)
  unfold BoolIs at HN
  have H0 := Lib.hid (Held.none_ w)
  by_cases h1 : a < b
  · have HR := Lib.hid (show cmpI a b = -1 from by unfold cmpI; rw [if_pos h1])
    generalize cmpI a b = r at *
    go_enter Try.func104, Try.ntmps104
    go_wp2_with fail
    refine (HN.out _ _).mono ?_
    rintro e wH1 ⟨rfl, hb⟩
    have H1 := Lib.hid ((H0.out).step hb); clear hb
    go_wp2_with fail
    refine (HN.out _ _).mono ?_
    rintro e wH2 ⟨rfl, hb⟩
    have H2 := Lib.hid ((H1.out).step hb); clear hb
    go_wp2_with fail
    go_ret
    exact ⟨ret_int HR.out.symm, H2.out.below⟩
  by_cases h2 : b < a
  · have HR := Lib.hid (show cmpI a b = 1 from by unfold cmpI; rw [if_neg h1, if_pos h2])
    generalize cmpI a b = r at *
    go_enter Try.func104, Try.ntmps104
    go_wp2_with fail
    refine (HN.out _ _).mono ?_
    rintro e wH1 ⟨rfl, hb⟩
    have H1 := Lib.hid ((H0.out).step hb); clear hb
    go_wp2_with fail
    refine (HN.out _ _).mono ?_
    rintro e wH2 ⟨rfl, hb⟩
    have H2 := Lib.hid ((H1.out).step hb); clear hb
    go_wp2_with fail
    go_ret
    exact ⟨ret_int HR.out.symm, H2.out.below⟩
  · have HR := Lib.hid (show cmpI a b = 0 from by unfold cmpI; rw [if_neg h1, if_neg h2])
    generalize cmpI a b = r at *
    go_enter Try.func104, Try.ntmps104
    go_wp2_with fail
    refine (HN.out _ _).mono ?_
    rintro e wH1 ⟨rfl, hb⟩
    have H1 := Lib.hid ((H0.out).step hb); clear hb
    go_wp2_with fail
    refine (HN.out _ _).mono ?_
    rintro e wH2 ⟨rfl, hb⟩
    have H2 := Lib.hid ((H1.out).step hb); clear hb
    go_wp2_with fail
    go_ret
    exact ⟨ret_int HR.out.symm, H2.out.below⟩

set_option maxRecDepth 100000 in
theorem or_int (a b c : Int) (v : Value) (w : World) (hv : Seq w v [a, b, c]) : Calls Try.prog 103 #[v] w (IntIs (orI a b c) w) := by
  have HV := Lib.hid hv
  obtain ⟨A, cp, rfl⟩ := seq_form2 hv
  clear hv
  have HR := Lib.hid (show ∀ j, j < 3 → (∀ i, i < j → atZ [a, b, c] i = 0) → atZ [a, b, c] j ≠ 0 → orI a b c = atZ [a, b, c] j from fun j hj h0 h1 => by
    unfold orI
    match j, hj with
    | 0, _ => exact if_pos h1
    | 1, _ =>
      have a0 : a = 0 := h0 0 (by omega)
      exact (if_neg (by simp [a0])).trans (if_pos h1)
    | 2, _ =>
      have a0 : a = 0 := h0 0 (by omega)
      have b0 : b = 0 := h0 1 (by omega)
      exact (if_neg (by simp [a0])).trans (if_neg (by simp [b0])))
  have HZ := Lib.hid (show (∀ i, i < 3 → atZ [a, b, c] i = 0) → orI a b c = 0 from fun h0 => by
    have a0 : a = 0 := h0 0 (by omega)
    have b0 : b = 0 := h0 1 (by omega)
    have c0 : c = 0 := h0 2 (by omega)
    unfold orI
    rw [if_neg (by simp [a0]), if_neg (by simp [b0]), c0])
  generalize orI a b c = r at *
  have hl : [a, b, c].length = 3 := rfl
  generalize [a, b, c] = L at *
  rw [hl]
  go_enter Try.func103, Try.ntmps103
  go_wp2_with fail
  go_loopw [8] (fun i wr => ∃ m : Nat, m ≤ 3 ∧ i = .int .i64 m ∧ (∀ j, j < m → atZ L j = 0) ∧ Held w wr []) (fun i _ => 3 - (intOf i).toNat)
  case atStart => exact ⟨0, Nat.zero_le _, rfl, fun j hj => by omega, Held.none_ w⟩
  case round =>
    obtain ⟨m, hm, rfl, ha, hh⟩ := hrel
    have HA := Lib.hid ha; clear ha
    have H1 := Lib.hid hh; clear hh
    by_cases hlt : m < 3
    · obtain ⟨A6', c6', e6, -, -, hcs⟩ := (HV.out.step H1.out.below).form
      simp only [Value.slice.injEq] at e6
      obtain ⟨rfl, -, -⟩ := e6
      obtain ⟨bb, oo, rfl, -, k0⟩ := hcs m (by omega)
      clear hcs
      have q1 : (0 : Int) ≤ m := by omega
      have q2 : (m : Int) < 3 := by omega
      have HRM := Lib.hid (fun h => HR.out m hlt HA.out h)
      have HAM := Lib.hid (fun (h : atZ L m = 0) => (fun j (hj : j < m + 1) => (if e : j = m then e ▸ h else HA.out j (by omega)) : ∀ j, j < m + 1 → atZ L j = 0))
      generalize atZ L m = z at *
      by_cases hz : z = 0
      · have HAM := Lib.hid (HAM.out hz)
        have hzb : (z != 0) = false := by simp [hz]
        clear hz
        go_wp2_with fail
        exact ⟨⟨m + 1, by omega, by go_num, HAM.out, H1.out⟩, by simp [intOf]; omega⟩
      · have HRM := Lib.hid (HRM.out hz)
        have hzb : (z != 0) = true := by simp [hz]
        clear hz
        go_wp2_with fail
        go_ret
        exact ⟨ret_int HRM.out.symm, H1.out.below⟩
    · obtain rfl : m = 3 := by omega
      have HZZ := Lib.hid (HZ.out HA.out)
      go_wp2_with fail
      go_ret
      exact ⟨ret_int HZZ.out.symm, H1.out.below⟩

/-- How the panes i and j stand to each other. -/
def fcmp (xs : List Tr) (i j : Int) : Int := orI (cmpI (atT xs j.toNat).x (atT xs i.toNat).x) (cmpI (atT xs i.toNat).y (atT xs j.toNat).y) (cmpI i j)
theorem freeR_three {w : World} {r : Result Next} {a b c : Int} (h : r = .ok (.value (.slice (some ⟨w.heap.size, 0, none⟩) 3 3)) (w.alloc (.cells #[.int .i64 a, .int .i64 b, .int .i64 c] 3))) :
    FreeR Try.prog (fun v W => Seq W v [a, b, c]) w r := by
  subst h
  refine ⟨⟨_, _, rfl, Nat.le_refl _, by unfold maxLen; decide, fun _ => ⟨w.heap.size, 0, rfl, by simp, fun k hk => ?_⟩⟩, (Below.refl _ _).alloc (Nat.le_refl _) _⟩
  have hb := heap_alloc_new w (.cells #[.int .i64 a, .int .i64 b, .int .i64 c] 3)
  match k, hk with
  | 0, _ => exact (cell_of_cells (k := 0) hb).trans rfl
  | 1, _ => exact (cell_of_cells (k := 1) hb).trans rfl
  | 2, _ => exact (cell_of_cells (k := 2) hb).trans rfl
  | k + 3, hk => exact absurd hk (by simp)
set_option maxRecDepth 100000 in
set_option maxHeartbeats 1000000 in
theorem fireCmp (xs : List Tr) (v : Value) (bp i j : Nat) (w : World) (hp : w.cell? ⟨bp, 0, none⟩ = some v) (hbp : bp < w.heap.size) (hv : Trs w v xs) (hi : i < xs.length) (hj : j < xs.length) :
    Calls Try.prog 102 #[.int .i64 i, .int .i64 j, .pointer (some ⟨bp, 0, none⟩)] w (IntIs (fcmp xs i j) w) := by
  have hlen := hv.len
  obtain ⟨A, c, rfl, -, -, hcs⟩ := hv.form
  obtain ⟨bb, o, rfl, hbl, g0, g1, -⟩ := hcs i hi
  obtain ⟨b2, o2, e, -, g2, g3, -⟩ := hcs j hj
  injection e with e
  injection e with e1 e2
  subst e1; subst e2
  clear hcs hv
  have HR := Lib.hid (show fcmp xs i j = orI (cmpI (atT xs j).x (atT xs i).x) (cmpI (atT xs i).y (atT xs j).y) (cmpI i j) from rfl)
  have H0 := Lib.hid (show Held w w [(bp, 0, .slice (some ⟨bb, o, none⟩) xs.length c), (bb, o + i * 3, .int .i64 (atT xs i).x), (bb, o + i * 3 + 1, .int .i64 (atT xs i).y), (bb, o + j * 3, .int .i64 (atT xs j).x), (bb, o + j * 3 + 1, .int .i64 (atT xs j).y)] from
    ⟨⟨hp, g0, g1, g2, g3, trivial⟩, ⟨hbp, hbl, hbl, hbl, hbl, trivial⟩, Below.refl _ _⟩)
  have HC := Lib.hid (fun a b w => cmp_int a b w)
  generalize (atT xs i).x = xi at *
  generalize (atT xs i).y = yi at *
  generalize (atT xs j).x = xj at *
  generalize (atT xs j).y = yj at *
  have C1 := Lib.hid (fun w => HC.out xj xi w)
  have C2 := Lib.hid (fun w => HC.out yi yj w)
  have C3 := Lib.hid (fun w => HC.out i j w)
  have HOR := Lib.hid (fun v w h => or_int (cmpI xj xi) (cmpI yi yj) (cmpI i j) v w h)
  rw [← HR.out] at HOR
  generalize cmpI xj xi = k1 at *
  generalize cmpI yi yj = k2 at *
  generalize cmpI (i : Int) (j : Int) = k3 at *
  unfold IntIs at C1 C2 C3 HOR
  clear HC HR g0 g1 g2 g3 hp hbp hbl
  generalize fcmp xs i j = r at *
  have q1 : (0 : Int) ≤ i := by omega
  have q2 : (i : Int) < (xs.length : Int) := by omega
  have q3 : (0 : Int) ≤ j := by omega
  have q4 : (j : Int) < (xs.length : Int) := by omega
  clear hi hj
  go_enter Try.func102, Try.ntmps102
  obtain ⟨x0, x1, x2, x3, x4, _⟩ := H0.out.1
  go_wp2_with fail
  refine regionW (fun W => Held _ W [(bp, 0, .slice (some ⟨bb, o, none⟩) xs.length c), (bb, o + i * 3, .int .i64 (xi)), (bb, o + i * 3 + 1, .int .i64 (yi)), (bb, o + j * 3, .int .i64 (xj)), (bb, o + j * 3 + 1, .int .i64 (yj))]) (by kernel_rfl) H0.out.drew ?_
  refine takeW (i := 0) (v := ?_) (Stable.held _ _) rfl (by kernel_rfl) (by kernel_rfl) (by kernel_rfl) (fun _ _ _ h => h) ?_ ?_
  rotate_left
  · first | (refine Or.inl ⟨by rfl, fun W hS => detR_value (w' := W) ?_ (Below.refl _ _)⟩; have hH := hS; obtain ⟨x0, x1, x2, x3, x4, _⟩ := hH.1; go_simp; first | done | with_reducible rfl) | fail
  simp only [Act.put, List.setIfInBounds_toArray, List.set_cons_zero, List.set_cons_succ]
  refine takeW (i := 1) (v := ?_) (Stable.held _ _) rfl (by kernel_rfl) (by kernel_rfl) (by kernel_rfl) (fun _ _ _ h => h) ?_ ?_
  rotate_left
  · first | (refine Or.inl ⟨by rfl, fun W hS => detR_value (w' := W) ?_ (Below.refl _ _)⟩; have hH := hS; obtain ⟨x0, x1, x2, x3, x4, _⟩ := hH.1; go_simp; first | done | with_reducible rfl) | fail
  simp only [Act.put, List.setIfInBounds_toArray, List.set_cons_zero, List.set_cons_succ]
  refine takeW (i := 2) (v := ?_) (Stable.held _ _) rfl (by kernel_rfl) (by kernel_rfl) (by kernel_rfl) (fun _ _ _ h => h) ?_ ?_
  rotate_left
  · first | (refine Or.inl ⟨by rfl, fun W hS => detR_value (w' := W) ?_ (Below.refl _ _)⟩; have hH := hS; obtain ⟨x0, x1, x2, x3, x4, _⟩ := hH.1; go_simp; first | done | with_reducible rfl) | fail
  simp only [Act.put, List.setIfInBounds_toArray, List.set_cons_zero, List.set_cons_succ]
  refine takeW (i := 3) (v := ?_) (Stable.held _ _) rfl (by kernel_rfl) (by kernel_rfl) (by kernel_rfl) (fun _ _ _ h => h) ?_ ?_
  rotate_left
  · first | (refine Or.inl ⟨by rfl, fun W hS => detR_value (w' := W) ?_ (Below.refl _ _)⟩; have hH := hS; obtain ⟨x0, x1, x2, x3, x4, _⟩ := hH.1; go_simp; first | done | with_reducible rfl) | fail
  simp only [Act.put, List.setIfInBounds_toArray, List.set_cons_zero, List.set_cons_succ]
  refine takeW (i := 4) (v := ?_) (Stable.held _ _) rfl (by kernel_rfl) (by kernel_rfl) (by kernel_rfl) (fun _ _ _ h => h) ?_ ?_
  rotate_left
  · first | (refine Or.inl ⟨by rfl, fun W hS => detR_value (w' := W) ?_ (Below.refl _ _)⟩; have hH := hS; obtain ⟨x0, x1, x2, x3, x4, _⟩ := hH.1; go_simp; first | done | with_reducible rfl) | fail
  simp only [Act.put, List.setIfInBounds_toArray, List.set_cons_zero, List.set_cons_succ]
  refine takeW (i := 5) (v := ?_) (Stable.held _ _) rfl (by kernel_rfl) (by kernel_rfl) (by kernel_rfl) (fun _ _ _ h => h) ?_ ?_
  rotate_left
  · first | (refine Or.inl ⟨by rfl, fun W hS => detR_value (w' := W) ?_ (Below.refl _ _)⟩; have hH := hS; obtain ⟨x0, x1, x2, x3, x4, _⟩ := hH.1; go_simp; first | done | with_reducible rfl) | fail
  simp only [Act.put, List.setIfInBounds_toArray, List.set_cons_zero, List.set_cons_succ]
  refine takeW (i := 6) (v := ?_) (Stable.held _ _) rfl (by kernel_rfl) (by kernel_rfl) (by kernel_rfl) (fun _ _ _ h => h) ?_ ?_
  rotate_left
  · first | (refine Or.inl ⟨by rfl, fun W hS => detR_value (w' := W) ?_ (Below.refl _ _)⟩; have hH := hS; obtain ⟨x0, x1, x2, x3, x4, _⟩ := hH.1; go_simp; first | done | with_reducible rfl) | fail
  simp only [Act.put, List.setIfInBounds_toArray, List.set_cons_zero, List.set_cons_succ]
  refine takeW (i := 7) (v := ?_) (Stable.held _ _) rfl (by kernel_rfl) (by kernel_rfl) (by kernel_rfl) (fun _ _ _ h => h) ?_ ?_
  rotate_left
  · first | (refine Or.inl ⟨by rfl, fun W hS => detR_value (w' := W) ?_ (Below.refl _ _)⟩; have hH := hS; obtain ⟨x0, x1, x2, x3, x4, _⟩ := hH.1; go_simp; first | done | with_reducible rfl) | fail
  simp only [Act.put, List.setIfInBounds_toArray, List.set_cons_zero, List.set_cons_succ]
  refine takeW (i := 8) (v := ?_) (Stable.held _ _) rfl (by kernel_rfl) (by kernel_rfl) (by kernel_rfl) (fun _ _ _ h => h) ?_ ?_
  rotate_left
  · first | (refine Or.inl ⟨by rfl, fun W hS => detR_value (w' := W) ?_ (Below.refl _ _)⟩; have hH := hS; obtain ⟨x0, x1, x2, x3, x4, _⟩ := hH.1; go_simp; first | done | with_reducible rfl) | fail
  simp only [Act.put, List.setIfInBounds_toArray, List.set_cons_zero, List.set_cons_succ]
  refine takeW (i := 9) (v := ?_) (Stable.held _ _) rfl (by kernel_rfl) (by kernel_rfl) (by kernel_rfl) (fun _ _ _ h => h) ?_ ?_
  rotate_left
  · first | (refine Or.inl ⟨by rfl, fun W hS => detR_value (w' := W) ?_ (Below.refl _ _)⟩; have hH := hS; obtain ⟨x0, x1, x2, x3, x4, _⟩ := hH.1; go_simp; first | done | with_reducible rfl) | fail
  simp only [Act.put, List.setIfInBounds_toArray, List.set_cons_zero, List.set_cons_succ]
  refine takeW (i := 10) (v := ?_) (Stable.held _ _) rfl (by kernel_rfl) (by kernel_rfl) (by kernel_rfl) (fun _ _ _ h => h) ?_ ?_
  rotate_left
  · first | (refine Or.inl ⟨by rfl, fun W hS => ?_⟩; have hH := hS; refine detR_call (w' := W) (f := ?_) (args := ?_) ?_ ?_; rotate_left 2; (go_simp; (refine ⟨?_, ?_⟩ <;> with_reducible rfl)); (first | (with_reducible refine (C1.out _).mono ?_) | (with_reducible refine (C2.out _).mono ?_) | (with_reducible refine (C3.out _).mono ?_) | fail); (first | (rintro e wn ⟨rfl, hb⟩; refine ⟨?_, hb⟩; with_reducible rfl) | (rintro e wn ⟨rfl, rfl⟩; refine ⟨?_, Below.refl _ _⟩; with_reducible rfl) | fail)) | fail
  simp only [Act.put, List.setIfInBounds_toArray, List.set_cons_zero, List.set_cons_succ]
  refine takeW (i := 11) (v := ?_) (Stable.held _ _) rfl (by kernel_rfl) (by kernel_rfl) (by kernel_rfl) (fun _ _ _ h => h) ?_ ?_
  rotate_left
  · first | (refine Or.inl ⟨by rfl, fun W hS => detR_value (w' := W) ?_ (Below.refl _ _)⟩; have hH := hS; obtain ⟨x0, x1, x2, x3, x4, _⟩ := hH.1; go_simp; first | done | with_reducible rfl) | fail
  simp only [Act.put, List.setIfInBounds_toArray, List.set_cons_zero, List.set_cons_succ]
  refine takeW (i := 12) (v := ?_) (Stable.held _ _) rfl (by kernel_rfl) (by kernel_rfl) (by kernel_rfl) (fun _ _ _ h => h) ?_ ?_
  rotate_left
  · first | (refine Or.inl ⟨by rfl, fun W hS => detR_value (w' := W) ?_ (Below.refl _ _)⟩; have hH := hS; obtain ⟨x0, x1, x2, x3, x4, _⟩ := hH.1; go_simp; first | done | with_reducible rfl) | fail
  simp only [Act.put, List.setIfInBounds_toArray, List.set_cons_zero, List.set_cons_succ]
  refine takeW (i := 13) (v := ?_) (Stable.held _ _) rfl (by kernel_rfl) (by kernel_rfl) (by kernel_rfl) (fun _ _ _ h => h) ?_ ?_
  rotate_left
  · first | (refine Or.inl ⟨by rfl, fun W hS => detR_value (w' := W) ?_ (Below.refl _ _)⟩; have hH := hS; obtain ⟨x0, x1, x2, x3, x4, _⟩ := hH.1; go_simp; first | done | with_reducible rfl) | fail
  simp only [Act.put, List.setIfInBounds_toArray, List.set_cons_zero, List.set_cons_succ]
  refine takeW (i := 14) (v := ?_) (Stable.held _ _) rfl (by kernel_rfl) (by kernel_rfl) (by kernel_rfl) (fun _ _ _ h => h) ?_ ?_
  rotate_left
  · first | (refine Or.inl ⟨by rfl, fun W hS => detR_value (w' := W) ?_ (Below.refl _ _)⟩; have hH := hS; obtain ⟨x0, x1, x2, x3, x4, _⟩ := hH.1; go_simp; first | done | with_reducible rfl) | fail
  simp only [Act.put, List.setIfInBounds_toArray, List.set_cons_zero, List.set_cons_succ]
  refine takeW (i := 15) (v := ?_) (Stable.held _ _) rfl (by kernel_rfl) (by kernel_rfl) (by kernel_rfl) (fun _ _ _ h => h) ?_ ?_
  rotate_left
  · first | (refine Or.inl ⟨by rfl, fun W hS => detR_value (w' := W) ?_ (Below.refl _ _)⟩; have hH := hS; obtain ⟨x0, x1, x2, x3, x4, _⟩ := hH.1; go_simp; first | done | with_reducible rfl) | fail
  simp only [Act.put, List.setIfInBounds_toArray, List.set_cons_zero, List.set_cons_succ]
  refine takeW (i := 16) (v := ?_) (Stable.held _ _) rfl (by kernel_rfl) (by kernel_rfl) (by kernel_rfl) (fun _ _ _ h => h) ?_ ?_
  rotate_left
  · first | (refine Or.inl ⟨by rfl, fun W hS => detR_value (w' := W) ?_ (Below.refl _ _)⟩; have hH := hS; obtain ⟨x0, x1, x2, x3, x4, _⟩ := hH.1; go_simp; first | done | with_reducible rfl) | fail
  simp only [Act.put, List.setIfInBounds_toArray, List.set_cons_zero, List.set_cons_succ]
  refine takeW (i := 17) (v := ?_) (Stable.held _ _) rfl (by kernel_rfl) (by kernel_rfl) (by kernel_rfl) (fun _ _ _ h => h) ?_ ?_
  rotate_left
  · first | (refine Or.inl ⟨by rfl, fun W hS => detR_value (w' := W) ?_ (Below.refl _ _)⟩; have hH := hS; obtain ⟨x0, x1, x2, x3, x4, _⟩ := hH.1; go_simp; first | done | with_reducible rfl) | fail
  simp only [Act.put, List.setIfInBounds_toArray, List.set_cons_zero, List.set_cons_succ]
  refine takeW (i := 18) (v := ?_) (Stable.held _ _) rfl (by kernel_rfl) (by kernel_rfl) (by kernel_rfl) (fun _ _ _ h => h) ?_ ?_
  rotate_left
  · first | (refine Or.inl ⟨by rfl, fun W hS => detR_value (w' := W) ?_ (Below.refl _ _)⟩; have hH := hS; obtain ⟨x0, x1, x2, x3, x4, _⟩ := hH.1; go_simp; first | done | with_reducible rfl) | fail
  simp only [Act.put, List.setIfInBounds_toArray, List.set_cons_zero, List.set_cons_succ]
  refine takeW (i := 19) (v := ?_) (Stable.held _ _) rfl (by kernel_rfl) (by kernel_rfl) (by kernel_rfl) (fun _ _ _ h => h) ?_ ?_
  rotate_left
  · first | (refine Or.inl ⟨by rfl, fun W hS => detR_value (w' := W) ?_ (Below.refl _ _)⟩; have hH := hS; obtain ⟨x0, x1, x2, x3, x4, _⟩ := hH.1; go_simp; first | done | with_reducible rfl) | fail
  simp only [Act.put, List.setIfInBounds_toArray, List.set_cons_zero, List.set_cons_succ]
  refine takeW (i := 20) (v := ?_) (Stable.held _ _) rfl (by kernel_rfl) (by kernel_rfl) (by kernel_rfl) (fun _ _ _ h => h) ?_ ?_
  rotate_left
  · first | (refine Or.inl ⟨by rfl, fun W hS => detR_value (w' := W) ?_ (Below.refl _ _)⟩; have hH := hS; obtain ⟨x0, x1, x2, x3, x4, _⟩ := hH.1; go_simp; first | done | with_reducible rfl) | fail
  simp only [Act.put, List.setIfInBounds_toArray, List.set_cons_zero, List.set_cons_succ]
  refine takeW (i := 21) (v := ?_) (Stable.held _ _) rfl (by kernel_rfl) (by kernel_rfl) (by kernel_rfl) (fun _ _ _ h => h) ?_ ?_
  rotate_left
  · first | (refine Or.inl ⟨by rfl, fun W hS => ?_⟩; have hH := hS; refine detR_call (w' := W) (f := ?_) (args := ?_) ?_ ?_; rotate_left 2; (go_simp; (refine ⟨?_, ?_⟩ <;> with_reducible rfl)); (first | (with_reducible refine (C1.out _).mono ?_) | (with_reducible refine (C2.out _).mono ?_) | (with_reducible refine (C3.out _).mono ?_) | fail); (first | (rintro e wn ⟨rfl, hb⟩; refine ⟨?_, hb⟩; with_reducible rfl) | (rintro e wn ⟨rfl, rfl⟩; refine ⟨?_, Below.refl _ _⟩; with_reducible rfl) | fail)) | fail
  simp only [Act.put, List.setIfInBounds_toArray, List.set_cons_zero, List.set_cons_succ]
  refine takeW (i := 22) (v := ?_) (Stable.held _ _) rfl (by kernel_rfl) (by kernel_rfl) (by kernel_rfl) (fun _ _ _ h => h) ?_ ?_
  rotate_left
  · first | (refine Or.inl ⟨by rfl, fun W hS => detR_value (w' := W) ?_ (Below.refl _ _)⟩; have hH := hS; obtain ⟨x0, x1, x2, x3, x4, _⟩ := hH.1; go_simp; first | done | with_reducible rfl) | fail
  simp only [Act.put, List.setIfInBounds_toArray, List.set_cons_zero, List.set_cons_succ]
  refine takeW (i := 23) (v := ?_) (Stable.held _ _) rfl (by kernel_rfl) (by kernel_rfl) (by kernel_rfl) (fun _ _ _ h => h) ?_ ?_
  rotate_left
  · first | (refine Or.inl ⟨by rfl, fun W hS => detR_value (w' := W) ?_ (Below.refl _ _)⟩; have hH := hS; obtain ⟨x0, x1, x2, x3, x4, _⟩ := hH.1; go_simp; first | done | with_reducible rfl) | fail
  simp only [Act.put, List.setIfInBounds_toArray, List.set_cons_zero, List.set_cons_succ]
  refine takeW (i := 24) (v := ?_) (Stable.held _ _) rfl (by kernel_rfl) (by kernel_rfl) (by kernel_rfl) (fun _ _ _ h => h) ?_ ?_
  rotate_left
  · first | (refine Or.inl ⟨by rfl, fun W hS => ?_⟩; have hH := hS; refine detR_call (w' := W) (f := ?_) (args := ?_) ?_ ?_; rotate_left 2; (go_simp; (refine ⟨?_, ?_⟩ <;> with_reducible rfl)); (first | (with_reducible refine (C1.out _).mono ?_) | (with_reducible refine (C2.out _).mono ?_) | (with_reducible refine (C3.out _).mono ?_) | fail); (first | (rintro e wn ⟨rfl, hb⟩; refine ⟨?_, hb⟩; with_reducible rfl) | (rintro e wn ⟨rfl, rfl⟩; refine ⟨?_, Below.refl _ _⟩; with_reducible rfl) | fail)) | fail
  simp only [Act.put, List.setIfInBounds_toArray, List.set_cons_zero, List.set_cons_succ]
  refine freeW (i := 25) (fun v W => Seq W v [k1, k2, k3]) (Stable.held _ _) (fun v => fun _ _ h hb => h.step hb) rfl (by kernel_rfl) (by rfl) (fun W hS => ?_) (fun v1 => ?_)
  · have hH := hS; exact freeR_three (by go_simp; first | done | with_reducible rfl)
  simp only [Act.put, List.setIfInBounds_toArray, List.set_cons_zero, List.set_cons_succ]
  refine takeW (i := 26) (v := ?_) (Stable.and (Stable.held _ _) (fun _ _ h hb => h.step hb)) rfl (by kernel_rfl) (by kernel_rfl) (by kernel_rfl) (fun _ _ _ h => h) ?_ ?_
  rotate_left
  · first | (refine Or.inl ⟨by rfl, fun W hS => ?_⟩; obtain ⟨hH, r1⟩ := hS; refine detR_call (w' := W) (f := ?_) (args := ?_) ?_ ?_; rotate_left 2; (go_simp; (refine ⟨?_, ?_⟩ <;> with_reducible rfl)); (first | (with_reducible refine (HOR.out _ _ r1).mono ?_) | fail); (first | (rintro e wn ⟨rfl, hb⟩; refine ⟨?_, hb⟩; with_reducible rfl) | (rintro e wn ⟨rfl, rfl⟩; refine ⟨?_, Below.refl _ _⟩; with_reducible rfl) | fail)) | fail
  simp only [Act.put, List.setIfInBounds_toArray, List.set_cons_zero, List.set_cons_succ]
  refine takeW (i := 27) (v := ?_) (Stable.and (Stable.held _ _) (fun _ _ h hb => h.step hb)) rfl (by kernel_rfl) (by kernel_rfl) (by kernel_rfl) (fun _ _ _ h => h) ?_ ?_
  rotate_left
  · first | (refine Or.inl ⟨by rfl, fun W hS => detR_value (w' := W) ?_ (Below.refl _ _)⟩; obtain ⟨hH, r1⟩ := hS; obtain ⟨x0, x1, x2, x3, x4, _⟩ := hH.1; go_simp; first | done | with_reducible rfl) | fail
  simp only [Act.put, List.setIfInBounds_toArray, List.set_cons_zero, List.set_cons_succ]
  refine doneW (by kernel_rfl) fun wH1 HG => ?_
  obtain ⟨hH, r1⟩ := HG
  have H1 := Lib.hid hH; clear hH
  have MH1_1 := Lib.hid r1; clear r1
  try clear x0 x1 x2 x3 x4
  obtain ⟨x0, x1, x2, x3, x4, _⟩ := H1.out.1
  go_wp2_with fail
  go_ret
  exact ⟨rfl, H1.out.below⟩
end Go.Proofs.Ytfppnaknnijobab
