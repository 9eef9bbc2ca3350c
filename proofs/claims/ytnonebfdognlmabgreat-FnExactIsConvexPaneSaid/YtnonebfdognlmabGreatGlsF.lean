/-
  The faces on both sides of a lead, of the program: sides, shared, areBeside.
-/
import Derived.Test.YtnonebfdognlmabGreatGlsE
import Derived.Test.YtnonebfdognlmabGreatG3
import Derived.Laws.StructEq
namespace Go.Proofs.YtnonebfdognlmabGreat
open Go.RowKit
set_option linter.unusedVariables false
set_option linter.unusedSimpArgs false

theorem fltN_none {p : Nat → Bool} : ∀ n, (∀ k, k < n → p k = false) → fltN p n = []
  | 0, _ => rfl
  | n + 1, h => by
    unfold fltN
    rw [if_neg (by rw [h n (by omega)]; simp)]
    exact fltN_none n fun k hk => h k (by omega)
theorem fltN_succ (p : Nat → Bool) (n : Nat) : fltN p (n + 1) = if p n = true then fltN p n ++ [(n : Int)] else fltN p n := rfl
theorem fltN_congr {p q : Nat → Bool} : ∀ n, (∀ k, k < n → p k = q k) → fltN p n = fltN q n
  | 0, _ => rfl
  | n + 1, h => by rw [fltN_succ, fltN_succ, fltN_congr n fun k hk => h k (by omega), h n (by omega)]

/-- What is returned: an array of two ints. -/
def ArrIs (a b : Int) (w : World) (e : Ending) (w' : World) : Prop := e = .returned (.agg #[.int .i64 a, .int .i64 b]) ∧ Below w.heap.size w w'
set_option maxRecDepth 100000 in
set_option maxHeartbeats 2000000 in
theorem implSides (v1 v2 v3 v4 : Value) (rs : List (List Int)) (ds : List Int) (ns ls : List Nd) (B B2 k : Nat) (w : World) (hn : Prs w v1 ns) (hl : Prs w v2 ls) (hf : Faces w B v3 rs) (ha : Ints w B2 v4 ds) (hk : 2 * k + 1 < ds.length) (hd : ds.length ≤ 1000) :
    Calls Tryz.prog 96 #[.agg #[v1, v2, v3, v4], .int .i64 k] w (ArrIs (atZ ds (2 * k)) (atZ ds (2 * k + 1)) w) := by
  obtain ⟨A, c, rfl⟩ := prs_form2 hn
  obtain ⟨A2, c2, rfl⟩ := prs_form2 hl
  obtain ⟨A3, c3, rfl⟩ := faces_form hf
  obtain ⟨gd, cd, rfl⟩ := ha.some_ (by omega)
  obtain ⟨d0, -, hgd, -, -⟩ := ha.at_ (j := 2 * k) (by omega)
  obtain ⟨d1, -, -, -, -⟩ := ha.at_ (j := 2 * k + 1) (by omega)
  have H0 := (heldG w (.slice A ns.length c) (.slice A2 ls.length c2) (.slice A3 rs.length c3) (.slice (some ⟨gd, 0, none⟩) ds.length cd) 66).alloc (.cells #[.int .i64 0, .int .i64 0] 104)
  have H9 := Lib.hid (show Held w _ [(w.heap.size, 0, .slice A ns.length c), (w.heap.size, 1, .slice A2 ls.length c2), (w.heap.size, 2, .slice A3 rs.length c3), (w.heap.size, 3, .slice (some ⟨gd, 0, none⟩) ds.length cd), (gd, 2 * k, .int .i64 (atZ ds (2 * k))), (gd, 2 * k + 1, .int .i64 (atZ ds (2 * k + 1)))] from
    ⟨⟨H0.1.1, H0.1.2.1, H0.1.2.2.1, H0.1.2.2.2.1, by rw [H0.below.cell (p := ⟨gd, 2 * k, none⟩) hgd]; exact d0, by rw [H0.below.cell (p := ⟨gd, 2 * k + 1, none⟩) hgd]; exact d1, trivial⟩, ⟨H0.2.1.1, H0.2.1.1, H0.2.1.1, H0.2.1.1, Nat.lt_of_lt_of_le hgd H0.below.size, Nat.lt_of_lt_of_le hgd H0.below.size, trivial⟩, H0.below⟩)
  have HB := Lib.hid (show BlkN (w.heap.size + 1) 104 2 ((w.alloc (.cells #[.slice A ns.length c, .slice A2 ls.length c2, .slice A3 rs.length c3, .slice (some ⟨gd, 0, none⟩) ds.length cd] 66)).alloc (.cells #[.int .i64 0, .int .i64 0] 104)) from ⟨_, by
    have := heap_alloc_new (w.alloc (.cells #[.slice A ns.length c, .slice A2 ls.length c2, .slice A3 rs.length c3, .slice (some ⟨gd, 0, none⟩) ds.length cd] 66)) (.cells #[.int .i64 0, .int .i64 0] 104)
    simpa using this, rfl⟩)
  clear H0 d0 d1 ha hf hn hl
  generalize atZ ds (2 * k) = za at *
  generalize atZ ds (2 * k + 1) = zb at *
  obtain ⟨e0, he0⟩ : ∃ e0, e0 = 2 * k := ⟨_, rfl⟩
  obtain ⟨e1, he1⟩ : ∃ e1, e1 = e0 + 1 := ⟨_, rfl⟩
  rw [← he0, ← he1] at H9
  have p1 : (0 : Int) ≤ e0 := by omega
  have p2 : (e0 : Int) < (ds.length : Int) := by omega
  have p3 : (0 : Int) ≤ e1 := by omega
  have p4 : (e1 : Int) < (ds.length : Int) := by omega
  have w1 : IntKind.i64.wrap (2 * (k : Int)) = (e0 : Int) := by rw [IntWalk.i64_in _ (by omega)]; omega
  have w2 : IntKind.i64.wrap ((e0 : Int) + 1) = (e1 : Int) := by rw [IntWalk.i64_in _ (by omega)]; omega
  clear he0 he1 hk hd
  go_enter Tryz.func96, Tryz.ntmps96
  go_wp2_with fail
  generalize (w.alloc (.cells #[.slice A ns.length c, .slice A2 ls.length c2, .slice A3 rs.length c3, .slice (some ⟨gd, 0, none⟩) ds.length cd] 66)).alloc (.cells #[.int .i64 0, .int .i64 0] 104) = W0 at *
  refine regionW (fun W => (Held _ W [(w.heap.size, 0, .slice A ns.length c), (w.heap.size, 1, .slice A2 ls.length c2), (w.heap.size, 2, .slice A3 rs.length c3), (w.heap.size, 3, .slice (some ⟨gd, 0, none⟩) ds.length cd), (gd, e0, .int .i64 (za)), (gd, e1, .int .i64 (zb))]) ∧ BlkN (w.heap.size + 1) 104 2 W) (by kernel_rfl) ⟨H9.out.drew, HB.out⟩ ?_
  refine takeW (i := 0) (v := ?_) (Stable.and (Stable.held _ _) (stable_blkN (w.heap.size + 1) 104 2)) rfl (by kernel_rfl) (by kernel_rfl) (by kernel_rfl) (fun _ _ _ h => h) ?_ ?_
  rotate_left
  · first | (refine Or.inl ⟨by rfl, fun W hS => detR_value (w' := W) ?_ (Below.refl _ _)⟩; obtain ⟨hH, q1⟩ := hS; obtain ⟨x0, x1, x2, x3, x4, x5, _⟩ := hH.1; go_simp; first | done | with_reducible rfl) | fail
  simp only [Act.put, List.setIfInBounds_toArray, List.set_cons_zero, List.set_cons_succ]
  refine takeW (i := 1) (v := ?_) (Stable.and (Stable.held _ _) (stable_blkN (w.heap.size + 1) 104 2)) rfl (by kernel_rfl) (by kernel_rfl) (by kernel_rfl) (fun _ _ _ h => h) ?_ ?_
  rotate_left
  · first | (refine Or.inl ⟨by rfl, fun W hS => detR_value (w' := W) ?_ (Below.refl _ _)⟩; obtain ⟨hH, q1⟩ := hS; obtain ⟨x0, x1, x2, x3, x4, x5, _⟩ := hH.1; go_simp; first | done | with_reducible rfl) | fail
  simp only [Act.put, List.setIfInBounds_toArray, List.set_cons_zero, List.set_cons_succ]
  refine takeW (i := 2) (v := ?_) (Stable.and (Stable.held _ _) (stable_blkN (w.heap.size + 1) 104 2)) rfl (by kernel_rfl) (by kernel_rfl) (by kernel_rfl) (fun _ _ _ h => h) ?_ ?_
  rotate_left
  · first | (refine Or.inl ⟨by rfl, fun W hS => detR_value (w' := W) ?_ (Below.refl _ _)⟩; obtain ⟨hH, q1⟩ := hS; obtain ⟨x0, x1, x2, x3, x4, x5, _⟩ := hH.1; go_simp; first | done | with_reducible rfl) | fail
  simp only [Act.put, List.setIfInBounds_toArray, List.set_cons_zero, List.set_cons_succ]
  refine takeW (i := 3) (v := ?_) (Stable.and (Stable.held _ _) (stable_blkN (w.heap.size + 1) 104 2)) rfl (by kernel_rfl) (by kernel_rfl) (by kernel_rfl) (fun _ _ _ h => h) ?_ ?_
  rotate_left
  · first | (refine Or.inl ⟨by rfl, fun W hS => detR_value (w' := W) ?_ (Below.refl _ _)⟩; obtain ⟨hH, q1⟩ := hS; obtain ⟨x0, x1, x2, x3, x4, x5, _⟩ := hH.1; go_simp; first | done | with_reducible rfl) | fail
  simp only [Act.put, List.setIfInBounds_toArray, List.set_cons_zero, List.set_cons_succ]
  refine takeW (i := 4) (v := ?_) (Stable.and (Stable.held _ _) (stable_blkN (w.heap.size + 1) 104 2)) rfl (by kernel_rfl) (by kernel_rfl) (by kernel_rfl) (fun _ _ _ h => h) ?_ ?_
  rotate_left
  · first | (refine Or.inl ⟨by rfl, fun W hS => detR_value (w' := W) ?_ (Below.refl _ _)⟩; obtain ⟨hH, q1⟩ := hS; obtain ⟨x0, x1, x2, x3, x4, x5, _⟩ := hH.1; go_simp; first | done | with_reducible rfl) | fail
  simp only [Act.put, List.setIfInBounds_toArray, List.set_cons_zero, List.set_cons_succ]
  refine takeW (i := 5) (v := ?_) (Stable.and (Stable.held _ _) (stable_blkN (w.heap.size + 1) 104 2)) rfl (by kernel_rfl) (by kernel_rfl) (by kernel_rfl) (fun _ _ _ h => h) ?_ ?_
  rotate_left
  · first | (refine Or.inl ⟨by rfl, fun W hS => detR_value (w' := W) ?_ (Below.refl _ _)⟩; obtain ⟨hH, q1⟩ := hS; obtain ⟨x0, x1, x2, x3, x4, x5, _⟩ := hH.1; go_simp; first | done | with_reducible rfl) | fail
  simp only [Act.put, List.setIfInBounds_toArray, List.set_cons_zero, List.set_cons_succ]
  refine takeW (i := 6) (v := ?_) (Stable.and (Stable.held _ _) (stable_blkN (w.heap.size + 1) 104 2)) rfl (by kernel_rfl) (by kernel_rfl) (by kernel_rfl) (fun _ _ _ h => h) ?_ ?_
  rotate_left
  · first | (refine Or.inl ⟨by rfl, fun W hS => detR_value (w' := W) ?_ (Below.refl _ _)⟩; obtain ⟨hH, q1⟩ := hS; obtain ⟨x0, x1, x2, x3, x4, x5, _⟩ := hH.1; go_simp; first | done | with_reducible rfl) | fail
  simp only [Act.put, List.setIfInBounds_toArray, List.set_cons_zero, List.set_cons_succ]
  refine takeW (i := 7) (v := ?_) (Stable.and (Stable.held _ _) (stable_blkN (w.heap.size + 1) 104 2)) rfl (by kernel_rfl) (by kernel_rfl) (by kernel_rfl) (fun _ _ _ h => h) ?_ ?_
  rotate_left
  · first | (refine Or.inl ⟨by rfl, fun W hS => detR_value (w' := W) ?_ (Below.refl _ _)⟩; obtain ⟨hH, q1⟩ := hS; obtain ⟨x0, x1, x2, x3, x4, x5, _⟩ := hH.1; go_simp; first | done | with_reducible rfl) | fail
  simp only [Act.put, List.setIfInBounds_toArray, List.set_cons_zero, List.set_cons_succ]
  refine takeW (i := 8) (v := ?_) (Stable.and (Stable.held _ _) (stable_blkN (w.heap.size + 1) 104 2)) rfl (by kernel_rfl) (by kernel_rfl) (by kernel_rfl) (fun _ _ _ h => h) ?_ ?_
  rotate_left
  · first | (refine Or.inl ⟨by rfl, fun W hS => detR_value (w' := W) ?_ (Below.refl _ _)⟩; obtain ⟨hH, q1⟩ := hS; obtain ⟨x0, x1, x2, x3, x4, x5, _⟩ := hH.1; go_simp; first | done | with_reducible rfl) | fail
  simp only [Act.put, List.setIfInBounds_toArray, List.set_cons_zero, List.set_cons_succ]
  refine takeW (i := 9) (v := ?_) (Stable.and (Stable.held _ _) (stable_blkN (w.heap.size + 1) 104 2)) rfl (by kernel_rfl) (by kernel_rfl) (by kernel_rfl) (fun _ _ _ h => h) ?_ ?_
  rotate_left
  · first | (refine Or.inl ⟨by rfl, fun W hS => detR_value (w' := W) ?_ (Below.refl _ _)⟩; obtain ⟨hH, q1⟩ := hS; obtain ⟨x0, x1, x2, x3, x4, x5, _⟩ := hH.1; go_simp; first | done | with_reducible rfl) | fail
  simp only [Act.put, List.setIfInBounds_toArray, List.set_cons_zero, List.set_cons_succ]
  refine takeW (i := 10) (v := ?_) (Stable.and (Stable.held _ _) (stable_blkN (w.heap.size + 1) 104 2)) rfl (by kernel_rfl) (by kernel_rfl) (by kernel_rfl) (fun _ _ _ h => h) ?_ ?_
  rotate_left
  · first | (refine Or.inl ⟨by rfl, fun W hS => detR_value (w' := W) ?_ (Below.refl _ _)⟩; obtain ⟨hH, q1⟩ := hS; obtain ⟨x0, x1, x2, x3, x4, x5, _⟩ := hH.1; go_simp; first | done | with_reducible rfl) | fail
  simp only [Act.put, List.setIfInBounds_toArray, List.set_cons_zero, List.set_cons_succ]
  refine takeW (i := 11) (v := ?_) (Stable.and (Stable.held _ _) (stable_blkN (w.heap.size + 1) 104 2)) rfl (by kernel_rfl) (by kernel_rfl) (by kernel_rfl) (fun _ _ _ h => h) ?_ ?_
  rotate_left
  · first | (refine Or.inl ⟨by rfl, fun W hS => detR_value (w' := W) ?_ (Below.refl _ _)⟩; obtain ⟨hH, q1⟩ := hS; obtain ⟨x0, x1, x2, x3, x4, x5, _⟩ := hH.1; go_simp; first | done | with_reducible rfl) | fail
  simp only [Act.put, List.setIfInBounds_toArray, List.set_cons_zero, List.set_cons_succ]
  refine takeW (i := 12) (v := ?_) (Stable.and (Stable.held _ _) (stable_blkN (w.heap.size + 1) 104 2)) rfl (by kernel_rfl) (by kernel_rfl) (by kernel_rfl) (fun _ _ _ h => h) ?_ ?_
  rotate_left
  · first | (refine Or.inl ⟨by rfl, fun W hS => detR_value (w' := W) ?_ (Below.refl _ _)⟩; obtain ⟨hH, q1⟩ := hS; obtain ⟨x0, x1, x2, x3, x4, x5, _⟩ := hH.1; go_simp; first | done | with_reducible rfl) | fail
  simp only [Act.put, List.setIfInBounds_toArray, List.set_cons_zero, List.set_cons_succ]
  refine takeW (i := 13) (v := ?_) (Stable.and (Stable.held _ _) (stable_blkN (w.heap.size + 1) 104 2)) rfl (by kernel_rfl) (by kernel_rfl) (by kernel_rfl) (fun _ _ _ h => h) ?_ ?_
  rotate_left
  · first | (refine Or.inl ⟨by rfl, fun W hS => detR_value (w' := W) ?_ (Below.refl _ _)⟩; obtain ⟨hH, q1⟩ := hS; obtain ⟨x0, x1, x2, x3, x4, x5, _⟩ := hH.1; go_simp; first | done | with_reducible rfl) | fail
  simp only [Act.put, List.setIfInBounds_toArray, List.set_cons_zero, List.set_cons_succ]
  refine storeK (i := 14) (b := w.heap.size + 1) #[.int .i64 za, .int .i64 zb] (Stable.and (Stable.held _ _) (stable_blkN (w.heap.size + 1) 104 2)) (fun W hS => by obtain ⟨hH, q1⟩ := hS; exact q1) (fun W hS => by obtain ⟨hH, q1⟩ := hS; exact ⟨hH.setRowAt (by simp; omega) (Nat.le_succ _) _, q1.setRow rfl⟩) rfl (by kernel_rfl) (by rfl) rfl (by rfl) (by rfl) rfl (by kernel_rfl) (by simp [Value.oneCell']) ?_
  simp only [Act.put, List.setIfInBounds_toArray, List.set_cons_zero, List.set_cons_succ]
  refine doneW (by kernel_rfl) fun wH7 HG => ?_
  obtain ⟨⟨hH, q1⟩, hs⟩ := HG
  have H7 := Lib.hid hH; clear hH
  have MH7_q1 := Lib.hid q1; clear q1
  have MH7_s := Lib.hid hs; clear hs
  try clear x0 x1 x2 x3 x4 x5
  have K7 := MH7_s.out
  unfold BlkIs at K7
  have r0 : _ = some (Value.int .i64 za) := (cell_of_cells (k := 0) K7).trans rfl
  have r1 : _ = some (Value.int .i64 zb) := (cell_of_cells (k := 1) K7).trans rfl
  clear K7
  go_wp2_with fail
  exact bodyPost_ret (v := .agg #[.int .i64 za, .int .i64 zb]) (by simp [results, Tryz.results96, go_sem, r0, r1]) rfl ⟨rfl, H7.out.below⟩

theorem ints_newform {xs : List Int} {w : World} {e : Ending} {w' : World} (h : IntsNew xs w e w') : ∃ a c, e = .returned (.slice a xs.length c) ∧ Below w.heap.size w w' := by
  obtain ⟨v, rfl, hi, hb⟩ := h
  obtain ⟨a, c, rfl⟩ := ints_form hi
  exact ⟨a, c, rfl, hb⟩

end Go.Proofs.YtnonebfdognlmabGreat
