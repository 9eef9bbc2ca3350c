/-
  Several texts in one: a claim has at most 60 files.
-/
import Derived.Test.YtepacoacalhdcaaGreatG15
import Derived.Test.YtepacoacalhdcaaGreatG3
import Derived.Laws.StructEq

namespace Go.Proofs.YtepacoacalhdcaaGreat
open Go.RowKit
set_option linter.unusedVariables false
set_option linter.unusedSimpArgs false

theorem fltN_none {p : Nat → Bool} : ∀ n, (∀ k, k < n → p k = false) → fltN p n = []
  | 0, _ => rfl
  | n + 1, h => by
    unfold fltN
    rw [if_neg (by rw [h n (by omega)]; simp)]
    exact fltN_none n fun k hk => h k (by omega)

theorem fltN_succ (p : Nat → Bool) (n : Nat) : fltN p (n + 1) = if p n = true then fltN p n ++ [(n : Int)] else fltN p n := rfl

theorem fltN_congr {p q : Nat → Bool} : ∀ n, (∀ k, k < n → p k = q k) → fltN p n = fltN q n
  | 0, _ => rfl
  | n + 1, h => by rw [fltN_succ, fltN_succ, fltN_congr n fun k hk => h k (by omega), h n (by omega)]

/-- What is returned: an array of two ints. -/
def ArrIs (a b : Int) (w : World) (e : Ending) (w' : World) : Prop := e = .returned (.agg #[.int .i64 a, .int .i64 b]) ∧ Below w.heap.size w w'

set_option maxRecDepth 100000 in
set_option maxHeartbeats 2000000 in
theorem implSides (v1 v2 v3 v4 : Value) (rs : List (List Int)) (ds : List Int) (ns ls : List Nd) (B B2 k : Nat) (w : World) (hn : Prs w v1 ns) (hl : Prs w v2 ls) (hf : Faces w B v3 rs) (ha : Ints w B2 v4 ds) (hk : 2 * k + 1 < ds.length) (hd : ds.length ≤ 1000) :
    Calls Tryz.prog 190 #[.agg #[v1, v2, v3, v4], .int .i64 k] w (ArrIs (atZ ds (2 * k)) (atZ ds (2 * k + 1)) w) := by
  obtain ⟨A, c, rfl⟩ := prs_form2 hn
  obtain ⟨A2, c2, rfl⟩ := prs_form2 hl
  obtain ⟨A3, c3, rfl⟩ := faces_form hf
  obtain ⟨gd, cd, rfl⟩ := ha.some_ (by omega)
  obtain ⟨d0, -, hgd, -, -⟩ := ha.at_ (j := 2 * k) (by omega)
  obtain ⟨d1, -, -, -, -⟩ := ha.at_ (j := 2 * k + 1) (by omega)
  have H0 := (heldG w (.slice A ns.length c) (.slice A2 ls.length c2) (.slice A3 rs.length c3) (.slice (some ⟨gd, 0, none⟩) ds.length cd) 98).alloc (.cells #[.int .i64 0, .int .i64 0] 194)
  have H9 := Lib.hid (show Held w _ [(w.heap.size, 0, .slice A ns.length c), (w.heap.size, 1, .slice A2 ls.length c2), (w.heap.size, 2, .slice A3 rs.length c3), (w.heap.size, 3, .slice (some ⟨gd, 0, none⟩) ds.length cd), (gd, 2 * k, .int .i64 (atZ ds (2 * k))), (gd, 2 * k + 1, .int .i64 (atZ ds (2 * k + 1)))] from
    ⟨⟨H0.1.1, H0.1.2.1, H0.1.2.2.1, H0.1.2.2.2.1, by rw [H0.below.cell (p := ⟨gd, 2 * k, none⟩) hgd]; exact d0, by rw [H0.below.cell (p := ⟨gd, 2 * k + 1, none⟩) hgd]; exact d1, trivial⟩, ⟨H0.2.1.1, H0.2.1.1, H0.2.1.1, H0.2.1.1, Nat.lt_of_lt_of_le hgd H0.below.size, Nat.lt_of_lt_of_le hgd H0.below.size, trivial⟩, H0.below⟩)
  have HB := Lib.hid (show BlkN (w.heap.size + 1) 194 2 ((w.alloc (.cells #[.slice A ns.length c, .slice A2 ls.length c2, .slice A3 rs.length c3, .slice (some ⟨gd, 0, none⟩) ds.length cd] 98)).alloc (.cells #[.int .i64 0, .int .i64 0] 194)) from ⟨_, by
    have := heap_alloc_new (w.alloc (.cells #[.slice A ns.length c, .slice A2 ls.length c2, .slice A3 rs.length c3, .slice (some ⟨gd, 0, none⟩) ds.length cd] 98)) (.cells #[.int .i64 0, .int .i64 0] 194)
    simpa using this, rfl⟩)
  clear H0 d0 d1 ha hf hn hl
  generalize atZ ds (2 * k) = za at *
  generalize atZ ds (2 * k + 1) = zb at *
  obtain ⟨e0, he0⟩ : ∃ e0, e0 = 2 * k := ⟨_, rfl⟩
  obtain ⟨e1, he1⟩ : ∃ e1, e1 = e0 + 1 := ⟨_, rfl⟩
  rw [← he0, ← he1] at H9
  have p1 : (0 : Int) ≤ e0 := by omega
  have p2 : (e0 : Int) < (ds.length : Int) := by omega
  have p3 : (0 : Int) ≤ e1 := by omega
  have p4 : (e1 : Int) < (ds.length : Int) := by omega
  have w1 : IntKind.i64.wrap (2 * (k : Int)) = (e0 : Int) := by rw [IntWalk.i64_in _ (by omega)]; omega
  have w2 : IntKind.i64.wrap ((e0 : Int) + 1) = (e1 : Int) := by rw [IntWalk.i64_in _ (by omega)]; omega
  clear he0 he1 hk hd
  go_enter Tryz.func190, Tryz.ntmps190
  go_wp2_with fail
  generalize (w.alloc (.cells #[.slice A ns.length c, .slice A2 ls.length c2, .slice A3 rs.length c3, .slice (some ⟨gd, 0, none⟩) ds.length cd] 98)).alloc (.cells #[.int .i64 0, .int .i64 0] 194) = W0 at *
  refine regionW (fun W => (Held _ W [(w.heap.size, 0, .slice A ns.length c), (w.heap.size, 1, .slice A2 ls.length c2), (w.heap.size, 2, .slice A3 rs.length c3), (w.heap.size, 3, .slice (some ⟨gd, 0, none⟩) ds.length cd), (gd, e0, .int .i64 (za)), (gd, e1, .int .i64 (zb))]) ∧ BlkN (w.heap.size + 1) 194 2 W) (by kernel_rfl) ⟨H9.out.drew, HB.out⟩ ?_
  refine takeW (i := 0) (v := ?_) (Stable.and (Stable.held _ _) (stable_blkN (w.heap.size + 1) 194 2)) rfl (by kernel_rfl) (by kernel_rfl) (by kernel_rfl) (fun _ _ _ h => h) ?_ ?_
  rotate_left
  · first | (refine Or.inl ⟨by rfl, fun W hS => detR_value (w' := W) ?_ (Below.refl _ _)⟩; obtain ⟨hH, q1⟩ := hS; obtain ⟨x0, x1, x2, x3, x4, x5, _⟩ := hH.1; go_simp; first | done | with_reducible rfl) | fail
  simp only [Act.put, List.setIfInBounds_toArray, List.set_cons_zero, List.set_cons_succ]
  refine takeW (i := 1) (v := ?_) (Stable.and (Stable.held _ _) (stable_blkN (w.heap.size + 1) 194 2)) rfl (by kernel_rfl) (by kernel_rfl) (by kernel_rfl) (fun _ _ _ h => h) ?_ ?_
  rotate_left
  · first | (refine Or.inl ⟨by rfl, fun W hS => detR_value (w' := W) ?_ (Below.refl _ _)⟩; obtain ⟨hH, q1⟩ := hS; obtain ⟨x0, x1, x2, x3, x4, x5, _⟩ := hH.1; go_simp; first | done | with_reducible rfl) | fail
  simp only [Act.put, List.setIfInBounds_toArray, List.set_cons_zero, List.set_cons_succ]
  refine takeW (i := 2) (v := ?_) (Stable.and (Stable.held _ _) (stable_blkN (w.heap.size + 1) 194 2)) rfl (by kernel_rfl) (by kernel_rfl) (by kernel_rfl) (fun _ _ _ h => h) ?_ ?_
  rotate_left
  · first | (refine Or.inl ⟨by rfl, fun W hS => detR_value (w' := W) ?_ (Below.refl _ _)⟩; obtain ⟨hH, q1⟩ := hS; obtain ⟨x0, x1, x2, x3, x4, x5, _⟩ := hH.1; go_simp; first | done | with_reducible rfl) | fail
  simp only [Act.put, List.setIfInBounds_toArray, List.set_cons_zero, List.set_cons_succ]
  refine takeW (i := 3) (v := ?_) (Stable.and (Stable.held _ _) (stable_blkN (w.heap.size + 1) 194 2)) rfl (by kernel_rfl) (by kernel_rfl) (by kernel_rfl) (fun _ _ _ h => h) ?_ ?_
  rotate_left
  · first | (refine Or.inl ⟨by rfl, fun W hS => detR_value (w' := W) ?_ (Below.refl _ _)⟩; obtain ⟨hH, q1⟩ := hS; obtain ⟨x0, x1, x2, x3, x4, x5, _⟩ := hH.1; go_simp; first | done | with_reducible rfl) | fail
  simp only [Act.put, List.setIfInBounds_toArray, List.set_cons_zero, List.set_cons_succ]
  refine takeW (i := 4) (v := ?_) (Stable.and (Stable.held _ _) (stable_blkN (w.heap.size + 1) 194 2)) rfl (by kernel_rfl) (by kernel_rfl) (by kernel_rfl) (fun _ _ _ h => h) ?_ ?_
  rotate_left
  · first | (refine Or.inl ⟨by rfl, fun W hS => detR_value (w' := W) ?_ (Below.refl _ _)⟩; obtain ⟨hH, q1⟩ := hS; obtain ⟨x0, x1, x2, x3, x4, x5, _⟩ := hH.1; go_simp; first | done | with_reducible rfl) | fail
  simp only [Act.put, List.setIfInBounds_toArray, List.set_cons_zero, List.set_cons_succ]
  refine takeW (i := 5) (v := ?_) (Stable.and (Stable.held _ _) (stable_blkN (w.heap.size + 1) 194 2)) rfl (by kernel_rfl) (by kernel_rfl) (by kernel_rfl) (fun _ _ _ h => h) ?_ ?_
  rotate_left
  · first | (refine Or.inl ⟨by rfl, fun W hS => detR_value (w' := W) ?_ (Below.refl _ _)⟩; obtain ⟨hH, q1⟩ := hS; obtain ⟨x0, x1, x2, x3, x4, x5, _⟩ := hH.1; go_simp; first | done | with_reducible rfl) | fail
  simp only [Act.put, List.setIfInBounds_toArray, List.set_cons_zero, List.set_cons_succ]
  refine takeW (i := 6) (v := ?_) (Stable.and (Stable.held _ _) (stable_blkN (w.heap.size + 1) 194 2)) rfl (by kernel_rfl) (by kernel_rfl) (by kernel_rfl) (fun _ _ _ h => h) ?_ ?_
  rotate_left
  · first | (refine Or.inl ⟨by rfl, fun W hS => detR_value (w' := W) ?_ (Below.refl _ _)⟩; obtain ⟨hH, q1⟩ := hS; obtain ⟨x0, x1, x2, x3, x4, x5, _⟩ := hH.1; go_simp; first | done | with_reducible rfl) | fail
  simp only [Act.put, List.setIfInBounds_toArray, List.set_cons_zero, List.set_cons_succ]
  refine takeW (i := 7) (v := ?_) (Stable.and (Stable.held _ _) (stable_blkN (w.heap.size + 1) 194 2)) rfl (by kernel_rfl) (by kernel_rfl) (by kernel_rfl) (fun _ _ _ h => h) ?_ ?_
  rotate_left
  · first | (refine Or.inl ⟨by rfl, fun W hS => detR_value (w' := W) ?_ (Below.refl _ _)⟩; obtain ⟨hH, q1⟩ := hS; obtain ⟨x0, x1, x2, x3, x4, x5, _⟩ := hH.1; go_simp; first | done | with_reducible rfl) | fail
  simp only [Act.put, List.setIfInBounds_toArray, List.set_cons_zero, List.set_cons_succ]
  refine takeW (i := 8) (v := ?_) (Stable.and (Stable.held _ _) (stable_blkN (w.heap.size + 1) 194 2)) rfl (by kernel_rfl) (by kernel_rfl) (by kernel_rfl) (fun _ _ _ h => h) ?_ ?_
  rotate_left
  · first | (refine Or.inl ⟨by rfl, fun W hS => detR_value (w' := W) ?_ (Below.refl _ _)⟩; obtain ⟨hH, q1⟩ := hS; obtain ⟨x0, x1, x2, x3, x4, x5, _⟩ := hH.1; go_simp; first | done | with_reducible rfl) | fail
  simp only [Act.put, List.setIfInBounds_toArray, List.set_cons_zero, List.set_cons_succ]
  refine takeW (i := 9) (v := ?_) (Stable.and (Stable.held _ _) (stable_blkN (w.heap.size + 1) 194 2)) rfl (by kernel_rfl) (by kernel_rfl) (by kernel_rfl) (fun _ _ _ h => h) ?_ ?_
  rotate_left
  · first | (refine Or.inl ⟨by rfl, fun W hS => detR_value (w' := W) ?_ (Below.refl _ _)⟩; obtain ⟨hH, q1⟩ := hS; obtain ⟨x0, x1, x2, x3, x4, x5, _⟩ := hH.1; go_simp; first | done | with_reducible rfl) | fail
  simp only [Act.put, List.setIfInBounds_toArray, List.set_cons_zero, List.set_cons_succ]
  refine takeW (i := 10) (v := ?_) (Stable.and (Stable.held _ _) (stable_blkN (w.heap.size + 1) 194 2)) rfl (by kernel_rfl) (by kernel_rfl) (by kernel_rfl) (fun _ _ _ h => h) ?_ ?_
  rotate_left
  · first | (refine Or.inl ⟨by rfl, fun W hS => detR_value (w' := W) ?_ (Below.refl _ _)⟩; obtain ⟨hH, q1⟩ := hS; obtain ⟨x0, x1, x2, x3, x4, x5, _⟩ := hH.1; go_simp; first | done | with_reducible rfl) | fail
  simp only [Act.put, List.setIfInBounds_toArray, List.set_cons_zero, List.set_cons_succ]
  refine takeW (i := 11) (v := ?_) (Stable.and (Stable.held _ _) (stable_blkN (w.heap.size + 1) 194 2)) rfl (by kernel_rfl) (by kernel_rfl) (by kernel_rfl) (fun _ _ _ h => h) ?_ ?_
  rotate_left
  · first | (refine Or.inl ⟨by rfl, fun W hS => detR_value (w' := W) ?_ (Below.refl _ _)⟩; obtain ⟨hH, q1⟩ := hS; obtain ⟨x0, x1, x2, x3, x4, x5, _⟩ := hH.1; go_simp; first | done | with_reducible rfl) | fail
  simp only [Act.put, List.setIfInBounds_toArray, List.set_cons_zero, List.set_cons_succ]
  refine takeW (i := 12) (v := ?_) (Stable.and (Stable.held _ _) (stable_blkN (w.heap.size + 1) 194 2)) rfl (by kernel_rfl) (by kernel_rfl) (by kernel_rfl) (fun _ _ _ h => h) ?_ ?_
  rotate_left
  · first | (refine Or.inl ⟨by rfl, fun W hS => detR_value (w' := W) ?_ (Below.refl _ _)⟩; obtain ⟨hH, q1⟩ := hS; obtain ⟨x0, x1, x2, x3, x4, x5, _⟩ := hH.1; go_simp; first | done | with_reducible rfl) | fail
  simp only [Act.put, List.setIfInBounds_toArray, List.set_cons_zero, List.set_cons_succ]
  refine takeW (i := 13) (v := ?_) (Stable.and (Stable.held _ _) (stable_blkN (w.heap.size + 1) 194 2)) rfl (by kernel_rfl) (by kernel_rfl) (by kernel_rfl) (fun _ _ _ h => h) ?_ ?_
  rotate_left
  · first | (refine Or.inl ⟨by rfl, fun W hS => detR_value (w' := W) ?_ (Below.refl _ _)⟩; obtain ⟨hH, q1⟩ := hS; obtain ⟨x0, x1, x2, x3, x4, x5, _⟩ := hH.1; go_simp; first | done | with_reducible rfl) | fail
  simp only [Act.put, List.setIfInBounds_toArray, List.set_cons_zero, List.set_cons_succ]
  refine storeK (i := 14) (b := w.heap.size + 1) #[.int .i64 za, .int .i64 zb] (Stable.and (Stable.held _ _) (stable_blkN (w.heap.size + 1) 194 2)) (fun W hS => by obtain ⟨hH, q1⟩ := hS; exact q1) (fun W hS => by obtain ⟨hH, q1⟩ := hS; exact ⟨hH.setRowAt (by simp; omega) (Nat.le_succ _) _, q1.setRow rfl⟩) rfl (by kernel_rfl) (by rfl) rfl (by rfl) (by rfl) rfl (by kernel_rfl) (by simp [Value.oneCell']) ?_
  simp only [Act.put, List.setIfInBounds_toArray, List.set_cons_zero, List.set_cons_succ]
  refine doneW (by kernel_rfl) fun wH7 HG => ?_
  obtain ⟨⟨hH, q1⟩, hs⟩ := HG
  have H7 := Lib.hid hH; clear hH
  have MH7_q1 := Lib.hid q1; clear q1
  have MH7_s := Lib.hid hs; clear hs
  try clear x0 x1 x2 x3 x4 x5
  have K7 := MH7_s.out
  unfold BlkIs at K7
  have r0 : _ = some (Value.int .i64 za) := (cell_of_cells (k := 0) K7).trans rfl
  have r1 : _ = some (Value.int .i64 zb) := (cell_of_cells (k := 1) K7).trans rfl
  clear K7
  go_wp2_with fail
  exact bodyPost_ret (v := .agg #[.int .i64 za, .int .i64 zb]) (by simp [results, Tryz.results190, go_sem, r0, r1]) rfl ⟨rfl, H7.out.below⟩

theorem eqArr (a b c d : Int) (w : World) : (Op.equalIn 10000 194 (.agg #[.int .i64 a, .int .i64 b]) (.agg #[.int .i64 c, .int .i64 d])).run Tryz.prog w = .ok (a == c && b == d) w := by
  have u3 := Tryz.underlying3
  have a3 := Tryz.isAgg3
  have z3 := Tryz.sizeOf3
  rw [show (10000 : Nat) = 9999 + 1 from rfl, Op.equalIn]
  simp only [Sem.run_bind, run_underlying Tryz.underlying194, Result.andThen_ok]
  simp only [Std.Legacy.Range.forIn_eq_forIn_range', Std.Legacy.Range.size, Nat.sub_zero, Nat.add_sub_cancel, Nat.div_one, List.range'_succ, List.range'_zero, List.forIn_cons, List.forIn_nil]
  go_simp
  by_cases h1 : a = c <;> by_cases h2 : b = d <;> simp [h1, h2]

/-- Does lead k lie between f and h? -/
def sharedP (ds : List Int) (f h : Int) (k : Nat) : Bool := (atZ ds (2 * k) == f && atZ ds (2 * k + 1) == h) || (atZ ds (2 * k) == h && atZ ds (2 * k + 1) == f)

set_option maxRecDepth 100000 in
set_option maxHeartbeats 2000000 in
theorem implShared (v1 v2 v3 v4 : Value) (rs : List (List Int)) (ds : List Int) (ns ls : List Nd) (B B2 : Nat) (f h : Int) (w : World) (hn : Prs w v1 ns) (hl : Prs w v2 ls) (hf : Faces w B v3 rs) (ha : Ints w B2 v4 ds) (hk : ds.length = 2 * ls.length) (hd : ls.length ≤ 20) :
    Calls Tryz.prog 193 #[.agg #[v1, v2, v3, v4], .int .i64 f, .int .i64 h] w (IntsNew (fltN (sharedP ds f h) ls.length) w) := by
  have HS := Lib.hid (fun k W hb (hk1 : k < ls.length) => implSides v1 v2 v3 v4 rs ds ns ls B B2 k W (hn.step hb) (hl.step hb) (hf.step hb) (ha.step hb) (by omega) (by omega))
  unfold ArrIs at HS
  obtain ⟨A, c, rfl⟩ := prs_form2 hn
  obtain ⟨A2, c2, rfl⟩ := prs_form2 hl
  obtain ⟨A3, c3, rfl⟩ := faces_form hf
  obtain ⟨A4, c4, rfl⟩ := ints_form ha
  have H0 := Lib.hid (heldG w (.slice A ns.length c) (.slice A2 ls.length c2) (.slice A3 rs.length c3) (.slice A4 ds.length c4) 98)
  obtain ⟨i0, hi, hz0, hz1, hz2⟩ := info_parts infoInt
  have HI := Lib.hid (And.intro hi (And.intro hz0 (And.intro hz1 hz2))); clear hi hz0 hz1 hz2
  have HP := Lib.hid (fun k => show sharedP ds f h k = ((atZ ds (2 * k) == f && atZ ds (2 * k + 1) == h) || (atZ ds (2 * k) == h && atZ ds (2 * k + 1) == f)) from rfl)
  have HU := Lib.hid (fltN_succ (sharedP ds f h))
  have HLN := Lib.hid (fltN_len (sharedP ds f h))
  have HZ := Lib.hid (show fltN (sharedP ds f h) 0 = [] from rfl)
  clear hn hl hf ha hk
  generalize fltN (sharedP ds f h) = X at *
  generalize sharedP ds f h = p at *
  go_enter Tryz.func193, Tryz.ntmps193
  go_wp2_with fail
  go_loopw [7, 15] (fun v i wr => ∃ m : Nat, m ≤ ls.length ∧ i = .int .i64 m ∧ Ints wr (w.heap.size + 1) v (X m) ∧ Held w wr [(w.heap.size, 0, .slice A ns.length c), (w.heap.size, 1, .slice A2 ls.length c2), (w.heap.size, 2, .slice A3 rs.length c3), (w.heap.size, 3, .slice A4 ds.length c4)]) (fun _ i _ => ls.length - (intOf i).toNat)
  case atStart => exact ⟨0, Nat.zero_le _, rfl, by rw [HZ.out]; exact Ints.made _ _ _ (by simp) (Nat.le_refl _), H0.out.alloc _⟩
  case round =>
    clear H0
    obtain ⟨m, hm, rfl, hown, hh⟩ := hrel
    have HO := Lib.hid hown; clear hown
    have H1 := Lib.hid hh; clear hh
    obtain ⟨x0, x1, x2, x3, _⟩ := H1.out.1
    by_cases hlt : m < ls.length
    · have q1 : (0 : Int) ≤ m := by omega
      have q2 : (m : Int) < (ls.length : Int) := by omega
      have HC := Lib.hid (HS.out m wr H1.out.below hlt)
      have HPM := HP.out m
      have HUM := Lib.hid (HU.out m)
      have hln := HLN.out m
      generalize atZ ds (2 * m) = za at *
      generalize atZ ds (2 * m + 1) = zb at *
      go_wp2_with fail
      refine HC.out.mono ?_
      rintro e w2 ⟨rfl, hb⟩
      have H2 := Lib.hid (H1.out.step hb)
      have HO2 := Lib.hid (HO.out.step hb)
      clear hb H1 HO x0 x1 x2 x3
      have hEQ := eqArr
      have HPH := Lib.hid HPM; clear HPM
      by_cases hA : za = f ∧ zb = h
      · have HUM := Lib.hid (show X (m + 1) = X m ++ [(m : Int)] from by rw [HUM.out, if_pos (by rw [HPH.out, hA.1, hA.2]; simp)])
        obtain ⟨rfl, rfl⟩ := hA
        obtain ⟨hi, hz0, hz1, hz2⟩ := HI.out
        have hsz1 := H2.out.2.1.1
        go_wp2_with (at_builtin; refine wpList_append_own _ rfl _ _ 27 rfl (w.heap.size + 1) 3 i0 (.int .i64 0) 1 8 Tryz.underlying27 hi hz0 hz1 hz2 rfl (by decide) _ _ _ rfl (World.ownsRow.alloc (World.ownsRow.alloc HO2.out _) _) ⟨_, 0, none⟩ 1 1 [.int .i64 m] rfl rfl ?c1 ?c2 ?c3 ?c4 ?c5 ?_)
        case c1 =>
          have := cell_one_new (w2.alloc (.cells #[.int .i64 za, .int .i64 zb] 194)) (.int .i64 (m : Int)) 3
          rwa [show (w2.alloc (.cells #[.int .i64 za, .int .i64 zb] 194)).heap.size = w2.heap.size + 1 from by simp] at this
        case c2 => simp [Value.oneCell']
        case c3 => unfold maxLen; omega
        case c4 => omega
        case c5 => simp <;> omega
        intro v' w5 hown hgrow _
        have HO3 := HO2.out.step (below_alloc w2 (.cells #[.int .i64 za, .int .i64 zb] 194))
        have H3 := H2.out.alloc (.cells #[.int .i64 za, .int .i64 zb] 194)
        have hsz3 := H3.2.1.1
        have H5 := Lib.hid (H3.stepB (B := w.heap.size + 1) ⟨Nat.lt_succ_self _, Nat.lt_succ_self _, Nat.lt_succ_self _, Nat.lt_succ_self _, trivial⟩ (grown_below HO3 hsz3 hgrow) (Nat.le_succ _))
        have HO5 := Lib.hid (Ints.more hown); clear hown hgrow HO3 H3 hsz3
        go_wp2_with fail
        exact ⟨⟨m + 1, by omega, by go_num, by rw [HUM.out]; exact HO5.out, H5.out⟩, by simp [intOf]; omega⟩
      · by_cases hB : za = h ∧ zb = f
        · have HUM := Lib.hid (show X (m + 1) = X m ++ [(m : Int)] from by rw [HUM.out, if_pos (by rw [HPH.out, hB.1, hB.2]; simp)])
          obtain ⟨rfl, rfl⟩ := hB
          have hne : ¬ za = zb := fun e => hA ⟨e, e.symm⟩
          have hne2 : ¬ zb = za := fun e => hA ⟨e.symm, e⟩
          clear hA
          obtain ⟨hi, hz0, hz1, hz2⟩ := HI.out
          have hsz1 := H2.out.2.1.1
          go_wp2_with (at_builtin; refine wpList_append_own _ rfl _ _ 27 rfl (w.heap.size + 1) 3 i0 (.int .i64 0) 1 8 Tryz.underlying27 hi hz0 hz1 hz2 rfl (by decide) _ _ _ rfl (World.ownsRow.alloc (World.ownsRow.alloc HO2.out _) _) ⟨_, 0, none⟩ 1 1 [.int .i64 m] rfl rfl ?c1 ?c2 ?c3 ?c4 ?c5 ?_)
          case c1 =>
            have := cell_one_new (w2.alloc (.cells #[.int .i64 za, .int .i64 zb] 194)) (.int .i64 (m : Int)) 3
            rwa [show (w2.alloc (.cells #[.int .i64 za, .int .i64 zb] 194)).heap.size = w2.heap.size + 1 from by simp] at this
          case c2 => simp [Value.oneCell']
          case c3 => unfold maxLen; omega
          case c4 => omega
          case c5 => simp <;> omega
          intro v' w5 hown hgrow _
          have HO3 := HO2.out.step (below_alloc w2 (.cells #[.int .i64 za, .int .i64 zb] 194))
          have H3 := H2.out.alloc (.cells #[.int .i64 za, .int .i64 zb] 194)
          have hsz3 := H3.2.1.1
          have H5 := Lib.hid (H3.stepB (B := w.heap.size + 1) ⟨Nat.lt_succ_self _, Nat.lt_succ_self _, Nat.lt_succ_self _, Nat.lt_succ_self _, trivial⟩ (grown_below HO3 hsz3 hgrow) (Nat.le_succ _))
          have HO5 := Lib.hid (Ints.more hown); clear hown hgrow HO3 H3 hsz3
          go_wp2_with fail
          exact ⟨⟨m + 1, by omega, by go_num, by rw [HUM.out]; exact HO5.out, H5.out⟩, by simp [intOf]; omega⟩
        · have HUM := Lib.hid (show X (m + 1) = X m from by
            rw [HUM.out, if_neg (by
              rw [HPH.out]
              simp only [Bool.or_eq_true, Bool.and_eq_true, beq_iff_eq]
              exact fun e => e.elim hA hB)])
          have g1 : (za == f && zb == h) = false := by rw [Bool.eq_false_iff]; intro e; simp at e; exact hA e
          have g2 : (za == h && zb == f) = false := by rw [Bool.eq_false_iff]; intro e; simp at e; exact hB e
          clear hA hB
          go_wp2_with fail
          exact ⟨⟨m + 1, by omega, by go_num, by rw [HUM.out]; exact HO2.out.step (below_alloc _ _), H2.out.alloc _⟩, by simp [intOf]; omega⟩
    · obtain rfl : m = ls.length := by omega
      go_wp2_with fail
      go_ret
      exact ⟨_, rfl, HO.out.mono (Nat.le_succ _), H1.out.below⟩

theorem ints_newform {xs : List Int} {w : World} {e : Ending} {w' : World} (h : IntsNew xs w e w') : ∃ a c, e = .returned (.slice a xs.length c) ∧ Below w.heap.size w w' := by
  obtain ⟨v, rfl, hi, hb⟩ := h
  obtain ⟨a, c, rfl⟩ := ints_form hi
  exact ⟨a, c, rfl, hb⟩

set_option maxRecDepth 100000 in
set_option maxHeartbeats 1000000 in
theorem implBesideG (v1 v2 v3 v4 : Value) (rs : List (List Int)) (ds : List Int) (ns ls : List Nd) (B B2 : Nat) (f h : Int) (w : World) (hn : Prs w v1 ns) (hl : Prs w v2 ls) (hf : Faces w B v3 rs) (ha : Ints w B2 v4 ds) (hk : ds.length = 2 * ls.length) (hd : ls.length ≤ 20) :
    Calls Tryz.prog 169 #[.agg #[v1, v2, v3, v4], .int .i64 f, .int .i64 h] w (BoolIs (decide (f ≠ h) && decide (0 < (fltN (sharedP ds f h) ls.length).length)) w) := by
  have HS := Lib.hid (fun W hb => implShared v1 v2 v3 v4 rs ds ns ls B B2 f h W (hn.step hb) (hl.step hb) (hf.step hb) (ha.step hb) hk hd)
  obtain ⟨A, c, rfl⟩ := prs_form2 hn
  obtain ⟨A2, c2, rfl⟩ := prs_form2 hl
  obtain ⟨A3, c3, rfl⟩ := faces_form hf
  obtain ⟨A4, c4, rfl⟩ := ints_form ha
  have H0 := Lib.hid (heldG w (.slice A ns.length c) (.slice A2 ls.length c2) (.slice A3 rs.length c3) (.slice A4 ds.length c4) 98)
  clear hn hl hf ha hk
  generalize fltN (sharedP ds f h) ls.length = xs at *
  by_cases hfh : f = h
  · have g : (f != h) = false := by simp [hfh]
    have HR := Lib.hid (show (decide (f ≠ h) && decide (0 < xs.length)) = false from by simp [hfh])
    generalize (decide (f ≠ h) && decide (0 < xs.length)) = res at *
    clear hfh
    go_enter Tryz.func169, Tryz.ntmps169
    go_wp2_with fail
    go_ret
    exact ⟨ret_bool HR.out.symm, H0.out.below⟩
  · have g : (f != h) = true := by simp [hfh]
    have HR := Lib.hid (show (decide (f ≠ h) && decide (0 < xs.length)) = decide (0 < xs.length) from by simp [hfh])
    generalize (decide (f ≠ h) && decide (0 < xs.length)) = res at *
    clear hfh
    obtain ⟨x0, x1, x2, x3, _⟩ := H0.out.1
    by_cases hx : 0 < xs.length
    · have HX := Lib.hid (show res = true from by rw [HR.out]; simpa using hx)
      have hx2 : (0 : Int) < (xs.length : Int) := by omega
      go_enter Tryz.func169, Tryz.ntmps169
      go_wp2_with fail
      refine (HS.out _ H0.out.below).mono ?_
      intro e w1 hnew
      obtain ⟨a5, c5, rfl, hb⟩ := ints_newform hnew
      have H1 := Lib.hid (H0.out.step hb); clear hb hnew
      go_wp2_with fail
      go_ret
      exact ⟨ret_bool HX.out.symm, H1.out.below⟩
    · have HX := Lib.hid (show res = false from by rw [HR.out]; simpa using hx)
      have hx2 : (xs.length : Int) ≤ 0 := by omega
      have hx3 : xs.length = 0 := by omega
      go_enter Tryz.func169, Tryz.ntmps169
      go_wp2_with fail
      refine (HS.out _ H0.out.below).mono ?_
      intro e w1 hnew
      obtain ⟨a5, c5, rfl, hb⟩ := ints_newform hnew
      have H1 := Lib.hid (H0.out.step hb); clear hb hnew
      go_wp2_with fail
      go_ret
      exact ⟨ret_bool HX.out.symm, H1.out.below⟩
end Go.Proofs.YtepacoacalhdcaaGreat

namespace Go.Proofs.YtepacoacalhdcaaGreat
open Go.RowKit
set_option linter.unusedVariables false
set_option linter.unusedSimpArgs false

theorem g_len (ns ls : List Nd) : (gA ns ls).length = 2 * (gL ns ls).length ∧ (gL ns ls).length ≤ 20 := by
  unfold gA gL
  by_cases hh : wholeB ns ls = true
  · rw [if_pos hh, if_pos hh]
    exact ⟨atW_len ns ls, (whole_win hh).2.2.1⟩
  · rw [if_neg hh, if_neg hh]
    exact ⟨rfl, by simp⟩

noncomputable def sharedW (ns ls : List Nd) (f h : Int) : List Int := fltN (sharedP (gA ns ls) f h) (gL ns ls).length

noncomputable def besB (ns ls : List Nd) (f h : Int) : Bool := decide (f ≠ h) && decide (0 < (sharedW ns ls f h).length)

noncomputable def besW (ns ls : List Nd) (f : Int) : List Int := fltN (fun k => besB ns ls f k) (wF ns ls).length

theorem sharedW_len (ns ls : List Nd) (f h : Int) : (sharedW ns ls f h).length ≤ 20 := by
  have := fltN_len (sharedP (gA ns ls) f h) (gL ns ls).length
  have := (g_len ns ls).2
  unfold sharedW
  omega

set_option maxRecDepth 100000 in
set_option maxHeartbeats 2000000 in
theorem implBesG (v1 v2 v3 v4 : Value) (rs : List (List Int)) (ds : List Int) (ns ls : List Nd) (B B2 : Nat) (f : Int) (w : World) (hn : Prs w v1 ns) (hl : Prs w v2 ls) (hf : Faces w B v3 rs) (ha : Ints w B2 v4 ds) (hk : ds.length = 2 * ls.length) (hd : ls.length ≤ 20) (h40 : rs.length ≤ 40) :
    Calls Tryz.prog 126 #[.agg #[v1, v2, v3, v4], .int .i64 f] w (IntsNew (fltN (fun k => decide (f ≠ (k : Int)) && decide (0 < (fltN (sharedP ds f k) ls.length).length)) rs.length) w) := by
  have HS := Lib.hid (fun (k : Nat) W hb => implBesideG v1 v2 v3 v4 rs ds ns ls B B2 f k W (hn.step hb) (hl.step hb) (hf.step hb) (ha.step hb) hk hd)
  unfold BoolIs at HS
  obtain ⟨A, c, rfl⟩ := prs_form2 hn
  obtain ⟨A2, c2, rfl⟩ := prs_form2 hl
  obtain ⟨A3, c3, rfl⟩ := faces_form hf
  obtain ⟨A4, c4, rfl⟩ := ints_form ha
  have H0 := Lib.hid (heldG w (.slice A ns.length c) (.slice A2 ls.length c2) (.slice A3 rs.length c3) (.slice A4 ds.length c4) 98)
  obtain ⟨i0, hi, hz0, hz1, hz2⟩ := info_parts infoInt
  have HI := Lib.hid (And.intro hi (And.intro hz0 (And.intro hz1 hz2))); clear hi hz0 hz1 hz2
  obtain ⟨p, hp⟩ : ∃ p : Nat → Bool, p = (fun k : Nat => decide (f ≠ (k : Int)) && decide (0 < (fltN (sharedP ds f k) ls.length).length)) := ⟨_, rfl⟩
  rw [← hp]
  have HS := Lib.hid (fun (k : Nat) W hb => (show Calls Tryz.prog 169 _ W (fun e w' => e = .returned (.bool (p k)) ∧ Below W.heap.size W w') from by rw [hp]; exact HS.out k W hb))
  have HU := Lib.hid (fltN_succ p)
  have HLN := Lib.hid (fltN_len p)
  have HZ := Lib.hid (show fltN p 0 = [] from rfl)
  clear hn hl hf ha hk hp hd
  generalize fltN p = X at *
  go_enter Tryz.func126, Tryz.ntmps126
  go_wp2_with fail
  go_loopw [5, 11] (fun v i wr => ∃ m : Nat, m ≤ rs.length ∧ i = .int .i64 m ∧ Ints wr (w.heap.size + 1) v (X m) ∧ Held w wr [(w.heap.size, 0, .slice A ns.length c), (w.heap.size, 1, .slice A2 ls.length c2), (w.heap.size, 2, .slice A3 rs.length c3), (w.heap.size, 3, .slice A4 ds.length c4)]) (fun _ i _ => rs.length - (intOf i).toNat)
  case atStart => exact ⟨0, Nat.zero_le _, rfl, by rw [HZ.out]; exact Ints.made _ _ _ (by simp) (Nat.le_refl _), H0.out.alloc _⟩
  case round =>
    clear H0
    obtain ⟨m, hm, rfl, hown, hh⟩ := hrel
    have HO := Lib.hid hown; clear hown
    have H1 := Lib.hid hh; clear hh
    obtain ⟨x0, x1, x2, x3, _⟩ := H1.out.1
    by_cases hlt : m < rs.length
    · have q1 : (0 : Int) ≤ m := by omega
      have q2 : (m : Int) < (rs.length : Int) := by omega
      have HC := Lib.hid (HS.out m wr H1.out.below)
      have HUM := Lib.hid (HU.out m)
      have hln := HLN.out m
      generalize hpm : p m = b at *
      clear hpm
      go_wp2_with fail
      refine HC.out.mono ?_
      rintro e w2 ⟨rfl, hb⟩
      have H2 := Lib.hid (H1.out.step hb)
      have HO2 := Lib.hid (HO.out.step hb)
      clear hb H1 HO x0 x1 x2 x3
      cases b
      · go_wp2_with fail
        exact ⟨⟨m + 1, by omega, by go_num, by rw [HUM.out]; exact HO2.out, H2.out⟩, by simp [intOf]; omega⟩
      · obtain ⟨hi, hz0, hz1, hz2⟩ := HI.out
        have hsz1 := H2.out.2.1.1
        go_wp2_with (at_builtin; refine wpList_append_own _ rfl _ _ 27 rfl (w.heap.size + 1) 3 i0 (.int .i64 0) 1 8 Tryz.underlying27 hi hz0 hz1 hz2 rfl (by decide) _ _ _ rfl (World.ownsRow.alloc HO2.out _) ⟨_, 0, none⟩ 1 1 [.int .i64 m] rfl rfl ?c1 ?c2 ?c3 ?c4 ?c5 ?_)
        case c1 => exact cell_one_new _ _ _
        case c2 => simp [Value.oneCell']
        case c3 => unfold maxLen; omega
        case c4 => omega
        case c5 => simp <;> omega
        intro v' w5 hown hgrow _
        have H5 := Lib.hid (H2.out.stepB (B := w.heap.size + 1) ⟨Nat.lt_succ_self _, Nat.lt_succ_self _, Nat.lt_succ_self _, Nat.lt_succ_self _, trivial⟩ (grown_below HO2.out hsz1 hgrow) (Nat.le_succ _))
        have HO5 := Lib.hid (Ints.more hown); clear hown hgrow
        go_wp2_with fail
        exact ⟨⟨m + 1, by omega, by go_num, by rw [HUM.out]; exact HO5.out, H5.out⟩, by simp [intOf]; omega⟩
    · obtain rfl : m = rs.length := by omega
      go_wp2_with fail
      go_ret
      exact ⟨_, rfl, HO.out.mono (Nat.le_succ _), H1.out.below⟩

end Go.Proofs.YtepacoacalhdcaaGreat
