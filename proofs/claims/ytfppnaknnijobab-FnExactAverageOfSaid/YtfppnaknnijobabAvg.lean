/-
  AverageOf, of the model and of the program.
-/
import Derived.Test.YtfppnaknnijobabAvgP
import Derived.BigRegion
namespace Go.Proofs.Ytfppnaknnijobab
open Go.RowKit
set_option linter.unusedVariables false
set_option linter.unusedSimpArgs false

/-- A new block: the result's cells, still 0. -/
def Az (w W : World) : Prop := W.heap[w.heap.size]? = some (.cells #[.int .i64 0, .int .i64 0, .int .i64 0, .int .i64 0] 47) ∧ Below w.heap.size w W
theorem Az.start (w : World) : Az w (w.alloc (.cells #[.int .i64 0, .int .i64 0, .int .i64 0, .int .i64 0] 47)) := ⟨heap_alloc_new w _, (Below.refl _ _).alloc (Nat.le_refl _) _⟩
theorem Az.step {w W W' : World} (h : Az w W) (hb : Below W.heap.size W W') : Az w W' := ⟨(hb.block _ (lt_of_block h.1)).trans h.1, h.2.trans (hb.mono h.2.size)⟩
/-- And another one, with the sums. -/
def Av (w W : World) (B : Nat) (q : Qd) : Prop := Az w W ∧ W.heap[B]? = some (.cells #[.int .i64 q.x, .int .i64 q.y, .int .i64 q.z, .int .i64 q.u] 47) ∧ w.heap.size < B
theorem Az.more {w W : World} (h : Az w W) (q : Qd) : Av w (W.alloc (.cells #[.int .i64 q.x, .int .i64 q.y, .int .i64 q.z, .int .i64 q.u] 47)) W.heap.size q :=
  ⟨h.step ((Below.refl _ _).alloc (Nat.le_refl _) _), heap_alloc_new W _, lt_of_block h.1⟩
theorem Av.step {w W W' : World} {B : Nat} {q : Qd} (h : Av w W B q) (hb : Below W.heap.size W W') : Av w W' B q :=
  ⟨h.1.step hb, (hb.block _ (lt_of_block h.2.1)).trans h.2.1, h.2.2⟩
theorem Av.put {w W : World} {B : Nat} {q : Qd} (h : Av w W B q) (j : Nat) (x : Value) : Az w (W.setCell ⟨B, j, none⟩ x) :=
  ⟨(Below.heap_setCell _ _ _ _ (by show w.heap.size ≠ B; have := h.2.2; omega)).trans h.1.1, h.1.2.setCell (p := ⟨_, _, none⟩) (by show w.heap.size ≤ B; have := h.2.2; omega) _⟩
theorem Av.px {w W : World} {B : Nat} {q : Qd} (h : Av w W B q) (a : Int) : Av w (W.setCell ⟨B, 0, none⟩ (.int .i64 a)) B ⟨a, q.y, q.z, q.u⟩ := ⟨h.put 0 _, heap_setCell_self (k := 0) h.2.1 (.int .i64 a), h.2.2⟩
theorem Av.py {w W : World} {B : Nat} {q : Qd} (h : Av w W B q) (a : Int) : Av w (W.setCell ⟨B, 1, none⟩ (.int .i64 a)) B ⟨q.x, a, q.z, q.u⟩ := ⟨h.put 1 _, heap_setCell_self (k := 1) h.2.1 (.int .i64 a), h.2.2⟩
theorem Av.pz {w W : World} {B : Nat} {q : Qd} (h : Av w W B q) (a : Int) : Av w (W.setCell ⟨B, 2, none⟩ (.int .i64 a)) B ⟨q.x, q.y, a, q.u⟩ := ⟨h.put 2 _, heap_setCell_self (k := 2) h.2.1 (.int .i64 a), h.2.2⟩
theorem Av.pu {w W : World} {B : Nat} {q : Qd} (h : Av w W B q) (a : Int) : Av w (W.setCell ⟨B, 3, none⟩ (.int .i64 a)) B ⟨q.x, q.y, q.z, a⟩ := ⟨h.put 3 _, heap_setCell_self (k := 3) h.2.1 (.int .i64 a), h.2.2⟩
theorem put4 {W : World} {B : Nat} {T : TypeId} {a b c d : Value} (K : W.heap[B]? = some (.cells #[a, b, c, d] T)) (x y z u : Value) :
    ((((W.setCell ⟨B, 0, none⟩ x).setCell ⟨B, 1, none⟩ y).setCell ⟨B, 2, none⟩ z).setCell ⟨B, 3, none⟩ u).cell? ⟨B, 0, none⟩ = some x ∧ ((((W.setCell ⟨B, 0, none⟩ x).setCell ⟨B, 1, none⟩ y).setCell ⟨B, 2, none⟩ z).setCell ⟨B, 3, none⟩ u).cell? ⟨B, 1, none⟩ = some y ∧
    ((((W.setCell ⟨B, 0, none⟩ x).setCell ⟨B, 1, none⟩ y).setCell ⟨B, 2, none⟩ z).setCell ⟨B, 3, none⟩ u).cell? ⟨B, 2, none⟩ = some z ∧ ((((W.setCell ⟨B, 0, none⟩ x).setCell ⟨B, 1, none⟩ y).setCell ⟨B, 2, none⟩ z).setCell ⟨B, 3, none⟩ u).cell? ⟨B, 3, none⟩ = some u := by
  have m0 := heap_setCell_self (k := 0) K x
  have m1 := heap_setCell_self (k := 1) m0 y
  have m2 := heap_setCell_self (k := 2) m1 z
  have m3 := heap_setCell_self (k := 3) m2 u
  exact ⟨(cell_of_cells (k := 0) m3).trans rfl, (cell_of_cells (k := 1) m3).trans rfl, (cell_of_cells (k := 2) m3).trans rfl, (cell_of_cells (k := 3) m3).trans rfl⟩

set_option maxRecDepth 100000 in
theorem specRecs (xs : List Qd) (v : Value) (w : World) (hv : Qds w v xs) : Calls Try.prog 77 #[v] w (BoolIs (recsB xs) w) := by
  have HV := Lib.hid hv
  have hlen := hv.len
  obtain ⟨A, c, rfl⟩ := hv.form2
  clear hv
  have HNO := Lib.hid (fun k (hk : k < xs.length) h => recsB_no hk h)
  have HR := Lib.hid (recsB_iff xs)
  generalize recsB xs = r at *
  go_enter Try.func77, Try.ntmps77
  go_wp2_with fail
  go_loopw [3] (fun i wr => ∃ k : Nat, k ≤ xs.length ∧ i = .int .i64 k ∧ (∀ j, j < k → recB (atQ xs j) = true) ∧ Below w.heap.size w wr) (fun i _ => xs.length - (intOf i).toNat)
  case atStart => exact ⟨0, Nat.zero_le _, rfl, fun j hj => by omega, Below.refl _ _⟩
  case round =>
    obtain ⟨k, hk, rfl, ha, hb⟩ := hrel
    have HA := Lib.hid ha; clear ha
    have HB := Lib.hid hb; clear hb
    by_cases hlt : k < xs.length
    · obtain ⟨_, _, he, _, _, hcs⟩ := (HV.out.step HB.out).form
      injection he with he1 he2 he3
      obtain ⟨b, o, hA, hbl, hc0, hc1, hc2, hc3⟩ := hcs k hlt
      rw [← he1] at hA
      subst hA
      clear he1 he2 he3 hcs
      have HS := Lib.hid (specRecipe (atQ xs k))
      have HN := Lib.hid (HNO.out k hlt)
      have HNX := Lib.hid (fun (h : recB (atQ xs k) = true) => (fun j (hj : j < k + 1) => (if e : j = k then e ▸ h else HA.out j (by omega)) : ∀ j, j < k + 1 → recB (atQ xs j) = true))
      have hz1 : (k : Int) < (xs.length : Int) := by omega
      have hz2 : (0 : Int) ≤ k := by omega
      have hsz := HB.out.size
      generalize recB (atQ xs k) = d at *
      generalize atQ xs k = t at *
      obtain ⟨x, y, z, u⟩ := t
      unfold Qd.val at HS
      simp only at HS hc0 hc1 hc2 hc3
      cases d
      · go_wp2_with fail
        refine (HS.out _).mono ?_
        rintro e w1 ⟨rfl, hb⟩
        have HB1 := Lib.hid (HB.out.trans (hb.mono hsz)); clear hb
        go_wp2_with fail
        go_ret
        exact ⟨ret_bool (HN.out trivial).symm, HB1.out⟩
      · go_wp2_with fail
        refine (HS.out _).mono ?_
        rintro e w1 ⟨rfl, hb⟩
        have HB1 := Lib.hid (HB.out.trans (hb.mono hsz)); clear hb
        go_wp2_with fail
        exact ⟨⟨k + 1, by omega, by go_num, HNX.out trivial, HB1.out⟩, by simp [intOf]; omega⟩
    · obtain rfl : k = xs.length := by omega
      go_wp2_with fail
      all_goals
        go_ret
        exact ⟨ret_bool (by
          rw [Bool.eq_iff_iff, HR.out]
          constructor
          · intro h; simp at h; exact ⟨HA.out, by omega⟩
          · intro h; have := h.2; simp; omega), HB.out⟩

theorem implNotRec (q : Qd) (w : World) :
    Calls Try.prog 108 #[q.val] w (BoolIs (!recB q) w) := by
  have HA := Lib.hid (implRecipe q)
  have H0 := Lib.hid (heldQ1 w q 47)
  generalize recB q = r at *
  obtain ⟨x, y, z, u⟩ := q
  unfold Qd.val at *
  simp only at H0 HA
  obtain ⟨x0, x1, x2, x3, _⟩ := H0.out.1
  go_enter Try.func108, Try.ntmps108
  go_wp2_with fail
  refine (HA.out _).mono ?_
  rintro e wH1 ⟨rfl, hb⟩
  have H1 := Lib.hid ((H0.out).step hb); clear hb
  try clear x0 x1 x2 x3
  obtain ⟨x0, x1, x2, x3, _⟩ := H1.out.1
  go_wp2_with fail
  go_ret
  exact ⟨rfl, H1.out.below⟩

/-- Where the first invalid recipe is, or that there is none. -/
def BadIs (xs : List Qd) (w : World) (e : Ending) (w' : World) : Prop :=
  ∃ i : Int, e = .returned (.int .i64 i) ∧ ((i = -1 ∧ ∀ k, k < xs.length → recB (atQ xs k) = true) ∨ ∃ k : Nat, i = k ∧ k < xs.length ∧ recB (atQ xs k) = false) ∧ Below w.heap.size w w'
set_option maxRecDepth 100000 in
theorem implBadIdx (xs : List Qd) (v : Value) (w : World) (hv : Qds w v xs) :
    Calls Try.prog 124 #[v, .func (.func 108) #[] #[]] w (BadIs xs w) := by
  have HV := Lib.hid hv
  have hlen := hv.len
  obtain ⟨A, c, rfl⟩ := hv.form2
  clear hv
  go_enter Try.func124, Try.ntmps124
  go_wp2_with fail
  go_loopw [8] (fun i wr => ∃ k : Nat, k ≤ xs.length ∧ i = .int .i64 k ∧ (∀ j, j < k → recB (atQ xs j) = true) ∧ Below w.heap.size w wr) (fun i _ => xs.length - (intOf i).toNat)
  case atStart => exact ⟨0, Nat.zero_le _, rfl, fun j hj => by omega, Below.refl _ _⟩
  case round =>
    obtain ⟨k, hk, rfl, ha, hb⟩ := hrel
    have HA := Lib.hid ha; clear ha
    have HB := Lib.hid hb; clear hb
    by_cases hlt : k < xs.length
    · obtain ⟨_, _, he, _, _, hcs⟩ := (HV.out.step HB.out).form
      injection he with he1 he2 he3
      obtain ⟨b, o, hA, hbl, hc0, hc1, hc2, hc3⟩ := hcs k hlt
      rw [← he1] at hA
      subst hA
      clear he1 he2 he3 hcs
      have HS := Lib.hid (implNotRec (atQ xs k))
      have HYE := Lib.hid (fun (h : recB (atQ xs k) = false) => (show ∃ j : Nat, (k : Int) = j ∧ j < xs.length ∧ recB (atQ xs j) = false from ⟨k, rfl, hlt, h⟩))
      have HNX := Lib.hid (fun (h : recB (atQ xs k) = true) => (fun j (hj : j < k + 1) => (if e : j = k then e ▸ h else HA.out j (by omega)) : ∀ j, j < k + 1 → recB (atQ xs j) = true))
      have hz1 : (k : Int) < (xs.length : Int) := by omega
      have hz2 : (0 : Int) ≤ k := by omega
      have hsz := HB.out.size
      generalize recB (atQ xs k) = d at *
      generalize atQ xs k = t at *
      obtain ⟨x, y, z, u⟩ := t
      unfold Qd.val at HS
      simp only at HS hc0 hc1 hc2 hc3
      cases d
      · have HP := Lib.hid (HYE.out rfl)
        clear HYE HNX
        rw [Bool.not_false] at HS
        go_wp2_with fail
        refine (HS.out _).mono ?_
        rintro e w1 ⟨rfl, hb⟩
        have HB1 := Lib.hid (HB.out.trans (hb.mono hsz)); clear hb
        go_wp2_with fail
        go_ret
        exact ⟨_, rfl, .inr HP.out, HB1.out⟩
      · have HP := Lib.hid (HNX.out rfl)
        clear HYE HNX
        rw [Bool.not_true] at HS
        go_wp2_with fail
        refine (HS.out _).mono ?_
        rintro e w1 ⟨rfl, hb⟩
        have HB1 := Lib.hid (HB.out.trans (hb.mono hsz)); clear hb
        go_wp2_with fail
        exact ⟨⟨k + 1, by omega, by go_num, HP.out, HB1.out⟩, by simp [intOf]; omega⟩
    · obtain rfl : k = xs.length := by omega
      go_wp2_with fail
      go_ret
      exact ⟨-1, rfl, .inl ⟨rfl, HA.out⟩, HB.out⟩

theorem implAnyBad (xs : List Qd) (v : Value) (w : World) (hv : Qds w v xs) :
    Calls Try.prog 107 #[v, .func (.func 108) #[] #[]] w (BoolIs (!recsA xs) w) := by
  have HA := Lib.hid (fun w h => implBadIdx xs v w h)
  unfold BadIs at HA
  have HV := Lib.hid hv
  obtain ⟨A, c, rfl⟩ := hv.form2
  clear hv
  have HY := Lib.hid (recsA_iff xs)
  have HN := Lib.hid (fun k (hk : k < xs.length) h => recsA_no hk h)
  have H0 := Lib.hid (Held.none_ w)
  generalize recsA xs = r at *
  go_enter Try.func107, Try.ntmps107
  go_wp2_with fail
  refine (HA.out _ HV.out).mono ?_
  rintro e w1 ⟨i, rfl, hi, hb⟩
  have H1 := Lib.hid (H0.out.step hb); clear hb
  rcases hi with ⟨rfl, ha⟩ | ⟨k, rfl, hk, hf⟩
  · have HRT := Lib.hid (HY.out.2 ha); clear ha
    go_wp2_with fail
    go_ret
    exact ⟨ret_bool (by rw [HRT.out]; rfl), H1.out.below⟩
  · have HRF := Lib.hid (HN.out k hk hf); clear hf
    have hz2 : (0 : Int) ≤ k := by omega
    go_wp2_with fail
    go_ret
    exact ⟨ret_bool (by rw [HRF.out]; rfl), H1.out.below⟩

theorem implRecs (xs : List Qd) (v : Value) (w : World) (hv : Qds w v xs) : Calls Try.prog 79 #[v] w (BoolIs (recsB xs) w) := by
  have HA := Lib.hid (fun w h => implAnyBad xs v w h)
  have HR := Lib.hid (show recsB xs = (recsA xs && decide (xs.length ≤ 20)) from rfl)
  have HV := Lib.hid hv
  have hlen := hv.len
  obtain ⟨A, c, rfl⟩ := hv.form2
  clear hv
  have H0 := Lib.hid (Held.none_ w)
  generalize recsB xs = r at *
  generalize recsA xs = d at *
  by_cases h20 : xs.length ≤ 20
  · have h20i : (xs.length : Int) ≤ 20 := by omega
    rw [decide_eq_true h20, Bool.and_true] at HR
    go_enter Try.func79, Try.ntmps79
    go_wp2_with fail
    refine (HA.out _ HV.out).mono ?_
    rintro e wH1 ⟨rfl, hb⟩
    have H1 := Lib.hid ((H0.out).step hb); clear hb
    go_wp2_with fail
    go_ret
    exact ⟨ret_bool (by rw [HR.out]), H1.out.below⟩
  · have h20i : ¬ (xs.length : Int) ≤ 20 := by omega
    rw [decide_eq_false h20, Bool.and_false] at HR
    go_enter Try.func79, Try.ntmps79
    go_wp2_with fail
    go_ret
    exact ⟨ret_bool (by rw [HR.out]), H0.out.below⟩

theorem avg_no {xs : List Qd} (h : avgOk xs = false) : avgQ xs = ⟨0, 0, 0, 0⟩ := if_neg (by rw [h]; simp)
theorem avg_yes {xs : List Qd} (h : avgOk xs = true) : avgQ xs = ⟨1000 - sY xs xs.length / xs.length - sZ xs xs.length / xs.length - sU xs xs.length / xs.length, sY xs xs.length / xs.length, sZ xs xs.length / xs.length, sU xs xs.length / xs.length⟩ := if_pos h
theorem quo_bd {s n : Int} (h1 : 0 ≤ s) (h2 : s ≤ 1000 * n) (h3 : 1 ≤ n) : 0 ≤ s / n ∧ s / n ≤ 1000 ∧ Int.tdiv s n = s / n ∧ IntKind.i64.wrap (s / n) = s / n := by
  have a : 0 ≤ s / n := Int.ediv_nonneg h1 (by omega)
  have b : s / n ≤ 1000 := by
    have := Int.ediv_le_ediv (by omega : 0 < n) h2
    rw [Int.mul_ediv_cancel _ (by omega)] at this
    exact this
  exact ⟨a, b, Int.tdiv_eq_ediv_of_nonneg h1, IntWalk.i64_in _ (by omega)⟩

set_option maxRecDepth 100000 in
set_option maxHeartbeats 2000000 in
theorem specAvg (xs : List Qd) (v : Value) (w : World) (hv : Qds w v xs) :
    Calls Try.prog 31 #[v] w (QdOk (avgQ xs) (avgOk xs) w) := by
  have HA := Lib.hid (fun w h => specRecs xs v w h)
  have HV := Lib.hid hv
  have hlen := hv.len
  obtain ⟨A, c, rfl⟩ := hv.form2
  clear hv
  have HRY := Lib.hid (fun h => avg_yes (xs := xs) h)
  have HRN := Lib.hid (fun h => avg_no (xs := xs) h)
  have HRO := Lib.hid (show avgOk xs = (recsB xs && !decide (xs.length = 0)) from rfl)
  have HBD := Lib.hid (fun (h : recsB xs = true) => And.intro ((recsB_iff xs).1 h).2 (sYZU_bd ((recsB_iff xs).1 h).1))
  have HY1 := Lib.hid (fun n => (show sY xs (n + 1) = sY xs n + (atQ xs n).y from rfl))
  have HZ1 := Lib.hid (fun n => (show sZ xs (n + 1) = sZ xs n + (atQ xs n).z from rfl))
  have HU1 := Lib.hid (fun n => (show sU xs (n + 1) = sU xs n + (atQ xs n).u from rfl))
  have HY0 := Lib.hid (show sY xs 0 = 0 from rfl)
  have HZ0 := Lib.hid (show sZ xs 0 = 0 from rfl)
  have HU0 := Lib.hid (show sU xs 0 = 0 from rfl)
  generalize avgQ xs = rq at *
  generalize avgOk xs = rb at *
  generalize recsB xs = d at *
  generalize sY xs = SY at *
  generalize sZ xs = SZ at *
  generalize sU xs = SU at *
  have HZB := Lib.hid (Az.start w)
  go_enter Try.func31, Try.ntmps31
  by_cases h0 : xs.length = 0
  · have hni : (xs.length : Int) = 0 := by omega
    have HRB := Lib.hid (show rb = false from by rw [HRO.out, decide_eq_true h0]; simp)
    have HRQ := Lib.hid (HRN.out HRB.out)
    have k0 := HZB.out.1
    have z0 : _ = some (Value.int .i64 0) := (cell_of_cells (k := 0) k0).trans rfl
    have z1 : _ = some (Value.int .i64 0) := (cell_of_cells (k := 1) k0).trans rfl
    have z2 : _ = some (Value.int .i64 0) := (cell_of_cells (k := 2) k0).trans rfl
    have z3 : _ = some (Value.int .i64 0) := (cell_of_cells (k := 3) k0).trans rfl
    have f0 := free_of_cells (k := 0) k0
    have f1 := free_of_cells (k := 1) k0
    have f2 := free_of_cells (k := 2) k0
    have f3 := free_of_cells (k := 3) k0
    clear k0
    go_wp2_with fail
    refine bodyPost_ret (v := .tuple #[.agg #[.int .i64 0, .int .i64 0, .int .i64 0, .int .i64 0], .bool false]) (by simp [results, Try.results31, go_sem, z0, z1, z2, z3]) rfl ⟨by rw [HRB.out, HRQ.out]; rfl, HZB.out.2⟩
  have hni : ¬ (xs.length : Int) = 0 := by omega
  have HN0 := Lib.hid h0
  rw [decide_eq_false h0] at HRO
  clear h0
  go_wp2_with fail
  refine (HA.out _ (HV.out.step HZB.out.2)).mono ?_
  rintro e w1 ⟨rfl, hb⟩
  have HZB := Lib.hid (HZB.out.step hb); clear hb
  cases d
  · have HRB := Lib.hid (show rb = false from by rw [HRO.out]; rfl)
    have HRQ := Lib.hid (HRN.out HRB.out)
    have k0 := HZB.out.1
    have z0 : _ = some (Value.int .i64 0) := (cell_of_cells (k := 0) k0).trans rfl
    have z1 : _ = some (Value.int .i64 0) := (cell_of_cells (k := 1) k0).trans rfl
    have z2 : _ = some (Value.int .i64 0) := (cell_of_cells (k := 2) k0).trans rfl
    have z3 : _ = some (Value.int .i64 0) := (cell_of_cells (k := 3) k0).trans rfl
    have f0 := free_of_cells (k := 0) k0
    have f1 := free_of_cells (k := 1) k0
    have f2 := free_of_cells (k := 2) k0
    have f3 := free_of_cells (k := 3) k0
    clear k0
    go_wp2_with fail
    obtain ⟨r0, r1, r2, r3⟩ := put4 HZB.out.1 (.int .i64 0) (.int .i64 0) (.int .i64 0) (.int .i64 0)
    refine bodyPost_ret (v := .tuple #[.agg #[.int .i64 0, .int .i64 0, .int .i64 0, .int .i64 0], .bool false]) (by simp [results, Try.results31, go_sem, r0, r1, r2, r3]) rfl ⟨by rw [HRB.out, HRQ.out]; rfl, ?_⟩
    exact (((HZB.out.2.setCell (p := ⟨_, _, none⟩) (Nat.le_refl _) _).setCell (p := ⟨_, _, none⟩) (Nat.le_refl _) _).setCell (p := ⟨_, _, none⟩) (Nat.le_refl _) _).setCell (p := ⟨_, _, none⟩) (Nat.le_refl _) _
  have HRB := Lib.hid (show rb = true from by rw [HRO.out]; rfl)
  have HRQ := Lib.hid (HRY.out HRB.out)
  have HBD2 := Lib.hid (HBD.out rfl)
  clear HBD HRN HRY HRO
  have HS := Lib.hid (HZB.out.more ⟨0, 0, 0, 0⟩)
  go_wp2_with fail
  generalize w1.heap.size = B at *
  generalize w1.alloc (.cells #[.int .i64 0, .int .i64 0, .int .i64 0, .int .i64 0] 47) = W0 at *
  go_loopw [6] (fun i wr => ∃ k : Nat, k ≤ xs.length ∧ i = .int .i64 k ∧ Av w wr B ⟨0, SY k, SZ k, SU k⟩) (fun i _ => xs.length - (intOf i).toNat)
  case atStart => exact ⟨0, Nat.zero_le _, rfl, by rw [HY0.out, HZ0.out, HU0.out]; exact HS.out⟩
  case round =>
    clear HS
    obtain ⟨k, hk, rfl, hs⟩ := hrel
    have HS := Lib.hid hs; clear hs
    have HB := Lib.hid HS.out.1.2
    have hz2 : (0 : Int) ≤ k := by omega
    by_cases hlt : k < xs.length
    · obtain ⟨_, _, he, _, _, hcs⟩ := HV.out.form
      injection he with he1 he2 he3
      obtain ⟨b, o, hA, hbl, hd0, hd1, hd2, hd3⟩ := hcs k hlt
      rw [← he1] at hA
      subst hA
      have HD := Lib.hid (And.intro hd1 (And.intro hd2 hd3))
      have HD0 := Lib.hid hd0
      clear he1 he2 he3 hcs hd0 hd1 hd2 hd3
      have bk := HBD2.out.2 k (by omega)
      have bk1 := HBD2.out.2 (k + 1) hlt
      have h20 := HBD2.out.1
      rw [HY1.out k, HZ1.out k, HU1.out k] at bk1
      have hlt2 : (k : Int) < (xs.length : Int) := by omega
      have HYE := Lib.hid (HY1.out k)
      have HZE := Lib.hid (HZ1.out k)
      have HUE := Lib.hid (HU1.out k)
      generalize atQ xs k = t at *
      obtain ⟨tx, ty, tz, tu⟩ := t
      simp only at HD bk1 HYE HZE HUE
      generalize hsy : SY k = sy at *
      generalize hsz : SZ k = sz at *
      generalize hsu : SU k = su at *
      clear hsy hsz hsu
      have e1 : IntKind.i64.wrap (sy + ty) = sy + ty := IntWalk.i64_in _ (by omega)
      have e2 : IntKind.i64.wrap (sz + tz) = sz + tz := IntWalk.i64_in _ (by omega)
      have e3 : IntKind.i64.wrap (su + tu) = su + tu := IntWalk.i64_in _ (by omega)
      have hbB : b ≠ B := by have := HS.out.2.2; omega
      clear bk bk1
      obtain ⟨-, k1, -⟩ := HS.out
      simp only at k1
      have y0 : _ = some (Value.int .i64 _) := (cell_of_cells (k := 0) k1).trans rfl
      have y1 : _ = some (Value.int .i64 _) := (cell_of_cells (k := 1) k1).trans rfl
      have y2 : _ = some (Value.int .i64 _) := (cell_of_cells (k := 2) k1).trans rfl
      have y3 : _ = some (Value.int .i64 _) := (cell_of_cells (k := 3) k1).trans rfl
      have g0 := free_of_cells (k := 0) k1
      have g1 := free_of_cells (k := 1) k1
      have g2 := free_of_cells (k := 2) k1
      have g3 := free_of_cells (k := 3) k1
      clear k1
      have hc1 := (HS.out.1.2.cell (p := ⟨b, _, none⟩) hbl).trans HD.out.1
      have hc2 := (HS.out.1.2.cell (p := ⟨b, _, none⟩) hbl).trans HD.out.2.1
      have hc3 := (HS.out.1.2.cell (p := ⟨b, _, none⟩) hbl).trans HD.out.2.2
      go_wp2_with fail
      go_big_region
      all_goals go_wp2_with fail
      clear y0 y1 y2 y3 g0 g1 g2 g3
      clear hc1 hc2 hc3 HB
      have HS := Lib.hid ((HS.out.py (sy + ty)).step ((Below.refl _ _).drew))
      generalize (wr.setCell ⟨B, 1, none⟩ (.int .i64 (sy + ty))).drew = W8 at *
      obtain ⟨-, k1, -⟩ := HS.out
      simp only at k1
      have y0 : _ = some (Value.int .i64 _) := (cell_of_cells (k := 0) k1).trans rfl
      have y1 : _ = some (Value.int .i64 _) := (cell_of_cells (k := 1) k1).trans rfl
      have y2 : _ = some (Value.int .i64 _) := (cell_of_cells (k := 2) k1).trans rfl
      have y3 : _ = some (Value.int .i64 _) := (cell_of_cells (k := 3) k1).trans rfl
      have g0 := free_of_cells (k := 0) k1
      have g1 := free_of_cells (k := 1) k1
      have g2 := free_of_cells (k := 2) k1
      have g3 := free_of_cells (k := 3) k1
      clear k1
      have hc1 := (HS.out.1.2.cell (p := ⟨b, _, none⟩) hbl).trans HD.out.1
      have hc2 := (HS.out.1.2.cell (p := ⟨b, _, none⟩) hbl).trans HD.out.2.1
      have hc3 := (HS.out.1.2.cell (p := ⟨b, _, none⟩) hbl).trans HD.out.2.2
      go_big_region
      all_goals go_wp2_with fail
      clear y0 y1 y2 y3 g0 g1 g2 g3
      clear hc1 hc2 hc3
      have HS := Lib.hid ((HS.out.pz (sz + tz)).step ((Below.refl _ _).drew))
      generalize (W8.setCell ⟨B, 2, none⟩ (.int .i64 (sz + tz))).drew = W9 at *
      obtain ⟨-, k1, -⟩ := HS.out
      simp only at k1
      have y0 : _ = some (Value.int .i64 _) := (cell_of_cells (k := 0) k1).trans rfl
      have y1 : _ = some (Value.int .i64 _) := (cell_of_cells (k := 1) k1).trans rfl
      have y2 : _ = some (Value.int .i64 _) := (cell_of_cells (k := 2) k1).trans rfl
      have y3 : _ = some (Value.int .i64 _) := (cell_of_cells (k := 3) k1).trans rfl
      have g0 := free_of_cells (k := 0) k1
      have g1 := free_of_cells (k := 1) k1
      have g2 := free_of_cells (k := 2) k1
      have g3 := free_of_cells (k := 3) k1
      clear k1
      have hc1 := (HS.out.1.2.cell (p := ⟨b, _, none⟩) hbl).trans HD.out.1
      have hc2 := (HS.out.1.2.cell (p := ⟨b, _, none⟩) hbl).trans HD.out.2.1
      have hc3 := (HS.out.1.2.cell (p := ⟨b, _, none⟩) hbl).trans HD.out.2.2
      go_big_region
      all_goals go_wp2_with fail
      exact ⟨⟨k + 1, by omega, by go_num, by rw [HYE.out, HZE.out, HUE.out]; exact (HS.out.pu (su + tu)).step ((Below.refl _ _).drew)⟩, by simp [intOf]; omega⟩
    · obtain rfl : k = xs.length := by omega
      have hb3 := HBD2.out.2 xs.length (Nat.le_refl _)
      have hn1 : (1 : Int) ≤ xs.length := by omega
      obtain ⟨p1, p2, p3, p4⟩ := quo_bd hb3.1.1 (by omega) hn1
      obtain ⟨q1, q2, q3, q4⟩ := quo_bd hb3.2.1.1 (by omega) hn1
      obtain ⟨s1, s2, s3, s4⟩ := quo_bd hb3.2.2.1 (by omega) hn1
      clear hb3
      generalize SY xs.length / (xs.length : Int) = qy at *
      generalize SZ xs.length / (xs.length : Int) = qz at *
      generalize SU xs.length / (xs.length : Int) = qu at *
      generalize SY xs.length = sy at *
      generalize SZ xs.length = sz at *
      generalize SU xs.length = su at *
      have e1 : IntKind.i64.wrap (1000 - qy) = 1000 - qy := IntWalk.i64_in _ (by omega)
      have e2 : IntKind.i64.wrap (1000 - qy - qz) = 1000 - qy - qz := IntWalk.i64_in _ (by omega)
      have e3 : IntKind.i64.wrap (1000 - qy - qz - qu) = 1000 - qy - qz - qu := IntWalk.i64_in _ (by omega)
      obtain ⟨-, k1, -⟩ := HS.out
      simp only at k1
      have y0 : _ = some (Value.int .i64 _) := (cell_of_cells (k := 0) k1).trans rfl
      have y1 : _ = some (Value.int .i64 _) := (cell_of_cells (k := 1) k1).trans rfl
      have y2 : _ = some (Value.int .i64 _) := (cell_of_cells (k := 2) k1).trans rfl
      have y3 : _ = some (Value.int .i64 _) := (cell_of_cells (k := 3) k1).trans rfl
      have g0 := free_of_cells (k := 0) k1
      have g1 := free_of_cells (k := 1) k1
      have g2 := free_of_cells (k := 2) k1
      have g3 := free_of_cells (k := 3) k1
      clear k1
      have qB := lt_of_block HS.out.2.1
      have qB2 : B < wr.drew.heap.size := qB
      go_wp2_with fail
      go_big_region
      clear y0 y1 y2 y3 g0 g1 g2 g3
      clear qB qB2
      have HS := Lib.hid ((HS.out.1.more ⟨0, qy, qz, qu⟩).step ((Below.refl _ _).drew))
      generalize (wr.alloc (.cells #[.int .i64 0, .int .i64 qy, .int .i64 qz, .int .i64 qu] 47)).drew = W5 at *
      generalize wr.heap.size = B5 at *
      have HZB := Lib.hid HS.out.1
      obtain ⟨-, k1, -⟩ := HS.out
      simp only at k1
      have y0 : _ = some (Value.int .i64 _) := (cell_of_cells (k := 0) k1).trans rfl
      have y1 : _ = some (Value.int .i64 _) := (cell_of_cells (k := 1) k1).trans rfl
      have y2 : _ = some (Value.int .i64 _) := (cell_of_cells (k := 2) k1).trans rfl
      have y3 : _ = some (Value.int .i64 _) := (cell_of_cells (k := 3) k1).trans rfl
      have g0 := free_of_cells (k := 0) k1
      have g1 := free_of_cells (k := 1) k1
      have g2 := free_of_cells (k := 2) k1
      have g3 := free_of_cells (k := 3) k1
      clear k1
      have k0 := HZB.out.1
      have z0 : _ = some (Value.int .i64 0) := (cell_of_cells (k := 0) k0).trans rfl
      have z1 : _ = some (Value.int .i64 0) := (cell_of_cells (k := 1) k0).trans rfl
      have z2 : _ = some (Value.int .i64 0) := (cell_of_cells (k := 2) k0).trans rfl
      have z3 : _ = some (Value.int .i64 0) := (cell_of_cells (k := 3) k0).trans rfl
      have f0 := free_of_cells (k := 0) k0
      have f1 := free_of_cells (k := 1) k0
      have f2 := free_of_cells (k := 2) k0
      have f3 := free_of_cells (k := 3) k0
      clear k0
      have hne1 : w.heap.size ≠ B5 := by have := HS.out.2.2; omega
      have hne2 : B5 ≠ w.heap.size := hne1.symm
      go_wp2_with fail
      have HS3 := HS.out.px (1000 - qy - qz - qu)
      obtain ⟨r0, r1, r2, r3⟩ := put4 HS3.1.1 (.int .i64 (1000 - qy - qz - qu)) (.int .i64 qy) (.int .i64 qz) (.int .i64 qu)
      refine bodyPost_ret (v := .tuple #[.agg #[.int .i64 (1000 - qy - qz - qu), .int .i64 qy, .int .i64 qz, .int .i64 qu], .bool true]) (by simp [results, Try.results31, go_sem, r0, r1, r2, r3]) rfl ⟨by rw [HRB.out, HRQ.out]; rfl, ?_⟩
      exact (((HS3.1.2.setCell (p := ⟨_, _, none⟩) (Nat.le_refl _) _).setCell (p := ⟨_, _, none⟩) (Nat.le_refl _) _).setCell (p := ⟨_, _, none⟩) (Nat.le_refl _) _).setCell (p := ⟨_, _, none⟩) (Nat.le_refl _) _

set_option maxRecDepth 100000 in
set_option maxHeartbeats 2000000 in
theorem implAvg (xs : List Qd) (v : Value) (w : World) (hv : Qds w v xs) :
    Calls Try.prog 33 #[v] w (QdOk (avgQ xs) (avgOk xs) w) := by
  have HA := Lib.hid (fun w h => implRecs xs v w h)
  have HV := Lib.hid hv
  have hlen := hv.len
  obtain ⟨A, c, rfl⟩ := hv.form2
  clear hv
  have HRY := Lib.hid (fun h => avg_yes (xs := xs) h)
  have HRN := Lib.hid (fun h => avg_no (xs := xs) h)
  have HRO := Lib.hid (show avgOk xs = (recsB xs && !decide (xs.length = 0)) from rfl)
  have HBD := Lib.hid (fun (h : recsB xs = true) => And.intro ((recsB_iff xs).1 h).2 (sYZU_bd ((recsB_iff xs).1 h).1))
  have HY1 := Lib.hid (fun n => (show sY xs (n + 1) = sY xs n + (atQ xs n).y from rfl))
  have HZ1 := Lib.hid (fun n => (show sZ xs (n + 1) = sZ xs n + (atQ xs n).z from rfl))
  have HU1 := Lib.hid (fun n => (show sU xs (n + 1) = sU xs n + (atQ xs n).u from rfl))
  have HY0 := Lib.hid (show sY xs 0 = 0 from rfl)
  have HZ0 := Lib.hid (show sZ xs 0 = 0 from rfl)
  have HU0 := Lib.hid (show sU xs 0 = 0 from rfl)
  generalize avgQ xs = rq at *
  generalize avgOk xs = rb at *
  generalize recsB xs = d at *
  generalize sY xs = SY at *
  generalize sZ xs = SZ at *
  generalize sU xs = SU at *
  have HZB := Lib.hid (Az.start w)
  go_enter Try.func33, Try.ntmps33
  by_cases h0 : xs.length = 0
  · have hni : (xs.length : Int) = 0 := by omega
    have HRB := Lib.hid (show rb = false from by rw [HRO.out, decide_eq_true h0]; simp)
    have HRQ := Lib.hid (HRN.out HRB.out)
    have k0 := HZB.out.1
    have z0 : _ = some (Value.int .i64 0) := (cell_of_cells (k := 0) k0).trans rfl
    have z1 : _ = some (Value.int .i64 0) := (cell_of_cells (k := 1) k0).trans rfl
    have z2 : _ = some (Value.int .i64 0) := (cell_of_cells (k := 2) k0).trans rfl
    have z3 : _ = some (Value.int .i64 0) := (cell_of_cells (k := 3) k0).trans rfl
    have f0 := free_of_cells (k := 0) k0
    have f1 := free_of_cells (k := 1) k0
    have f2 := free_of_cells (k := 2) k0
    have f3 := free_of_cells (k := 3) k0
    clear k0
    go_wp2_with fail
    refine bodyPost_ret (v := .tuple #[.agg #[.int .i64 0, .int .i64 0, .int .i64 0, .int .i64 0], .bool false]) (by simp [results, Try.results33, go_sem, z0, z1, z2, z3]) rfl ⟨by rw [HRB.out, HRQ.out]; rfl, HZB.out.2⟩
  have hni : ¬ (xs.length : Int) = 0 := by omega
  have HN0 := Lib.hid h0
  rw [decide_eq_false h0] at HRO
  clear h0
  go_wp2_with fail
  refine (HA.out _ (HV.out.step HZB.out.2)).mono ?_
  rintro e w1 ⟨rfl, hb⟩
  have HZB := Lib.hid (HZB.out.step hb); clear hb
  cases d
  · have HRB := Lib.hid (show rb = false from by rw [HRO.out]; rfl)
    have HRQ := Lib.hid (HRN.out HRB.out)
    have k0 := HZB.out.1
    have z0 : _ = some (Value.int .i64 0) := (cell_of_cells (k := 0) k0).trans rfl
    have z1 : _ = some (Value.int .i64 0) := (cell_of_cells (k := 1) k0).trans rfl
    have z2 : _ = some (Value.int .i64 0) := (cell_of_cells (k := 2) k0).trans rfl
    have z3 : _ = some (Value.int .i64 0) := (cell_of_cells (k := 3) k0).trans rfl
    have f0 := free_of_cells (k := 0) k0
    have f1 := free_of_cells (k := 1) k0
    have f2 := free_of_cells (k := 2) k0
    have f3 := free_of_cells (k := 3) k0
    clear k0
    go_wp2_with fail
    obtain ⟨r0, r1, r2, r3⟩ := put4 HZB.out.1 (.int .i64 0) (.int .i64 0) (.int .i64 0) (.int .i64 0)
    refine bodyPost_ret (v := .tuple #[.agg #[.int .i64 0, .int .i64 0, .int .i64 0, .int .i64 0], .bool false]) (by simp [results, Try.results33, go_sem, r0, r1, r2, r3]) rfl ⟨by rw [HRB.out, HRQ.out]; rfl, ?_⟩
    exact (((HZB.out.2.setCell (p := ⟨_, _, none⟩) (Nat.le_refl _) _).setCell (p := ⟨_, _, none⟩) (Nat.le_refl _) _).setCell (p := ⟨_, _, none⟩) (Nat.le_refl _) _).setCell (p := ⟨_, _, none⟩) (Nat.le_refl _) _
  have HRB := Lib.hid (show rb = true from by rw [HRO.out]; rfl)
  have HRQ := Lib.hid (HRY.out HRB.out)
  have HBD2 := Lib.hid (HBD.out rfl)
  clear HBD HRN HRY HRO
  have HS := Lib.hid (HZB.out.more ⟨0, 0, 0, 0⟩)
  go_wp2_with fail
  generalize w1.heap.size = B at *
  generalize w1.alloc (.cells #[.int .i64 0, .int .i64 0, .int .i64 0, .int .i64 0] 47) = W0 at *
  go_loopw [19] (fun i wr => ∃ k : Nat, k ≤ xs.length ∧ i = .int .i64 k ∧ Av w wr B ⟨0, SY k, SZ k, SU k⟩) (fun i _ => xs.length - (intOf i).toNat)
  case atStart => exact ⟨0, Nat.zero_le _, rfl, by rw [HY0.out, HZ0.out, HU0.out]; exact HS.out⟩
  case round =>
    clear HS
    obtain ⟨k, hk, rfl, hs⟩ := hrel
    have HS := Lib.hid hs; clear hs
    have hz2 : (0 : Int) ≤ k := by omega
    by_cases hlt : k < xs.length
    · obtain ⟨_, _, he, _, _, hcs⟩ := HV.out.form
      injection he with he1 he2 he3
      obtain ⟨b, o, hA, hbl, hd0, hd1, hd2, hd3⟩ := hcs k hlt
      rw [← he1] at hA
      subst hA
      have HD := Lib.hid (And.intro hd1 (And.intro hd2 hd3))
      have HD0 := Lib.hid hd0
      clear he1 he2 he3 hcs hd0 hd1 hd2 hd3
      have bk := HBD2.out.2 k (by omega)
      have bk1 := HBD2.out.2 (k + 1) hlt
      have h20 := HBD2.out.1
      rw [HY1.out k, HZ1.out k, HU1.out k] at bk1
      have hlt2 : (k : Int) < (xs.length : Int) := by omega
      have HYE := Lib.hid (HY1.out k)
      have HZE := Lib.hid (HZ1.out k)
      have HUE := Lib.hid (HU1.out k)
      generalize atQ xs k = t at *
      obtain ⟨tx, ty, tz, tu⟩ := t
      simp only at HD HD0 bk1 HYE HZE HUE
      generalize hsy : SY k = sy at *
      generalize hsz : SZ k = sz at *
      generalize hsu : SU k = su at *
      clear hsy hsz hsu
      have e1 : IntKind.i64.wrap (sy + ty) = sy + ty := IntWalk.i64_in _ (by omega)
      have e2 : IntKind.i64.wrap (sz + tz) = sz + tz := IntWalk.i64_in _ (by omega)
      have e3 : IntKind.i64.wrap (su + tu) = su + tu := IntWalk.i64_in _ (by omega)
      have qB := lt_of_block HS.out.2.1
      clear bk bk1
      have HB9 := Lib.hid (heap_alloc_new wr (.cells #[.int .i64 tx, .int .i64 ty, .int .i64 tz, .int .i64 tu] 47))
      have hne1 : B ≠ wr.heap.size := by omega
      have hne2 : wr.heap.size ≠ B := by omega
      have HS2 := Lib.hid (HS.out.step ((Below.refl _ _).alloc (Nat.le_refl _) (.cells #[.int .i64 tx, .int .i64 ty, .int .i64 tz, .int .i64 tu] 47)))
      obtain ⟨-, k1, -⟩ := HS.out
      simp only at k1
      have y0 : _ = some (Value.int .i64 _) := (cell_of_cells (k := 0) k1).trans rfl
      have y1 : _ = some (Value.int .i64 _) := (cell_of_cells (k := 1) k1).trans rfl
      have y2 : _ = some (Value.int .i64 _) := (cell_of_cells (k := 2) k1).trans rfl
      have y3 : _ = some (Value.int .i64 _) := (cell_of_cells (k := 3) k1).trans rfl
      have g0 := free_of_cells (k := 0) k1
      have g1 := free_of_cells (k := 1) k1
      have g2 := free_of_cells (k := 2) k1
      have g3 := free_of_cells (k := 3) k1
      clear k1
      have hc1 := (HS.out.1.2.cell (p := ⟨b, _, none⟩) hbl).trans HD.out.1
      have hc2 := (HS.out.1.2.cell (p := ⟨b, _, none⟩) hbl).trans HD.out.2.1
      have hc3 := (HS.out.1.2.cell (p := ⟨b, _, none⟩) hbl).trans HD.out.2.2
      have hc0 := (HS.out.1.2.cell (p := ⟨b, _, none⟩) hbl).trans HD0.out
      go_wp2_with fail
      exact ⟨⟨k + 1, by omega, by go_num, by rw [HYE.out, HZE.out, HUE.out]; exact (((HS.out.py (sy + ty)).pz (sz + tz)).pu (su + tu)).step ((Below.refl _ _).alloc (Nat.le_refl _) _)⟩, by simp [intOf]; omega⟩
    · obtain rfl : k = xs.length := by omega
      have hb3 := HBD2.out.2 xs.length (Nat.le_refl _)
      have hn1 : (1 : Int) ≤ xs.length := by omega
      obtain ⟨p1, p2, p3, p4⟩ := quo_bd hb3.1.1 (by omega) hn1
      obtain ⟨q1, q2, q3, q4⟩ := quo_bd hb3.2.1.1 (by omega) hn1
      obtain ⟨s1, s2, s3, s4⟩ := quo_bd hb3.2.2.1 (by omega) hn1
      clear hb3
      generalize SY xs.length / (xs.length : Int) = qy at *
      generalize SZ xs.length / (xs.length : Int) = qz at *
      generalize SU xs.length / (xs.length : Int) = qu at *
      generalize SY xs.length = sy at *
      generalize SZ xs.length = sz at *
      generalize SU xs.length = su at *
      have e1 : IntKind.i64.wrap (1000 - qy) = 1000 - qy := IntWalk.i64_in _ (by omega)
      have e2 : IntKind.i64.wrap (1000 - qy - qz) = 1000 - qy - qz := IntWalk.i64_in _ (by omega)
      have e3 : IntKind.i64.wrap (1000 - qy - qz - qu) = 1000 - qy - qz - qu := IntWalk.i64_in _ (by omega)
      obtain ⟨-, k1, -⟩ := HS.out
      simp only at k1
      have y0 : _ = some (Value.int .i64 _) := (cell_of_cells (k := 0) k1).trans rfl
      have y1 : _ = some (Value.int .i64 _) := (cell_of_cells (k := 1) k1).trans rfl
      have y2 : _ = some (Value.int .i64 _) := (cell_of_cells (k := 2) k1).trans rfl
      have y3 : _ = some (Value.int .i64 _) := (cell_of_cells (k := 3) k1).trans rfl
      have g0 := free_of_cells (k := 0) k1
      have g1 := free_of_cells (k := 1) k1
      have g2 := free_of_cells (k := 2) k1
      have g3 := free_of_cells (k := 3) k1
      clear k1
      have HZB := Lib.hid HS.out.1
      have k0 := HZB.out.1
      have z0 : _ = some (Value.int .i64 0) := (cell_of_cells (k := 0) k0).trans rfl
      have z1 : _ = some (Value.int .i64 0) := (cell_of_cells (k := 1) k0).trans rfl
      have z2 : _ = some (Value.int .i64 0) := (cell_of_cells (k := 2) k0).trans rfl
      have z3 : _ = some (Value.int .i64 0) := (cell_of_cells (k := 3) k0).trans rfl
      have f0 := free_of_cells (k := 0) k0
      have f1 := free_of_cells (k := 1) k0
      have f2 := free_of_cells (k := 2) k0
      have f3 := free_of_cells (k := 3) k0
      clear k0
      have hne1 : w.heap.size ≠ B := by have := HS.out.2.2; omega
      have hne2 : B ≠ w.heap.size := hne1.symm
      go_wp2_with fail
      have HS3 := (((HS.out.py qy).pz qz).pu qu).px (1000 - qy - qz - qu)
      obtain ⟨r0, r1, r2, r3⟩ := put4 HS3.1.1 (.int .i64 (1000 - qy - qz - qu)) (.int .i64 qy) (.int .i64 qz) (.int .i64 qu)
      refine bodyPost_ret (v := .tuple #[.agg #[.int .i64 (1000 - qy - qz - qu), .int .i64 qy, .int .i64 qz, .int .i64 qu], .bool true]) (by simp [results, Try.results33, go_sem, r0, r1, r2, r3]) rfl ⟨by rw [HRB.out, HRQ.out]; rfl, ?_⟩
      exact (((HS3.1.2.setCell (p := ⟨_, _, none⟩) (Nat.le_refl _) _).setCell (p := ⟨_, _, none⟩) (Nat.le_refl _) _).setCell (p := ⟨_, _, none⟩) (Nat.le_refl _) _).setCell (p := ⟨_, _, none⟩) (Nat.le_refl _) _
end Go.Proofs.Ytfppnaknnijobab
