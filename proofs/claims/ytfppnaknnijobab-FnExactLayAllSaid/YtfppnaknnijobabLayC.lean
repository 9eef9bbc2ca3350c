/-
  LayAll of the program: layers are a filter, and light behind one filter.
-/
import Derived.Test.YtfppnaknnijobabLayA
namespace Go.Proofs.Ytfppnaknnijobab
open Go.RowKit
set_option linter.unusedVariables false
set_option linter.unusedSimpArgs false

/-- The light in the first new block, the result's cells in the second. -/
def LS2 (w W : World) (l : Tr) : Prop := W.heap[w.heap.size]? = some (.cells #[.int .i64 l.x, .int .i64 l.y, .int .i64 l.z] 25) ∧ W.heap[w.heap.size + 1]? = some (.cells #[.int .i64 0, .int .i64 0, .int .i64 0] 25) ∧ Below w.heap.size w W
theorem LS2.start (w : World) (l : Tr) : LS2 w ((w.alloc (.cells #[.int .i64 l.x, .int .i64 l.y, .int .i64 l.z] 25)).alloc (.cells #[.int .i64 0, .int .i64 0, .int .i64 0] 25)) l := by
  have h1 := heap_alloc_new (w.alloc (.cells #[.int .i64 l.x, .int .i64 l.y, .int .i64 l.z] 25)) (.cells #[.int .i64 0, .int .i64 0, .int .i64 0] 25)
  rw [show (w.alloc (.cells #[.int .i64 l.x, .int .i64 l.y, .int .i64 l.z] 25)).heap.size = w.heap.size + 1 from by simp] at h1
  exact ⟨(Below.heap_alloc _ _ _ (by simp)).trans (heap_alloc_new w _), h1, below2 w _ _⟩
theorem LS2.step {w W W' : World} {l : Tr} (h : LS2 w W l) (hb : Below W.heap.size W W') : LS2 w W' l :=
  ⟨(hb.block _ (lt_of_block h.1)).trans h.1, (hb.block _ (lt_of_block h.2.1)).trans h.2.1, h.2.2.trans (hb.mono h.2.2.size)⟩
theorem LS2.put {w W : World} {l : Tr} (h : LS2 w W l) (x y z : Int) : LS2 w (((W.setCell ⟨w.heap.size, 0, none⟩ (.int .i64 x)).setCell ⟨w.heap.size, 1, none⟩ (.int .i64 y)).setCell ⟨w.heap.size, 2, none⟩ (.int .i64 z)) ⟨x, y, z⟩ := by
  have m0 := heap_setCell_self (k := 0) h.1 (.int .i64 x)
  have m1 := heap_setCell_self (k := 1) m0 (.int .i64 y)
  have m2 := heap_setCell_self (k := 2) m1 (.int .i64 z)
  refine ⟨m2, ?_, ((h.2.2.setCell (p := ⟨_, _, none⟩) (Nat.le_refl _) _).setCell (p := ⟨_, _, none⟩) (Nat.le_refl _) _).setCell (p := ⟨_, _, none⟩) (Nat.le_refl _) _⟩
  rw [Below.heap_setCell _ _ _ _ (by show w.heap.size + 1 ≠ w.heap.size; omega), Below.heap_setCell _ _ _ _ (by show w.heap.size + 1 ≠ w.heap.size; omega), Below.heap_setCell _ _ _ _ (by show w.heap.size + 1 ≠ w.heap.size; omega)]
  exact h.2.1

set_option maxRecDepth 100000 in
theorem implLayers (xs : List Tr) (v : Value) (w : World) (hv : Trs w v xs) (hok : ∀ j, j < xs.length → stainB (atT xs j) = true) :
    Calls Try.prog 163 #[v, (Tr.mk 1000 1000 1000).val] w (TriIs (layN xs xs.length) w) := by
  have HV := Lib.hid hv
  have hlen := hv.len
  obtain ⟨A, c, rfl⟩ := hv.form2
  clear hv
  have HAL := Lib.hid hok; clear hok
  have HOK := Lib.hid (fun n h1 h2 => layN_ok (xs := xs) n h1 h2)
  have HSU := Lib.hid (layN_succ xs)
  have HZ := Lib.hid (show layN xs 0 = ⟨1000, 1000, 1000⟩ from rfl)
  have HS := Lib.hid (LS2.start w ⟨1000, 1000, 1000⟩)
  generalize layN xs = L at *
  unfold Tr.val
  go_enter Try.func163, Try.ntmps163
  go_wp2_with fail
  generalize (w.alloc (.cells #[.int .i64 1000, .int .i64 1000, .int .i64 1000] 25)).alloc (.cells #[.int .i64 0, .int .i64 0, .int .i64 0] 25) = W0 at *
  go_loopw [9] (fun i wr => ∃ k : Nat, k ≤ xs.length ∧ i = .int .i64 k ∧ LS2 w wr (L k)) (fun i _ => xs.length - (intOf i).toNat)
  case atStart => exact ⟨0, Nat.zero_le _, rfl, by rw [HZ.out]; exact HS.out⟩
  case round =>
    clear HS
    obtain ⟨k, hk, rfl, hs⟩ := hrel
    have HS := Lib.hid hs; clear hs
    have HLO := Lib.hid (HOK.out k hk (fun j hj => HAL.out j (by omega)))
    have hz2 : (0 : Int) ≤ k := by omega
    by_cases hlt : k < xs.length
    · obtain ⟨_, _, he, _, _, hcs⟩ := (HV.out.step HS.out.2.2).form
      injection he with he1 he2 he3
      obtain ⟨b, o, hA, hbl, hc0, hc1, hc2⟩ := hcs k hlt
      rw [← he1] at hA
      subst hA
      clear he1 he2 he3 hcs
      have HLY := Lib.hid (fun W => (show Calls Try.prog 160 #[(atT xs k).val, (L k).val] W (TriIs (L (k + 1)) W) from by have := implThrough (atT xs k) (L k) W (HAL.out k hlt) HLO.out; rw [← HSU.out k] at this; exact this))
      obtain ⟨l1, l2, l3, hl⟩ : ∃ l1 l2 l3, L k = ⟨l1, l2, l3⟩ := ⟨_, _, _, rfl⟩
      obtain ⟨m1, m2, m3, hm⟩ : ∃ m1 m2 m3, L (k + 1) = ⟨m1, m2, m3⟩ := ⟨_, _, _, rfl⟩
      rw [hl, hm] at HLY
      rw [hl] at HS
      have HM := Lib.hid hm
      have hlt2 : (k : Int) < (xs.length : Int) := by omega
      clear HLO hl hm
      generalize atT xs k = t at *
      obtain ⟨a1, a2, a3⟩ := t
      unfold TriIs Tr.val at HLY
      simp only at HLY hc0 hc1 hc2
      obtain ⟨k1, k0, kb⟩ := HS.out
      simp only at k1
      have z0 : _ = some (Value.int .i64 0) := (cell_of_cells (k := 0) k0).trans rfl
      have z1 : _ = some (Value.int .i64 0) := (cell_of_cells (k := 1) k0).trans rfl
      have z2 : _ = some (Value.int .i64 0) := (cell_of_cells (k := 2) k0).trans rfl
      have f0 := free_of_cells (k := 0) k0
      have f1 := free_of_cells (k := 1) k0
      have f2 := free_of_cells (k := 2) k0
      have y0 : _ = some (Value.int .i64 _) := (cell_of_cells (k := 0) k1).trans rfl
      have y1 : _ = some (Value.int .i64 _) := (cell_of_cells (k := 1) k1).trans rfl
      have y2 : _ = some (Value.int .i64 _) := (cell_of_cells (k := 2) k1).trans rfl
      have g0 := free_of_cells (k := 0) k1
      have g1 := free_of_cells (k := 1) k1
      have g2 := free_of_cells (k := 2) k1
      clear k0 k1 kb
      have q1 := lt_of_block HS.out.1
      have q2 := lt_of_block HS.out.2.1
      have HS2 := Lib.hid (HS.out.step ((Below.refl _ _).alloc (Nat.le_refl _) (.cells #[.int .i64 a1, .int .i64 a2, .int .i64 a3] 25)))
      go_wp2_with fail
      refine (HLY.out _).mono ?_
      rintro e w1 ⟨rfl, hb⟩
      clear z0 z1 z2 f0 f1 f2 y0 y1 y2 g0 g1 g2
      clear q1 q2
      have HS := Lib.hid (HS2.out.step hb); clear hb HS2
      obtain ⟨k1, k0, kb⟩ := HS.out
      simp only at k1
      have z0 : _ = some (Value.int .i64 0) := (cell_of_cells (k := 0) k0).trans rfl
      have z1 : _ = some (Value.int .i64 0) := (cell_of_cells (k := 1) k0).trans rfl
      have z2 : _ = some (Value.int .i64 0) := (cell_of_cells (k := 2) k0).trans rfl
      have f0 := free_of_cells (k := 0) k0
      have f1 := free_of_cells (k := 1) k0
      have f2 := free_of_cells (k := 2) k0
      have y0 : _ = some (Value.int .i64 _) := (cell_of_cells (k := 0) k1).trans rfl
      have y1 : _ = some (Value.int .i64 _) := (cell_of_cells (k := 1) k1).trans rfl
      have y2 : _ = some (Value.int .i64 _) := (cell_of_cells (k := 2) k1).trans rfl
      have g0 := free_of_cells (k := 0) k1
      have g1 := free_of_cells (k := 1) k1
      have g2 := free_of_cells (k := 2) k1
      clear k0 k1 kb
      go_wp2_with fail
      exact ⟨⟨k + 1, by omega, by go_num, by rw [HM.out]; exact HS.out.put m1 m2 m3⟩, by simp [intOf]; omega⟩
    · obtain rfl : k = xs.length := by omega
      obtain ⟨m1, m2, m3, hm⟩ : ∃ m1 m2 m3, L xs.length = ⟨m1, m2, m3⟩ := ⟨_, _, _, rfl⟩
      rw [hm] at HS
      have HM := Lib.hid hm
      clear HLO hm
      obtain ⟨k1, k0, kb⟩ := HS.out
      simp only at k1
      have z0 : _ = some (Value.int .i64 0) := (cell_of_cells (k := 0) k0).trans rfl
      have z1 : _ = some (Value.int .i64 0) := (cell_of_cells (k := 1) k0).trans rfl
      have z2 : _ = some (Value.int .i64 0) := (cell_of_cells (k := 2) k0).trans rfl
      have f0 := free_of_cells (k := 0) k0
      have f1 := free_of_cells (k := 1) k0
      have f2 := free_of_cells (k := 2) k0
      have y0 : _ = some (Value.int .i64 _) := (cell_of_cells (k := 0) k1).trans rfl
      have y1 : _ = some (Value.int .i64 _) := (cell_of_cells (k := 1) k1).trans rfl
      have y2 : _ = some (Value.int .i64 _) := (cell_of_cells (k := 2) k1).trans rfl
      have g0 := free_of_cells (k := 0) k1
      have g1 := free_of_cells (k := 1) k1
      have g2 := free_of_cells (k := 2) k1
      clear k0 k1 kb
      go_wp2_with fail
      clear z0 z1 z2 f0 f1 f2 y0 y1 y2 g0 g1 g2
      obtain ⟨k1, k0, kb⟩ := HS.out
      obtain ⟨r0, r1, r2⟩ := put3 k0 (.int .i64 m1) (.int .i64 m2) (.int .i64 m3)
      refine bodyPost_ret (v := .agg #[.int .i64 m1, .int .i64 m2, .int .i64 m3]) (by simp [results, Try.results163, go_sem, r0, r1, r2]) rfl ⟨by rw [HM.out]; rfl, ?_⟩
      exact ((kb.setCell (p := ⟨_, _, none⟩) (by show w.heap.size ≤ w.heap.size + 1; omega) _).setCell (p := ⟨_, _, none⟩) (by show w.heap.size ≤ w.heap.size + 1; omega) _).setCell (p := ⟨_, _, none⟩) (by show w.heap.size ≤ w.heap.size + 1; omega) _

theorem implLayIsOk (xs : List Tr) (v : Value) (w : World) (hv : Trs w v xs) :
    Calls Try.prog 162 #[v] w (BoolIs (layAB xs) w) := by
  have HV := Lib.hid hv
  have HA := Lib.hid (fun w h => implStains xs v w h)
  have HR := Lib.hid (show layAB xs = (decide (xs.length ≤ 20) && stsB xs) from rfl)
  have hlen := hv.len
  obtain ⟨A, c, rfl⟩ := hv.form2
  clear hv
  have H0 := Lib.hid (Held.none_ w)
  generalize layAB xs = r at *
  generalize stsB xs = d at *
  by_cases h20 : xs.length ≤ 20
  · have h20i : (xs.length : Int) ≤ 20 := by omega
    rw [decide_eq_true h20, Bool.true_and] at HR
    go_enter Try.func162, Try.ntmps162
    go_wp2_with fail
    refine (HA.out _ HV.out).mono ?_
    rintro e wH1 ⟨rfl, hb⟩
    have H1 := Lib.hid ((H0.out).step hb); clear hb
    go_wp2_with fail
    go_ret
    exact ⟨ret_bool (by rw [HR.out]), H1.out.below⟩
  · have h20i : ¬ (xs.length : Int) ≤ 20 := by omega
    rw [decide_eq_false h20, Bool.false_and] at HR
    go_enter Try.func162, Try.ntmps162
    go_wp2_with fail
    go_ret
    exact ⟨ret_bool (by rw [HR.out]), H0.out.below⟩

theorem metLOk (k : Nat) (v : Value) (w : World) : Sem.run Try.prog (method (k + 1) 105 v "loop.example/g03303/impl.isOk") w = .ok (162, v) w := by kernel_rfl
theorem metLThrough (k : Nat) (v : Value) (w : World) : Sem.run Try.prog (method (k + 1) 105 v "loop.example/g03303/impl.through") w = .ok (163, v) w := by kernel_rfl
theorem entLOk (args : Array Value) (w : World) : Sem.run Try.prog (callFunc 162 args) w = .ok (.enter 162 args) w := by kernel_rfl
theorem entLThrough (args : Array Value) (w : World) : Sem.run Try.prog (callFunc 163 args) w = .ok (.enter 163 args) w := by kernel_rfl

set_option maxRecDepth 100000 in
theorem implBehind1 (xs : List Tr) (v : Value) (bs : Nat) (w : World) (hb : bs < w.heap.size) (h0 : w.cell? ⟨bs, 0, none⟩ = some (.iface 105 v)) (hv : Trs w v xs) :
    Calls Try.prog 70 #[.slice (some ⟨bs, 0, none⟩) 1 1] w (TriIs (layAT xs) w) := by
  have HV := Lib.hid hv; clear hv
  have HA := Lib.hid (fun w h => implLayIsOk xs v w h)
  have HI0 := Lib.hid h0; clear h0
  have hne1 : bs ≠ w.heap.size := by omega
  have hne2 : bs ≠ w.heap.size + 1 := by omega
  have HS := Lib.hid (LSt.start w ⟨1000, 1000, 1000⟩)
  have HT := Lib.hid (fun (h : layAB xs = true) w hv => (show Calls Try.prog 163 #[v, (Tr.mk 1000 1000 1000).val] w (TriIs (layAT xs) w) from by
    have e : layAT xs = layN xs xs.length := if_pos h
    rw [e]
    unfold layAB at h
    simp only [Bool.and_eq_true] at h
    exact implLayers xs v w hv (fun j hj => by have := List.all_eq_true.1 h.2 (atT xs j) (by rw [← atT_get hj]; exact List.getElem_mem hj); exact this)))
  have HNO := Lib.hid (fun h => layAT_no (xs := xs) h)
  generalize layAB xs = b1 at *
  generalize layAT xs = m at *
  obtain ⟨m1, m2, m3⟩ := m
  unfold TriIs Tr.val at *
  simp only at HT HNO ⊢
  go_enter Try.func70, Try.ntmps70
  go_wp2_with fail
  generalize (w.alloc (.cells #[.int .i64 0, .int .i64 0, .int .i64 0] 25)).alloc (.cells #[.int .i64 1000, .int .i64 1000, .int .i64 1000] 25) = W0 at *
  refine wp_loop_rounds 2 ?_
  rw [rounds_succ]
  obtain ⟨k0, k1, kb⟩ := HS.out
  simp only at k1
  have i0 := (kb.cell (p := ⟨bs, 0, none⟩) hb).trans HI0.out
  have z0 : _ = some (Value.int .i64 0) := (cell_of_cells (k := 0) k0).trans rfl
  have z1 : _ = some (Value.int .i64 0) := (cell_of_cells (k := 1) k0).trans rfl
  have z2 : _ = some (Value.int .i64 0) := (cell_of_cells (k := 2) k0).trans rfl
  have f0 := free_of_cells (k := 0) k0
  have f1 := free_of_cells (k := 1) k0
  have f2 := free_of_cells (k := 2) k0
  have y0 : _ = some (Value.int .i64 _) := (cell_of_cells (k := 0) k1).trans rfl
  have y1 : _ = some (Value.int .i64 _) := (cell_of_cells (k := 1) k1).trans rfl
  have y2 : _ = some (Value.int .i64 _) := (cell_of_cells (k := 2) k1).trans rfl
  have g0 := free_of_cells (k := 0) k1
  have g1 := free_of_cells (k := 1) k1
  have g2 := free_of_cells (k := 2) k1
  clear k0 k1 kb
  go_wp2_with fail
  simp only [metLOk, metLThrough, entLOk, entLThrough, Result.andThen_ok]
  go_wp2_with fail
  refine (HA.out _ (HV.out.step HS.out.2.2)).mono ?_
  rintro e w1 ⟨rfl, hb1⟩
  clear i0 z0 z1 z2 f0 f1 f2 y0 y1 y2 g0 g1 g2
  have HS := Lib.hid (HS.out.step hb1); clear hb1
  obtain ⟨k0, k1, kb⟩ := HS.out
  simp only at k1
  have i0 := (kb.cell (p := ⟨bs, 0, none⟩) hb).trans HI0.out
  have z0 : _ = some (Value.int .i64 0) := (cell_of_cells (k := 0) k0).trans rfl
  have z1 : _ = some (Value.int .i64 0) := (cell_of_cells (k := 1) k0).trans rfl
  have z2 : _ = some (Value.int .i64 0) := (cell_of_cells (k := 2) k0).trans rfl
  have f0 := free_of_cells (k := 0) k0
  have f1 := free_of_cells (k := 1) k0
  have f2 := free_of_cells (k := 2) k0
  have y0 : _ = some (Value.int .i64 _) := (cell_of_cells (k := 0) k1).trans rfl
  have y1 : _ = some (Value.int .i64 _) := (cell_of_cells (k := 1) k1).trans rfl
  have y2 : _ = some (Value.int .i64 _) := (cell_of_cells (k := 2) k1).trans rfl
  have g0 := free_of_cells (k := 0) k1
  have g1 := free_of_cells (k := 1) k1
  have g2 := free_of_cells (k := 2) k1
  clear k0 k1 kb
  cases b1
  · have hz := HNO.out (by rfl)
    simp only [Tr.mk.injEq] at hz
    obtain ⟨rfl, rfl, rfl⟩ := hz
    go_wp2_with fail
    clear i0 z0 z1 z2 f0 f1 f2 y0 y1 y2 g0 g1 g2
    obtain ⟨k0, k1, kb⟩ := HS.out
    obtain ⟨r0, r1, r2⟩ := put3 k0 (.int .i64 0) (.int .i64 0) (.int .i64 0)
    refine bodyPost_ret (v := .agg #[.int .i64 0, .int .i64 0, .int .i64 0]) (by simp [results, Try.results70, go_sem, r0, r1, r2]) rfl ⟨rfl, ?_⟩
    exact ((kb.setCell (p := ⟨_, _, none⟩) (Nat.le_refl _) _).setCell (p := ⟨_, _, none⟩) (Nat.le_refl _) _).setCell (p := ⟨_, _, none⟩) (Nat.le_refl _) _
  go_wp2_with fail
  simp only [metLOk, metLThrough, entLOk, entLThrough, Result.andThen_ok]
  go_wp2_with fail
  refine (HT.out (by trivial) _ (HV.out.step HS.out.2.2)).mono ?_
  rintro e w2 ⟨rfl, hb1⟩
  clear i0 z0 z1 z2 f0 f1 f2 y0 y1 y2 g0 g1 g2
  have HS := Lib.hid (HS.out.step hb1); clear hb1
  obtain ⟨k0, k1, kb⟩ := HS.out
  simp only at k1
  have i0 := (kb.cell (p := ⟨bs, 0, none⟩) hb).trans HI0.out
  have z0 : _ = some (Value.int .i64 0) := (cell_of_cells (k := 0) k0).trans rfl
  have z1 : _ = some (Value.int .i64 0) := (cell_of_cells (k := 1) k0).trans rfl
  have z2 : _ = some (Value.int .i64 0) := (cell_of_cells (k := 2) k0).trans rfl
  have f0 := free_of_cells (k := 0) k0
  have f1 := free_of_cells (k := 1) k0
  have f2 := free_of_cells (k := 2) k0
  have y0 : _ = some (Value.int .i64 _) := (cell_of_cells (k := 0) k1).trans rfl
  have y1 : _ = some (Value.int .i64 _) := (cell_of_cells (k := 1) k1).trans rfl
  have y2 : _ = some (Value.int .i64 _) := (cell_of_cells (k := 2) k1).trans rfl
  have g0 := free_of_cells (k := 0) k1
  have g1 := free_of_cells (k := 1) k1
  have g2 := free_of_cells (k := 2) k1
  clear k0 k1 kb
  go_wp2_with fail
  rw [rounds_succ]
  clear i0 z0 z1 z2 f0 f1 f2 y0 y1 y2 g0 g1 g2
  have HS := Lib.hid (HS.out.put m1 m2 m3)
  generalize ((w2.setCell ⟨w.heap.size + 1, 0, none⟩ (.int .i64 m1)).setCell ⟨w.heap.size + 1, 1, none⟩ (.int .i64 m2)).setCell ⟨w.heap.size + 1, 2, none⟩ (.int .i64 m3) = w3 at *
  obtain ⟨k0, k1, kb⟩ := HS.out
  simp only at k1
  have i0 := (kb.cell (p := ⟨bs, 0, none⟩) hb).trans HI0.out
  have z0 : _ = some (Value.int .i64 0) := (cell_of_cells (k := 0) k0).trans rfl
  have z1 : _ = some (Value.int .i64 0) := (cell_of_cells (k := 1) k0).trans rfl
  have z2 : _ = some (Value.int .i64 0) := (cell_of_cells (k := 2) k0).trans rfl
  have f0 := free_of_cells (k := 0) k0
  have f1 := free_of_cells (k := 1) k0
  have f2 := free_of_cells (k := 2) k0
  have y0 : _ = some (Value.int .i64 _) := (cell_of_cells (k := 0) k1).trans rfl
  have y1 : _ = some (Value.int .i64 _) := (cell_of_cells (k := 1) k1).trans rfl
  have y2 : _ = some (Value.int .i64 _) := (cell_of_cells (k := 2) k1).trans rfl
  have g0 := free_of_cells (k := 0) k1
  have g1 := free_of_cells (k := 1) k1
  have g2 := free_of_cells (k := 2) k1
  clear k0 k1 kb
  go_wp2_with fail
  clear i0 z0 z1 z2 f0 f1 f2 y0 y1 y2 g0 g1 g2
  obtain ⟨k0, k1, kb⟩ := HS.out
  obtain ⟨r0, r1, r2⟩ := put3 k0 (.int .i64 m1) (.int .i64 m2) (.int .i64 m3)
  refine bodyPost_ret (v := .agg #[.int .i64 m1, .int .i64 m2, .int .i64 m3]) (by simp [results, Try.results70, go_sem, r0, r1, r2]) rfl ⟨rfl, ?_⟩
  exact ((kb.setCell (p := ⟨_, _, none⟩) (Nat.le_refl _) _).setCell (p := ⟨_, _, none⟩) (Nat.le_refl _) _).setCell (p := ⟨_, _, none⟩) (Nat.le_refl _) _

set_option maxRecDepth 100000 in
theorem implLayAll (xs : List Tr) (v : Value) (w : World) (hv : Trs w v xs) :
    Calls Try.prog 18 #[v] w (TriIs (layAT xs) w) := by
  have HV := Lib.hid hv; clear hv
  have HB := Lib.hid (fun bs W h h0 hv => implBehind1 xs v bs W h h0 hv)
  generalize layAT xs = m at *
  obtain ⟨m1, m2, m3⟩ := m
  unfold TriIs Tr.val at *
  simp only at HB ⊢
  obtain ⟨A, c, rfl⟩ := HV.out.form2
  go_enter Try.func18, Try.ntmps18
  go_wp2_with fail
  have hk2 : ∀ o0 o1 : Obj, ((w.alloc o0).alloc o1).heap[w.heap.size + 1]? = some o1 := fun o0 o1 => by
    have h1 := heap_alloc_new (w.alloc o0) o1
    rw [show (w.alloc o0).heap.size = w.heap.size + 1 from by simp] at h1
    exact h1
  have hk1 : ∀ o0 o1 : Obj, ((w.alloc o0).alloc o1).heap[w.heap.size]? = some o0 := fun o0 o1 => (Below.heap_alloc _ _ _ (by simp)).trans (heap_alloc_new w _)
  refine (HB.out (w.heap.size + 1) _ (by simp) ((cell_of_cells (k := 0) (hk2 _ _)).trans rfl) (HV.out.step (below2 w _ _))).mono ?_
  rintro e w1 ⟨rfl, hb⟩
  have K9 := (hb.block w.heap.size (by simp; omega)).trans (hk1 _ _)
  have HBL := Lib.hid ((below2 w _ _).trans (hb.mono (by simp; omega))); clear hb hk1 hk2
  have z0 : _ = some (Value.int .i64 0) := (cell_of_cells (k := 0) K9).trans rfl
  have z1 : _ = some (Value.int .i64 0) := (cell_of_cells (k := 1) K9).trans rfl
  have z2 : _ = some (Value.int .i64 0) := (cell_of_cells (k := 2) K9).trans rfl
  have f0 := free_of_cells (k := 0) K9
  have f1 := free_of_cells (k := 1) K9
  have f2 := free_of_cells (k := 2) K9
  obtain ⟨r0, r1, r2⟩ := put3 K9 (.int .i64 m1) (.int .i64 m2) (.int .i64 m3)
  have R0 := Lib.hid r0; clear r0
  have R1 := Lib.hid r1; clear r1
  have R2 := Lib.hid r2; clear r2
  clear K9
  go_wp2_with fail
  refine bodyPost_ret (v := .agg #[.int .i64 m1, .int .i64 m2, .int .i64 m3]) (by simp [results, Try.results18, go_sem, R0.out, R1.out, R2.out]) rfl ⟨rfl, ?_⟩
  exact ((HBL.out.setCell (p := ⟨_, _, none⟩) (Nat.le_refl _) _).setCell (p := ⟨_, _, none⟩) (Nat.le_refl _) _).setCell (p := ⟨_, _, none⟩) (Nat.le_refl _) _
end Go.Proofs.Ytfppnaknnijobab
