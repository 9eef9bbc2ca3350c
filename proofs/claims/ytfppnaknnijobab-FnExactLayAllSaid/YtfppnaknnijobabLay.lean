/-
  LayStains, of the model and of the program.
-/
import Derived.Test.YtfppnaknnijobabMix
namespace Go.Proofs.Ytfppnaknnijobab
open Go.RowKit
set_option linter.unusedVariables false
set_option linter.unusedSimpArgs false

def lay1 (a b : Int) : Int := a * b / 1000
def layT (s t : Tr) : Tr := if (stainB s && stainB t) = true then ⟨lay1 s.x t.x, lay1 s.y t.y, lay1 s.z t.z⟩ else ⟨0, 0, 0⟩
theorem lay_ok {s t : Tr} (h1 : stainB s = true) (h2 : stainB t = true) : layT s t = ⟨lay1 s.x t.x, lay1 s.y t.y, lay1 s.z t.z⟩ := if_pos (by rw [h1, h2]; rfl)
theorem lay_no {s t : Tr} (h : (stainB s && stainB t) = false) : layT s t = ⟨0, 0, 0⟩ := if_neg (by rw [h]; simp)
theorem lay_part {a b : Int} (h1 : 0 ≤ a ∧ a ≤ 1000) (h2 : 0 ≤ b ∧ b ≤ 1000) : IntKind.i64.wrap (a * b) = a * b ∧ 0 ≤ a * b ∧ IntKind.i64.wrap (lay1 a b) = lay1 a b ∧ a * b / 1000 = lay1 a b ∧ Int.tdiv (a * b) 1000 = lay1 a b := by
  have x := Int.mul_nonneg h1.1 h2.1
  have y := Int.mul_le_mul h1.2 h2.2 h2.1 (by omega : (0 : Int) ≤ 1000)
  have u : 0 ≤ lay1 a b ∧ lay1 a b ≤ 1000 := by unfold lay1; omega
  exact ⟨IntWalk.i64_in _ (by omega), x, IntWalk.i64_in _ (by omega), rfl, Int.tdiv_eq_ediv_of_nonneg x⟩
theorem lay_bd {a b : Int} (h1 : 0 ≤ a ∧ a ≤ 1000) (h2 : 0 ≤ b ∧ b ≤ 1000) : 0 ≤ lay1 a b ∧ lay1 a b ≤ 1000 := by
  have x := Int.mul_nonneg h1.1 h2.1
  have y := Int.mul_le_mul h1.2 h2.2 h2.1 (by omega : (0 : Int) ≤ 1000)
  unfold lay1; omega

set_option maxRecDepth 100000 in
theorem specLay (s t : Tr) (w : World) :
    Calls Try.prog 68 #[s.val, t.val] w (TriIs (layT s t) w) := by
  have HA := Lib.hid (fun w => specStainOk s w)
  have HB := Lib.hid (fun w => specStainOk t w)
  have HOK := Lib.hid (fun h1 h2 => lay_ok (s := s) (t := t) h1 h2)
  have HNO := Lib.hid (fun h => lay_no (s := s) (t := t) h)
  have HP1 := Lib.hid (fun (h1 : stainB s = true) (h2 : stainB t = true) => lay_part (stain_bd h1).1 (stain_bd h2).1)
  have HP2 := Lib.hid (fun (h1 : stainB s = true) (h2 : stainB t = true) => lay_part (stain_bd h1).2.1 (stain_bd h2).2.1)
  have HP3 := Lib.hid (fun (h1 : stainB s = true) (h2 : stainB t = true) => lay_part (stain_bd h1).2.2 (stain_bd h2).2.2)
  generalize stainB s = b1 at *
  generalize stainB t = b2 at *
  generalize layT s t = m at *
  obtain ⟨a1, a2, a3⟩ := s
  obtain ⟨c1, c2, c3⟩ := t
  unfold TriIs Tr.val at *
  simp only at HOK HP1 HP2 HP3 HA HB ⊢
  generalize lay1 a1 c1 = m1 at *
  generalize lay1 a2 c2 = m2 at *
  generalize lay1 a3 c3 = m3 at *
  have HW := Lib.hid (below3 w (.cells #[.int .i64 a1, .int .i64 a2, .int .i64 a3] 25) (.cells #[.int .i64 c1, .int .i64 c2, .int .i64 c3] 25) (.cells #[.int .i64 0, .int .i64 0, .int .i64 0] 25))
  have HB3 := Lib.hid (blk3m w (.cells #[.int .i64 a1, .int .i64 a2, .int .i64 a3] 25) (.cells #[.int .i64 c1, .int .i64 c2, .int .i64 c3] 25) (.cells #[.int .i64 0, .int .i64 0, .int .i64 0] 25))
  have hh := (heldT2 w ⟨a1, a2, a3⟩ ⟨c1, c2, c3⟩ 25 25).alloc (.cells #[.int .i64 0, .int .i64 0, .int .i64 0] 25)
  simp only at hh
  have H0 := Lib.hid (Held.start hh.1 hh.2.1)
  have hsz : (((w.alloc (.cells #[.int .i64 a1, .int .i64 a2, .int .i64 a3] 25)).alloc (.cells #[.int .i64 c1, .int .i64 c2, .int .i64 c3] 25)).alloc (.cells #[.int .i64 0, .int .i64 0, .int .i64 0] 25)).heap.size = w.heap.size + 1 + 1 + 1 := by simp
  have HSZ := Lib.hid hsz
  clear hh hsz
  go_enter Try.func68, Try.ntmps68
  go_wp2_with fail
  generalize ((w.alloc (.cells #[.int .i64 a1, .int .i64 a2, .int .i64 a3] 25)).alloc (.cells #[.int .i64 c1, .int .i64 c2, .int .i64 c3] 25)).alloc (.cells #[.int .i64 0, .int .i64 0, .int .i64 0] 25) = W0 at *
  cases b1
  · obtain rfl := HNO.out (by rfl)
    refine (HA.out _).mono ?_
    rintro e w1 ⟨rfl, hb⟩
    have H9 := Lib.hid (H0.out.step hb); clear hb
    obtain ⟨x0, x1, x2, x3, x4, x5, _⟩ := H9.out.1
    have K9 := (H9.out.below.block (w.heap.size + 1 + 1) (by rw [HSZ.out]; omega)).trans HB3.out
    have z0 : _ = some (Value.int .i64 0) := (cell_of_cells (k := 0) K9).trans rfl
    have z1 : _ = some (Value.int .i64 0) := (cell_of_cells (k := 1) K9).trans rfl
    have z2 : _ = some (Value.int .i64 0) := (cell_of_cells (k := 2) K9).trans rfl
    have f0 := free_of_cells (k := 0) K9
    have f1 := free_of_cells (k := 1) K9
    have f2 := free_of_cells (k := 2) K9
    have K9h := Lib.hid K9; clear K9
    go_wp2_with fail
    obtain ⟨r0, r1, r2⟩ := put3 K9h.out (.int .i64 0) (.int .i64 0) (.int .i64 0)
    refine bodyPost_ret (v := .agg #[.int .i64 0, .int .i64 0, .int .i64 0]) (by simp [results, Try.results68, go_sem, r0, r1, r2]) rfl ⟨rfl, ?_⟩
    exact (((HW.out.trans (H9.out.below.mono (by rw [HSZ.out]; omega))).setCell (p := ⟨_, _, none⟩) (by show w.heap.size ≤ w.heap.size + 1 + 1; omega) _).setCell (p := ⟨_, _, none⟩) (by show w.heap.size ≤ w.heap.size + 1 + 1; omega) _).setCell (p := ⟨_, _, none⟩) (by show w.heap.size ≤ w.heap.size + 1 + 1; omega) _
  obtain ⟨x0, x1, x2, x3, x4, x5, _⟩ := H0.out.1
  go_wp2_with fail
  refine (HA.out _).mono ?_
  rintro e w1 ⟨rfl, hb⟩
  have H1 := Lib.hid (H0.out.step hb); clear hb x0 x1 x2 x3 x4 x5
  obtain ⟨x0, x1, x2, x3, x4, x5, _⟩ := H1.out.1
  go_wp2_with fail
  cases b2
  · obtain rfl := HNO.out (by rfl)
    refine (HB.out _).mono ?_
    rintro e w2 ⟨rfl, hb⟩
    have H9 := Lib.hid (H1.out.step hb); clear hb x0 x1 x2 x3 x4 x5
    obtain ⟨x0, x1, x2, x3, x4, x5, _⟩ := H9.out.1
    have K9 := (H9.out.below.block (w.heap.size + 1 + 1) (by rw [HSZ.out]; omega)).trans HB3.out
    have z0 : _ = some (Value.int .i64 0) := (cell_of_cells (k := 0) K9).trans rfl
    have z1 : _ = some (Value.int .i64 0) := (cell_of_cells (k := 1) K9).trans rfl
    have z2 : _ = some (Value.int .i64 0) := (cell_of_cells (k := 2) K9).trans rfl
    have f0 := free_of_cells (k := 0) K9
    have f1 := free_of_cells (k := 1) K9
    have f2 := free_of_cells (k := 2) K9
    have K9h := Lib.hid K9; clear K9
    go_wp2_with fail
    obtain ⟨r0, r1, r2⟩ := put3 K9h.out (.int .i64 0) (.int .i64 0) (.int .i64 0)
    refine bodyPost_ret (v := .agg #[.int .i64 0, .int .i64 0, .int .i64 0]) (by simp [results, Try.results68, go_sem, r0, r1, r2]) rfl ⟨rfl, ?_⟩
    exact (((HW.out.trans (H9.out.below.mono (by rw [HSZ.out]; omega))).setCell (p := ⟨_, _, none⟩) (by show w.heap.size ≤ w.heap.size + 1 + 1; omega) _).setCell (p := ⟨_, _, none⟩) (by show w.heap.size ≤ w.heap.size + 1 + 1; omega) _).setCell (p := ⟨_, _, none⟩) (by show w.heap.size ≤ w.heap.size + 1 + 1; omega) _
  refine (HB.out _).mono ?_
  rintro e w2 ⟨rfl, hb⟩
  have H9 := Lib.hid (H1.out.step hb); clear hb x0 x1 x2 x3 x4 x5
  obtain rfl := HOK.out (by trivial) (by trivial)
  obtain ⟨p1, p2, p3, p4, p5⟩ := HP1.out (by trivial) (by trivial)
  obtain ⟨q1, q2, q3, q4, q5⟩ := HP2.out (by trivial) (by trivial)
  obtain ⟨r1, r2, r3, r4, r5⟩ := HP3.out (by trivial) (by trivial)
  obtain ⟨x0, x1, x2, x3, x4, x5, _⟩ := H9.out.1
  have K9 := (H9.out.below.block (w.heap.size + 1 + 1) (by rw [HSZ.out]; omega)).trans HB3.out
  have z0 : _ = some (Value.int .i64 0) := (cell_of_cells (k := 0) K9).trans rfl
  have z1 : _ = some (Value.int .i64 0) := (cell_of_cells (k := 1) K9).trans rfl
  have z2 : _ = some (Value.int .i64 0) := (cell_of_cells (k := 2) K9).trans rfl
  have f0 := free_of_cells (k := 0) K9
  have f1 := free_of_cells (k := 1) K9
  have f2 := free_of_cells (k := 2) K9
  have K9h := Lib.hid K9; clear K9
  go_wp2_with fail
  obtain ⟨r0, r1, r2⟩ := put3 K9h.out (.int .i64 m1) (.int .i64 m2) (.int .i64 m3)
  refine bodyPost_ret (v := .agg #[.int .i64 m1, .int .i64 m2, .int .i64 m3]) (by simp [results, Try.results68, go_sem, r0, r1, r2]) rfl ⟨rfl, ?_⟩
  exact (((HW.out.trans (H9.out.below.mono (by rw [HSZ.out]; omega))).setCell (p := ⟨_, _, none⟩) (by show w.heap.size ≤ w.heap.size + 1 + 1; omega) _).setCell (p := ⟨_, _, none⟩) (by show w.heap.size ≤ w.heap.size + 1 + 1; omega) _).setCell (p := ⟨_, _, none⟩) (by show w.heap.size ≤ w.heap.size + 1 + 1; omega) _

/-- The light l behind the stain f. -/
theorem implThrough (f l : Tr) (w : World) (hf : stainB f = true) (hl : stainB l = true) :
    Calls Try.prog 160 #[f.val, l.val] w (TriIs ⟨lay1 l.x f.x, lay1 l.y f.y, lay1 l.z f.z⟩ w) := by
  obtain ⟨p1, p2, p3, p4, p5⟩ := lay_part (stain_bd hl).1 (stain_bd hf).1
  obtain ⟨q1, q2, q3, q4, q5⟩ := lay_part (stain_bd hl).2.1 (stain_bd hf).2.1
  obtain ⟨r1, r2, r3, r4, r5⟩ := lay_part (stain_bd hl).2.2 (stain_bd hf).2.2
  clear hf hl
  obtain ⟨a1, a2, a3⟩ := f
  obtain ⟨c1, c2, c3⟩ := l
  unfold TriIs Tr.val
  simp only at p1 p2 p3 p4 p5 q1 q2 q3 q4 q5 r1 r2 r3 r4 r5 ⊢
  generalize lay1 c1 a1 = m1 at *
  generalize lay1 c2 a2 = m2 at *
  generalize lay1 c3 a3 = m3 at *
  go_enter Try.func160, Try.ntmps160
  go_wp2_with fail
  refine bodyPost_ret (v := .agg #[.int .i64 m1, .int .i64 m2, .int .i64 m3]) (by simp [results, Try.results160, go_sem]) rfl ⟨rfl, below3 w _ _ _⟩

theorem metOk (k : Nat) (v : Value) (w : World) : Sem.run Try.prog (method (k + 1) 25 v "loop.example/g03303/impl.isOk") w = .ok (159, v) w := by kernel_rfl
theorem metThrough (k : Nat) (v : Value) (w : World) : Sem.run Try.prog (method (k + 1) 25 v "loop.example/g03303/impl.through") w = .ok (160, v) w := by kernel_rfl

theorem entOk (args : Array Value) (w : World) : Sem.run Try.prog (callFunc 159 args) w = .ok (.enter 159 args) w := by kernel_rfl
theorem entThrough (args : Array Value) (w : World) : Sem.run Try.prog (callFunc 160 args) w = .ok (.enter 160 args) w := by kernel_rfl

def LSt (w W : World) (l : Tr) : Prop := W.heap[w.heap.size]? = some (.cells #[.int .i64 0, .int .i64 0, .int .i64 0] 25) ∧ W.heap[w.heap.size + 1]? = some (.cells #[.int .i64 l.x, .int .i64 l.y, .int .i64 l.z] 25) ∧ Below w.heap.size w W
theorem LSt.start (w : World) (l : Tr) : LSt w ((w.alloc (.cells #[.int .i64 0, .int .i64 0, .int .i64 0] 25)).alloc (.cells #[.int .i64 l.x, .int .i64 l.y, .int .i64 l.z] 25)) l := by
  have h1 := heap_alloc_new (w.alloc (.cells #[.int .i64 0, .int .i64 0, .int .i64 0] 25)) (.cells #[.int .i64 l.x, .int .i64 l.y, .int .i64 l.z] 25)
  rw [show (w.alloc (.cells #[.int .i64 0, .int .i64 0, .int .i64 0] 25)).heap.size = w.heap.size + 1 from by simp] at h1
  exact ⟨(Below.heap_alloc _ _ _ (by simp)).trans (heap_alloc_new w _), h1, below2 w _ _⟩
theorem LSt.step {w W W' : World} {l : Tr} (h : LSt w W l) (hb : Below W.heap.size W W') : LSt w W' l :=
  ⟨(hb.block _ (lt_of_block h.1)).trans h.1, (hb.block _ (lt_of_block h.2.1)).trans h.2.1, h.2.2.trans (hb.mono h.2.2.size)⟩
theorem LSt.put {w W : World} {l : Tr} (h : LSt w W l) (x y z : Int) : LSt w (((W.setCell ⟨w.heap.size + 1, 0, none⟩ (.int .i64 x)).setCell ⟨w.heap.size + 1, 1, none⟩ (.int .i64 y)).setCell ⟨w.heap.size + 1, 2, none⟩ (.int .i64 z)) ⟨x, y, z⟩ := by
  have m0 := heap_setCell_self (k := 0) h.2.1 (.int .i64 x)
  have m1 := heap_setCell_self (k := 1) m0 (.int .i64 y)
  have m2 := heap_setCell_self (k := 2) m1 (.int .i64 z)
  refine ⟨?_, m2, ((h.2.2.setCell (p := ⟨_, _, none⟩) (by show w.heap.size ≤ w.heap.size + 1; omega) _).setCell (p := ⟨_, _, none⟩) (by show w.heap.size ≤ w.heap.size + 1; omega) _).setCell (p := ⟨_, _, none⟩) (by show w.heap.size ≤ w.heap.size + 1; omega) _⟩
  rw [Below.heap_setCell _ _ _ _ (by show w.heap.size ≠ w.heap.size + 1; omega), Below.heap_setCell _ _ _ _ (by show w.heap.size ≠ w.heap.size + 1; omega), Below.heap_setCell _ _ _ _ (by show w.heap.size ≠ w.heap.size + 1; omega)]
  exact h.1
theorem stain_full : stainB ⟨1000, 1000, 1000⟩ = true := by decide
theorem lay_full (f : Tr) : (⟨lay1 1000 f.x, lay1 1000 f.y, lay1 1000 f.z⟩ : Tr) = f := by
  obtain ⟨x, y, z⟩ := f
  simp only [lay1, Tr.mk.injEq]
  omega
end Go.Proofs.Ytfppnaknnijobab
