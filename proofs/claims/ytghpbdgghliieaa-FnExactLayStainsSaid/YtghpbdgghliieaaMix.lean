/-
  MixStains, of the model and of the program.
-/
import Derived.Test.YtghpbdgghliieaaTri
import Derived.Test.YtghpbdgghliieaaCopyP
namespace Go.Proofs.Ytghpbdgghliieaa
open Go.RowKit
set_option linter.unusedVariables false
set_option linter.unusedSimpArgs false

def mix1 (p a b : Int) : Int := (p * a + (100 - p) * b) / 100
def mixOkB (s t : Tr) (p : Int) : Bool := stainB s && stainB t && inB p 0 100
def mixT (s t : Tr) (p : Int) : Tr := if mixOkB s t p = true then ⟨mix1 p s.x t.x, mix1 p s.y t.y, mix1 p s.z t.z⟩ else ⟨0, 0, 0⟩
def MixIs (m : Tr) (b : Bool) (w : World) (e : Ending) (w' : World) : Prop := e = .returned (.tuple #[m.val, .bool b]) ∧ Below w.heap.size w w'
theorem blk3m (w : World) (o0 o1 o2 : Obj) : (((w.alloc o0).alloc o1).alloc o2).heap[w.heap.size + 1 + 1]? = some o2 := by
  have h2 := heap_alloc_new ((w.alloc o0).alloc o1) o2
  have s2 : ((w.alloc o0).alloc o1).heap.size = w.heap.size + 1 + 1 := by simp
  rw [s2] at h2
  exact h2
theorem part_bd {p a : Int} (h1 : 0 ≤ p) (h2 : p ≤ 100) (h3 : 0 ≤ a) (h4 : a ≤ 1000) : 0 ≤ p * a ∧ p * a ≤ 100000 := by
  have x := Int.mul_nonneg h1 h3
  have y := Int.mul_le_mul h2 h4 h3 (by omega : (0 : Int) ≤ 100)
  omega
theorem stain_bd {s : Tr} (h : stainB s = true) : (0 ≤ s.x ∧ s.x ≤ 1000) ∧ (0 ≤ s.y ∧ s.y ≤ 1000) ∧ (0 ≤ s.z ∧ s.z ≤ 1000) := by
  unfold stainB triB at h
  simp only [Bool.and_eq_true, inB_iff] at h
  omega
theorem mix_ok {s t : Tr} {p : Int} (h1 : stainB s = true) (h2 : stainB t = true) (h3 : inB p 0 100 = true) : mixT s t p = ⟨mix1 p s.x t.x, mix1 p s.y t.y, mix1 p s.z t.z⟩ ∧ mixOkB s t p = true := by
  have : mixOkB s t p = true := by unfold mixOkB; rw [h1, h2, h3]; rfl
  exact ⟨if_pos this, this⟩
theorem mix_no {s t : Tr} {p : Int} (h : (stainB s && stainB t && inB p 0 100) = false) : mixT s t p = ⟨0, 0, 0⟩ ∧ mixOkB s t p = false := by
  have h2 : mixOkB s t p = false := h
  exact ⟨if_neg (by rw [h2]; simp), h2⟩
theorem put3 {W : World} {B : Nat} {T : TypeId} (K : W.heap[B]? = some (.cells #[.int .i64 0, .int .i64 0, .int .i64 0] T)) (x y z : Value) :
    (((W.setCell ⟨B, 0, none⟩ x).setCell ⟨B, 1, none⟩ y).setCell ⟨B, 2, none⟩ z).cell? ⟨B, 0, none⟩ = some x ∧ (((W.setCell ⟨B, 0, none⟩ x).setCell ⟨B, 1, none⟩ y).setCell ⟨B, 2, none⟩ z).cell? ⟨B, 1, none⟩ = some y ∧ (((W.setCell ⟨B, 0, none⟩ x).setCell ⟨B, 1, none⟩ y).setCell ⟨B, 2, none⟩ z).cell? ⟨B, 2, none⟩ = some z := by
  have m0 := heap_setCell_self (k := 0) K x
  have m1 := heap_setCell_self (k := 1) m0 y
  have m2 := heap_setCell_self (k := 2) m1 z
  exact ⟨(cell_of_cells (k := 0) m2).trans rfl, (cell_of_cells (k := 1) m2).trans rfl, (cell_of_cells (k := 2) m2).trans rfl⟩
/-- What the walk is told of one part: the two products, their sum, the quotient. -/
theorem mix_part {p a b : Int} (h1 : 0 ≤ p) (h2 : p ≤ 100) (h3 : 0 ≤ a ∧ a ≤ 1000) (h4 : 0 ≤ b ∧ b ≤ 1000) : IntKind.i64.wrap (p * a) = p * a ∧ IntKind.i64.wrap ((100 - p) * b) = (100 - p) * b ∧ IntKind.i64.wrap (p * a + (100 - p) * b) = p * a + (100 - p) * b ∧ 0 ≤ p * a + (100 - p) * b ∧ IntKind.i64.wrap (mix1 p a b) = mix1 p a b ∧ (p * a + (100 - p) * b) / 100 = mix1 p a b ∧ Int.tdiv (p * a + (100 - p) * b) 100 = mix1 p a b ∧ IntKind.i64.wrap (100 - p) = 100 - p := by
  have x := part_bd h1 h2 h3.1 h3.2
  have y := part_bd (show 0 ≤ 100 - p by omega) (by omega) h4.1 h4.2
  have z : Int.tdiv (p * a + (100 - p) * b) 100 = mix1 p a b := Int.tdiv_eq_ediv_of_nonneg (by omega)
  have u : 0 ≤ mix1 p a b ∧ mix1 p a b ≤ 2000 := by unfold mix1; omega
  exact ⟨IntWalk.i64_in _ (by omega), IntWalk.i64_in _ (by omega), IntWalk.i64_in _ (by omega), by omega, IntWalk.i64_in _ (by omega), rfl, z, IntWalk.i64_in _ (by omega)⟩

set_option maxRecDepth 100000 in
theorem specMix (s t : Tr) (p : Int) (w : World) :
    Calls Try.prog 16 #[s.val, t.val, .int .i64 p] w (MixIs (mixT s t p) (mixOkB s t p) w) := by
  have HA := Lib.hid (fun w => specStainOk s w)
  have HB := Lib.hid (fun w => specStainOk t w)
  have HC := Lib.hid (fun w => specInB p 0 100 w)
  have HOK := Lib.hid (fun h1 h2 h3 => mix_ok (s := s) (t := t) (p := p) h1 h2 h3)
  have HNO := Lib.hid (fun h => mix_no (s := s) (t := t) (p := p) h)
  have HP1 := Lib.hid (fun (h1 : stainB s = true) (h2 : stainB t = true) (h3 : 0 ≤ p) (h4 : p ≤ 100) => mix_part h3 h4 (stain_bd h1).1 (stain_bd h2).1)
  have HP2 := Lib.hid (fun (h1 : stainB s = true) (h2 : stainB t = true) (h3 : 0 ≤ p) (h4 : p ≤ 100) => mix_part h3 h4 (stain_bd h1).2.1 (stain_bd h2).2.1)
  have HP3 := Lib.hid (fun (h1 : stainB s = true) (h2 : stainB t = true) (h3 : 0 ≤ p) (h4 : p ≤ 100) => mix_part h3 h4 (stain_bd h1).2.2 (stain_bd h2).2.2)
  have HPB := Lib.hid (fun (h : inB p 0 100 = true) => (inB_iff _ _ _).1 h)
  generalize stainB s = b1 at *
  generalize stainB t = b2 at *
  generalize inB p 0 100 = b3 at *
  generalize mixT s t p = m at *
  generalize mixOkB s t p = b at *
  obtain ⟨a1, a2, a3⟩ := s
  obtain ⟨c1, c2, c3⟩ := t
  unfold MixIs Tr.val at *
  simp only at HOK HP1 HP2 HP3 HA HB ⊢
  generalize mix1 p a1 c1 = m1 at *
  generalize mix1 p a2 c2 = m2 at *
  generalize mix1 p a3 c3 = m3 at *
  have HW := Lib.hid (below3 w (.cells #[.int .i64 a1, .int .i64 a2, .int .i64 a3] 31) (.cells #[.int .i64 c1, .int .i64 c2, .int .i64 c3] 31) (.cells #[.int .i64 0, .int .i64 0, .int .i64 0] 31))
  have HB3 := Lib.hid (blk3m w (.cells #[.int .i64 a1, .int .i64 a2, .int .i64 a3] 31) (.cells #[.int .i64 c1, .int .i64 c2, .int .i64 c3] 31) (.cells #[.int .i64 0, .int .i64 0, .int .i64 0] 31))
  have hh := (heldT2 w ⟨a1, a2, a3⟩ ⟨c1, c2, c3⟩ 31 31).alloc (.cells #[.int .i64 0, .int .i64 0, .int .i64 0] 31)
  simp only at hh
  have H0 := Lib.hid (Held.start hh.1 hh.2.1)
  have hsz : (((w.alloc (.cells #[.int .i64 a1, .int .i64 a2, .int .i64 a3] 31)).alloc (.cells #[.int .i64 c1, .int .i64 c2, .int .i64 c3] 31)).alloc (.cells #[.int .i64 0, .int .i64 0, .int .i64 0] 31)).heap.size = w.heap.size + 1 + 1 + 1 := by simp
  have HSZ := Lib.hid hsz
  clear hh hsz
  go_enter Try.func16, Try.ntmps16
  go_wp2_with fail
  generalize ((w.alloc (.cells #[.int .i64 a1, .int .i64 a2, .int .i64 a3] 31)).alloc (.cells #[.int .i64 c1, .int .i64 c2, .int .i64 c3] 31)).alloc (.cells #[.int .i64 0, .int .i64 0, .int .i64 0] 31) = W0 at *
  cases b1
  · obtain ⟨rfl, rfl⟩ := HNO.out (by rfl)
    refine (HA.out _).mono ?_
    rintro e w1 ⟨rfl, hb⟩
    have H9 := Lib.hid (H0.out.step hb); clear hb
    obtain ⟨x0, x1, x2, x3, x4, x5, _⟩ := H9.out.1
    have K9 := (H9.out.below.block (w.heap.size + 1 + 1) (by rw [HSZ.out]; omega)).trans HB3.out
    have z0 : _ = some (Value.int .i64 0) := (cell_of_cells (k := 0) K9).trans rfl
    have z1 : _ = some (Value.int .i64 0) := (cell_of_cells (k := 1) K9).trans rfl
    have z2 : _ = some (Value.int .i64 0) := (cell_of_cells (k := 2) K9).trans rfl
    have f0 := free_of_cells (k := 0) K9
    have f1 := free_of_cells (k := 1) K9
    have f2 := free_of_cells (k := 2) K9
    have K9h := Lib.hid K9; clear K9
    go_wp2_with fail
    obtain ⟨r0, r1, r2⟩ := put3 K9h.out (.int .i64 0) (.int .i64 0) (.int .i64 0)
    refine bodyPost_ret (v := .tuple #[.agg #[.int .i64 0, .int .i64 0, .int .i64 0], .bool false]) (by simp [results, Try.results16, go_sem, r0, r1, r2]) rfl ⟨rfl, ?_⟩
    exact (((HW.out.trans (H9.out.below.mono (by rw [HSZ.out]; omega))).setCell (p := ⟨_, _, none⟩) (by show w.heap.size ≤ w.heap.size + 1 + 1; omega) _).setCell (p := ⟨_, _, none⟩) (by show w.heap.size ≤ w.heap.size + 1 + 1; omega) _).setCell (p := ⟨_, _, none⟩) (by show w.heap.size ≤ w.heap.size + 1 + 1; omega) _
  obtain ⟨x0, x1, x2, x3, x4, x5, _⟩ := H0.out.1
  go_wp2_with fail
  refine (HA.out _).mono ?_
  rintro e w1 ⟨rfl, hb⟩
  have H1 := Lib.hid (H0.out.step hb); clear hb x0 x1 x2 x3 x4 x5
  obtain ⟨x0, x1, x2, x3, x4, x5, _⟩ := H1.out.1
  go_wp2_with fail
  cases b2
  · obtain ⟨rfl, rfl⟩ := HNO.out (by rfl)
    refine (HB.out _).mono ?_
    rintro e w2 ⟨rfl, hb⟩
    have H9 := Lib.hid (H1.out.step hb); clear hb x0 x1 x2 x3 x4 x5
    obtain ⟨x0, x1, x2, x3, x4, x5, _⟩ := H9.out.1
    have K9 := (H9.out.below.block (w.heap.size + 1 + 1) (by rw [HSZ.out]; omega)).trans HB3.out
    have z0 : _ = some (Value.int .i64 0) := (cell_of_cells (k := 0) K9).trans rfl
    have z1 : _ = some (Value.int .i64 0) := (cell_of_cells (k := 1) K9).trans rfl
    have z2 : _ = some (Value.int .i64 0) := (cell_of_cells (k := 2) K9).trans rfl
    have f0 := free_of_cells (k := 0) K9
    have f1 := free_of_cells (k := 1) K9
    have f2 := free_of_cells (k := 2) K9
    have K9h := Lib.hid K9; clear K9
    go_wp2_with fail
    obtain ⟨r0, r1, r2⟩ := put3 K9h.out (.int .i64 0) (.int .i64 0) (.int .i64 0)
    refine bodyPost_ret (v := .tuple #[.agg #[.int .i64 0, .int .i64 0, .int .i64 0], .bool false]) (by simp [results, Try.results16, go_sem, r0, r1, r2]) rfl ⟨rfl, ?_⟩
    exact (((HW.out.trans (H9.out.below.mono (by rw [HSZ.out]; omega))).setCell (p := ⟨_, _, none⟩) (by show w.heap.size ≤ w.heap.size + 1 + 1; omega) _).setCell (p := ⟨_, _, none⟩) (by show w.heap.size ≤ w.heap.size + 1 + 1; omega) _).setCell (p := ⟨_, _, none⟩) (by show w.heap.size ≤ w.heap.size + 1 + 1; omega) _
  refine (HB.out _).mono ?_
  rintro e w2 ⟨rfl, hb⟩
  have H2 := Lib.hid (H1.out.step hb); clear hb x0 x1 x2 x3 x4 x5
  obtain ⟨x0, x1, x2, x3, x4, x5, _⟩ := H2.out.1
  go_wp2_with fail
  cases b3
  · obtain ⟨rfl, rfl⟩ := HNO.out (by rfl)
    refine (HC.out _).mono ?_
    rintro e w3 ⟨rfl, hb⟩
    have H9 := Lib.hid (H2.out.step hb); clear hb x0 x1 x2 x3 x4 x5
    obtain ⟨x0, x1, x2, x3, x4, x5, _⟩ := H9.out.1
    have K9 := (H9.out.below.block (w.heap.size + 1 + 1) (by rw [HSZ.out]; omega)).trans HB3.out
    have z0 : _ = some (Value.int .i64 0) := (cell_of_cells (k := 0) K9).trans rfl
    have z1 : _ = some (Value.int .i64 0) := (cell_of_cells (k := 1) K9).trans rfl
    have z2 : _ = some (Value.int .i64 0) := (cell_of_cells (k := 2) K9).trans rfl
    have f0 := free_of_cells (k := 0) K9
    have f1 := free_of_cells (k := 1) K9
    have f2 := free_of_cells (k := 2) K9
    have K9h := Lib.hid K9; clear K9
    go_wp2_with fail
    obtain ⟨r0, r1, r2⟩ := put3 K9h.out (.int .i64 0) (.int .i64 0) (.int .i64 0)
    refine bodyPost_ret (v := .tuple #[.agg #[.int .i64 0, .int .i64 0, .int .i64 0], .bool false]) (by simp [results, Try.results16, go_sem, r0, r1, r2]) rfl ⟨rfl, ?_⟩
    exact (((HW.out.trans (H9.out.below.mono (by rw [HSZ.out]; omega))).setCell (p := ⟨_, _, none⟩) (by show w.heap.size ≤ w.heap.size + 1 + 1; omega) _).setCell (p := ⟨_, _, none⟩) (by show w.heap.size ≤ w.heap.size + 1 + 1; omega) _).setCell (p := ⟨_, _, none⟩) (by show w.heap.size ≤ w.heap.size + 1 + 1; omega) _
  obtain ⟨rfl, rfl⟩ := HOK.out (by trivial) (by trivial) (by trivial)
  refine (HC.out _).mono ?_
  rintro e w3 ⟨rfl, hb⟩
  have H9 := Lib.hid (H2.out.step hb); clear hb x0 x1 x2 x3 x4 x5
  obtain ⟨l0, l1⟩ := HPB.out (by trivial)
  obtain ⟨p1, p2, p3, p4, p5, p6, p7, e0⟩ := HP1.out (by trivial) (by trivial) l0 l1
  obtain ⟨q1, q2, q3, q4, q5, q6, q7, -⟩ := HP2.out (by trivial) (by trivial) l0 l1
  obtain ⟨r1, r2, r3, r4, r5, r6, r7, -⟩ := HP3.out (by trivial) (by trivial) l0 l1
  obtain ⟨x0, x1, x2, x3, x4, x5, _⟩ := H9.out.1
  have K9 := (H9.out.below.block (w.heap.size + 1 + 1) (by rw [HSZ.out]; omega)).trans HB3.out
  have z0 : _ = some (Value.int .i64 0) := (cell_of_cells (k := 0) K9).trans rfl
  have z1 : _ = some (Value.int .i64 0) := (cell_of_cells (k := 1) K9).trans rfl
  have z2 : _ = some (Value.int .i64 0) := (cell_of_cells (k := 2) K9).trans rfl
  have f0 := free_of_cells (k := 0) K9
  have f1 := free_of_cells (k := 1) K9
  have f2 := free_of_cells (k := 2) K9
  have K9h := Lib.hid K9; clear K9
  go_wp2_with fail
  obtain ⟨r0, r1, r2⟩ := put3 K9h.out (.int .i64 m1) (.int .i64 m2) (.int .i64 m3)
  refine bodyPost_ret (v := .tuple #[.agg #[.int .i64 m1, .int .i64 m2, .int .i64 m3], .bool true]) (by simp [results, Try.results16, go_sem, r0, r1, r2]) rfl ⟨rfl, ?_⟩
  exact (((HW.out.trans (H9.out.below.mono (by rw [HSZ.out]; omega))).setCell (p := ⟨_, _, none⟩) (by show w.heap.size ≤ w.heap.size + 1 + 1; omega) _).setCell (p := ⟨_, _, none⟩) (by show w.heap.size ≤ w.heap.size + 1 + 1; omega) _).setCell (p := ⟨_, _, none⟩) (by show w.heap.size ≤ w.heap.size + 1 + 1; omega) _

theorem held_one {w W : World} {b o : Nat} {v : Value} {fs : List (Nat × Nat × Value)} (h : Held w W ((b, o, v) :: fs)) : W.cell? ⟨b, o, none⟩ = some v := h.1.1
theorem blk4m (w : World) (o0 o1 o2 o3 : Obj) : ((((w.alloc o0).alloc o1).alloc o2).alloc o3).heap[w.heap.size + 1 + 1 + 1]? = some o3 := by
  have h2 := heap_alloc_new (((w.alloc o0).alloc o1).alloc o2) o3
  have s2 : (((w.alloc o0).alloc o1).alloc o2).heap.size = w.heap.size + 1 + 1 + 1 := by simp
  rw [s2] at h2
  exact h2
set_option maxRecDepth 100000 in
theorem mixCall (a b p : Int) (bp : Nat) (w : World) (hc : w.cell? ⟨bp, 0, none⟩ = some (.int .i64 p)) (h : IntKind.i64.wrap (p * a) = p * a ∧ IntKind.i64.wrap ((100 - p) * b) = (100 - p) * b ∧ IntKind.i64.wrap (p * a + (100 - p) * b) = p * a + (100 - p) * b ∧ 0 ≤ p * a + (100 - p) * b ∧ IntKind.i64.wrap (mix1 p a b) = mix1 p a b ∧ (p * a + (100 - p) * b) / 100 = mix1 p a b ∧ Int.tdiv (p * a + (100 - p) * b) 100 = mix1 p a b ∧ IntKind.i64.wrap (100 - p) = 100 - p) :
    Calls Try.prog 35 #[.int .i64 a, .int .i64 b, .pointer (some ⟨bp, 0, none⟩)] w (IntIs (mix1 p a b) w) := by
  obtain ⟨h1, h2, h3, h4, h5, h6, h7, h8⟩ := h
  generalize mix1 p a b = m at *
  go_enter Try.func35, Try.ntmps35
  go_wp2_with fail
  go_ret
  exact ⟨rfl, Below.refl _ _⟩
set_option maxRecDepth 100000 in
theorem implMix (s t : Tr) (p : Int) (w : World) :
    Calls Try.prog 17 #[s.val, t.val, .int .i64 p] w (MixIs (mixT s t p) (mixOkB s t p) w) := by
  have HA := Lib.hid (fun w => implStain s w)
  have HB := Lib.hid (fun w => implStain t w)
  have HOK := Lib.hid (fun h1 h2 h3 => mix_ok (s := s) (t := t) (p := p) h1 h2 h3)
  have HNO := Lib.hid (fun h => mix_no (s := s) (t := t) (p := p) h)
  have HP1 := Lib.hid (fun (h1 : stainB s = true) (h2 : stainB t = true) (h3 : 0 ≤ p) (h4 : p ≤ 100) => mix_part h3 h4 (stain_bd h1).1 (stain_bd h2).1)
  have HP2 := Lib.hid (fun (h1 : stainB s = true) (h2 : stainB t = true) (h3 : 0 ≤ p) (h4 : p ≤ 100) => mix_part h3 h4 (stain_bd h1).2.1 (stain_bd h2).2.1)
  have HP3 := Lib.hid (fun (h1 : stainB s = true) (h2 : stainB t = true) (h3 : 0 ≤ p) (h4 : p ≤ 100) => mix_part h3 h4 (stain_bd h1).2.2 (stain_bd h2).2.2)
  have HPB := Lib.hid (fun (h : inB p 0 100 = true) => (inB_iff _ _ _).1 h)
  generalize stainB s = b1 at *
  generalize stainB t = b2 at *
  have HPN := Lib.hid (fun (h : inB p 0 100 = false) => (show p < 0 ∨ 100 < p by
    rcases Int.lt_or_le p 0 with h1 | h1
    · exact .inl h1
    · rcases Int.lt_or_le 100 p with h2 | h2
      · exact .inr h2
      · rw [(inB_iff p 0 100).2 ⟨h1, h2⟩] at h; cases h))
  generalize inB p 0 100 = b3 at *
  generalize mixT s t p = m at *
  generalize mixOkB s t p = b at *
  obtain ⟨a1, a2, a3⟩ := s
  obtain ⟨c1, c2, c3⟩ := t
  unfold MixIs Tr.val at *
  simp only at HOK HP1 HP2 HP3 HA HB ⊢
  obtain ⟨m1, hm1⟩ : ∃ x, mix1 p a1 c1 = x := ⟨_, rfl⟩
  obtain ⟨m2, hm2⟩ : ∃ x, mix1 p a2 c2 = x := ⟨_, rfl⟩
  obtain ⟨m3, hm3⟩ : ∃ x, mix1 p a3 c3 = x := ⟨_, rfl⟩
  rw [hm1, hm2, hm3] at HOK
  have HW := Lib.hid ((below3 w (.cells #[.int .i64 a1, .int .i64 a2, .int .i64 a3] 31) (.cells #[.int .i64 c1, .int .i64 c2, .int .i64 c3] 31) (.cells #[.int .i64 p] 3)).alloc (by simp; omega) (.cells #[.int .i64 0, .int .i64 0, .int .i64 0] 31))
  have HB3 := Lib.hid (blk4m w (.cells #[.int .i64 a1, .int .i64 a2, .int .i64 a3] 31) (.cells #[.int .i64 c1, .int .i64 c2, .int .i64 c3] 31) (.cells #[.int .i64 p] 3) (.cells #[.int .i64 0, .int .i64 0, .int .i64 0] 31))
  have hh := ((heldT2 w ⟨a1, a2, a3⟩ ⟨c1, c2, c3⟩ 31 31).new2 (w.heap.size + 1 + 1) (by simp) [.int .i64 p] 3).alloc (.cells #[.int .i64 0, .int .i64 0, .int .i64 0] 31)
  simp only [newFs, List.cons_append, List.nil_append] at hh
  have H0 := Lib.hid (Held.start hh.1 hh.2.1)
  have hsz : ((((w.alloc (.cells #[.int .i64 a1, .int .i64 a2, .int .i64 a3] 31)).alloc (.cells #[.int .i64 c1, .int .i64 c2, .int .i64 c3] 31)).alloc (.cells #[.int .i64 p] 3)).alloc (.cells #[.int .i64 0, .int .i64 0, .int .i64 0] 31)).heap.size = w.heap.size + 1 + 1 + 1 + 1 := by simp
  have HSZ := Lib.hid hsz
  clear hh hsz
  go_enter Try.func17, Try.ntmps17
  go_wp2_with fail
  generalize (((w.alloc (.cells #[.int .i64 a1, .int .i64 a2, .int .i64 a3] 31)).alloc (.cells #[.int .i64 c1, .int .i64 c2, .int .i64 c3] 31)).alloc (.cells #[.int .i64 p] 3)).alloc (.cells #[.int .i64 0, .int .i64 0, .int .i64 0] 31) = W0 at *
  cases b1
  · obtain ⟨rfl, rfl⟩ := HNO.out (by rfl)
    refine (HA.out _).mono ?_
    rintro e w1 ⟨rfl, hb⟩
    have H9 := Lib.hid (H0.out.step hb); clear hb
    obtain ⟨x0, x1, x2, x3, x4, x5, x6, _⟩ := H9.out.1
    have K9 := (H9.out.below.block (w.heap.size + 1 + 1 + 1) (by rw [HSZ.out]; omega)).trans HB3.out
    have z0 : _ = some (Value.int .i64 0) := (cell_of_cells (k := 0) K9).trans rfl
    have z1 : _ = some (Value.int .i64 0) := (cell_of_cells (k := 1) K9).trans rfl
    have z2 : _ = some (Value.int .i64 0) := (cell_of_cells (k := 2) K9).trans rfl
    have f0 := free_of_cells (k := 0) K9
    have f1 := free_of_cells (k := 1) K9
    have f2 := free_of_cells (k := 2) K9
    have K9h := Lib.hid K9; clear K9
    go_wp2_with fail
    obtain ⟨r0, r1, r2⟩ := put3 K9h.out (.int .i64 0) (.int .i64 0) (.int .i64 0)
    refine bodyPost_ret (v := .tuple #[.agg #[.int .i64 0, .int .i64 0, .int .i64 0], .bool false]) (by simp [results, Try.results17, go_sem, r0, r1, r2]) rfl ⟨rfl, ?_⟩
    exact (((HW.out.trans (H9.out.below.mono (by rw [HSZ.out]; omega))).setCell (p := ⟨_, _, none⟩) (by show w.heap.size ≤ w.heap.size + 1 + 1 + 1; omega) _).setCell (p := ⟨_, _, none⟩) (by show w.heap.size ≤ w.heap.size + 1 + 1 + 1; omega) _).setCell (p := ⟨_, _, none⟩) (by show w.heap.size ≤ w.heap.size + 1 + 1 + 1; omega) _
  obtain ⟨x0, x1, x2, x3, x4, x5, x6, _⟩ := H0.out.1
  go_wp2_with fail
  refine (HA.out _).mono ?_
  rintro e w1 ⟨rfl, hb⟩
  have H1 := Lib.hid (H0.out.step hb); clear hb x0 x1 x2 x3 x4 x5 x6
  obtain ⟨x0, x1, x2, x3, x4, x5, x6, _⟩ := H1.out.1
  go_wp2_with fail
  cases b2
  · obtain ⟨rfl, rfl⟩ := HNO.out (by rfl)
    refine (HB.out _).mono ?_
    rintro e w2 ⟨rfl, hb⟩
    have H9 := Lib.hid (H1.out.step hb); clear hb x0 x1 x2 x3 x4 x5 x6
    obtain ⟨x0, x1, x2, x3, x4, x5, x6, _⟩ := H9.out.1
    have K9 := (H9.out.below.block (w.heap.size + 1 + 1 + 1) (by rw [HSZ.out]; omega)).trans HB3.out
    have z0 : _ = some (Value.int .i64 0) := (cell_of_cells (k := 0) K9).trans rfl
    have z1 : _ = some (Value.int .i64 0) := (cell_of_cells (k := 1) K9).trans rfl
    have z2 : _ = some (Value.int .i64 0) := (cell_of_cells (k := 2) K9).trans rfl
    have f0 := free_of_cells (k := 0) K9
    have f1 := free_of_cells (k := 1) K9
    have f2 := free_of_cells (k := 2) K9
    have K9h := Lib.hid K9; clear K9
    go_wp2_with fail
    obtain ⟨r0, r1, r2⟩ := put3 K9h.out (.int .i64 0) (.int .i64 0) (.int .i64 0)
    refine bodyPost_ret (v := .tuple #[.agg #[.int .i64 0, .int .i64 0, .int .i64 0], .bool false]) (by simp [results, Try.results17, go_sem, r0, r1, r2]) rfl ⟨rfl, ?_⟩
    exact (((HW.out.trans (H9.out.below.mono (by rw [HSZ.out]; omega))).setCell (p := ⟨_, _, none⟩) (by show w.heap.size ≤ w.heap.size + 1 + 1 + 1; omega) _).setCell (p := ⟨_, _, none⟩) (by show w.heap.size ≤ w.heap.size + 1 + 1 + 1; omega) _).setCell (p := ⟨_, _, none⟩) (by show w.heap.size ≤ w.heap.size + 1 + 1 + 1; omega) _
  refine (HB.out _).mono ?_
  rintro e w2 ⟨rfl, hb⟩
  have H9 := Lib.hid (H1.out.step hb); clear hb x0 x1 x2 x3 x4 x5 x6
  cases b3
  · obtain ⟨rfl, rfl⟩ := HNO.out (by rfl)
    rcases HPN.out (by trivial) with l0 | l0
    · obtain ⟨x0, x1, x2, x3, x4, x5, x6, _⟩ := H9.out.1
      have K9 := (H9.out.below.block (w.heap.size + 1 + 1 + 1) (by rw [HSZ.out]; omega)).trans HB3.out
      have z0 : _ = some (Value.int .i64 0) := (cell_of_cells (k := 0) K9).trans rfl
      have z1 : _ = some (Value.int .i64 0) := (cell_of_cells (k := 1) K9).trans rfl
      have z2 : _ = some (Value.int .i64 0) := (cell_of_cells (k := 2) K9).trans rfl
      have f0 := free_of_cells (k := 0) K9
      have f1 := free_of_cells (k := 1) K9
      have f2 := free_of_cells (k := 2) K9
      have K9h := Lib.hid K9; clear K9
      go_wp2_with fail
      obtain ⟨r0, r1, r2⟩ := put3 K9h.out (.int .i64 0) (.int .i64 0) (.int .i64 0)
      refine bodyPost_ret (v := .tuple #[.agg #[.int .i64 0, .int .i64 0, .int .i64 0], .bool false]) (by simp [results, Try.results17, go_sem, r0, r1, r2]) rfl ⟨rfl, ?_⟩
      exact (((HW.out.trans (H9.out.below.mono (by rw [HSZ.out]; omega))).setCell (p := ⟨_, _, none⟩) (by show w.heap.size ≤ w.heap.size + 1 + 1 + 1; omega) _).setCell (p := ⟨_, _, none⟩) (by show w.heap.size ≤ w.heap.size + 1 + 1 + 1; omega) _).setCell (p := ⟨_, _, none⟩) (by show w.heap.size ≤ w.heap.size + 1 + 1 + 1; omega) _
    · obtain ⟨x0, x1, x2, x3, x4, x5, x6, _⟩ := H9.out.1
      have K9 := (H9.out.below.block (w.heap.size + 1 + 1 + 1) (by rw [HSZ.out]; omega)).trans HB3.out
      have z0 : _ = some (Value.int .i64 0) := (cell_of_cells (k := 0) K9).trans rfl
      have z1 : _ = some (Value.int .i64 0) := (cell_of_cells (k := 1) K9).trans rfl
      have z2 : _ = some (Value.int .i64 0) := (cell_of_cells (k := 2) K9).trans rfl
      have f0 := free_of_cells (k := 0) K9
      have f1 := free_of_cells (k := 1) K9
      have f2 := free_of_cells (k := 2) K9
      have K9h := Lib.hid K9; clear K9
      go_wp2_with fail
      obtain ⟨r0, r1, r2⟩ := put3 K9h.out (.int .i64 0) (.int .i64 0) (.int .i64 0)
      refine bodyPost_ret (v := .tuple #[.agg #[.int .i64 0, .int .i64 0, .int .i64 0], .bool false]) (by simp [results, Try.results17, go_sem, r0, r1, r2]) rfl ⟨rfl, ?_⟩
      exact (((HW.out.trans (H9.out.below.mono (by rw [HSZ.out]; omega))).setCell (p := ⟨_, _, none⟩) (by show w.heap.size ≤ w.heap.size + 1 + 1 + 1; omega) _).setCell (p := ⟨_, _, none⟩) (by show w.heap.size ≤ w.heap.size + 1 + 1 + 1; omega) _).setCell (p := ⟨_, _, none⟩) (by show w.heap.size ≤ w.heap.size + 1 + 1 + 1; omega) _
  obtain ⟨rfl, rfl⟩ := HOK.out (by trivial) (by trivial) (by trivial)
  obtain ⟨l0, l1⟩ := HPB.out (by trivial)
  have HM1 := Lib.hid (fun W hc => mixCall a1 c1 p (w.heap.size + 1 + 1) W hc (HP1.out (by trivial) (by trivial) l0 l1))
  have HM2 := Lib.hid (fun W hc => mixCall a2 c2 p (w.heap.size + 1 + 1) W hc (HP2.out (by trivial) (by trivial) l0 l1))
  have HM3 := Lib.hid (fun W hc => mixCall a3 c3 p (w.heap.size + 1 + 1) W hc (HP3.out (by trivial) (by trivial) l0 l1))
  rw [hm1] at HM1
  rw [hm2] at HM2
  rw [hm3] at HM3
  have K9 := (H9.out.below.block (w.heap.size + 1 + 1 + 1) (by rw [HSZ.out]; omega)).trans HB3.out
  have HK9 := Lib.hid (⟨_, K9, rfl⟩ : BlkN (w.heap.size + 1 + 1 + 1) 31 3 w2); clear K9
  have H8 := Lib.hid (show Held w w2 _ from ⟨H9.out.1, H9.out.2.1, HW.out.trans (H9.out.below.mono (by rw [HSZ.out]; omega))⟩)
  clear H9
  obtain ⟨x0, x1, x2, x3, x4, x5, x6, _⟩ := H8.out.1
  go_wp2_with fail
  refine regionW (fun W => (Held _ W [(w.heap.size + 1 + 1, 0, .int .i64 (p)), (w.heap.size + 1, 0, .int .i64 (c1)), (w.heap.size + 1, 1, .int .i64 (c2)), (w.heap.size + 1, 2, .int .i64 (c3)), (w.heap.size, 0, .int .i64 (a1)), (w.heap.size, 1, .int .i64 (a2)), (w.heap.size, 2, .int .i64 (a3))]) ∧ BlkN (w.heap.size + 1 + 1 + 1) 31 3 W) (by kernel_rfl) ⟨H8.out.drew, HK9.out⟩ ?_
  refine takeW (i := 0) (v := ?_) (Stable.and (Stable.held _ _) (stable_blkN (w.heap.size + 1 + 1 + 1) 31 3)) rfl (by kernel_rfl) (by kernel_rfl) (by kernel_rfl) (fun _ _ _ h => h) ?_ ?_
  rotate_left
  · first | (refine Or.inl ⟨by rfl, fun W hS => detR_value (w' := W) ?_ (Below.refl _ _)⟩; obtain ⟨hH, q1⟩ := hS; obtain ⟨x0, x1, x2, x3, x4, x5, x6, _⟩ := hH.1; go_simp; first | done | with_reducible rfl) | fail
  simp only [Act.put, List.setIfInBounds_toArray, List.set_cons_zero, List.set_cons_succ]
  refine takeW (i := 1) (v := ?_) (Stable.and (Stable.held _ _) (stable_blkN (w.heap.size + 1 + 1 + 1) 31 3)) rfl (by kernel_rfl) (by kernel_rfl) (by kernel_rfl) (fun _ _ _ h => h) ?_ ?_
  rotate_left
  · first | (refine Or.inl ⟨by rfl, fun W hS => detR_value (w' := W) ?_ (Below.refl _ _)⟩; obtain ⟨hH, q1⟩ := hS; obtain ⟨x0, x1, x2, x3, x4, x5, x6, _⟩ := hH.1; go_simp; first | done | with_reducible rfl) | fail
  simp only [Act.put, List.setIfInBounds_toArray, List.set_cons_zero, List.set_cons_succ]
  refine takeW (i := 2) (v := ?_) (Stable.and (Stable.held _ _) (stable_blkN (w.heap.size + 1 + 1 + 1) 31 3)) rfl (by kernel_rfl) (by kernel_rfl) (by kernel_rfl) (fun _ _ _ h => h) ?_ ?_
  rotate_left
  · first | (refine Or.inl ⟨by rfl, fun W hS => detR_value (w' := W) ?_ (Below.refl _ _)⟩; obtain ⟨hH, q1⟩ := hS; obtain ⟨x0, x1, x2, x3, x4, x5, x6, _⟩ := hH.1; go_simp; first | done | with_reducible rfl) | fail
  simp only [Act.put, List.setIfInBounds_toArray, List.set_cons_zero, List.set_cons_succ]
  refine takeW (i := 3) (v := ?_) (Stable.and (Stable.held _ _) (stable_blkN (w.heap.size + 1 + 1 + 1) 31 3)) rfl (by kernel_rfl) (by kernel_rfl) (by kernel_rfl) (fun _ _ _ h => h) ?_ ?_
  rotate_left
  · first | (refine Or.inl ⟨by rfl, fun W hS => detR_value (w' := W) ?_ (Below.refl _ _)⟩; obtain ⟨hH, q1⟩ := hS; obtain ⟨x0, x1, x2, x3, x4, x5, x6, _⟩ := hH.1; go_simp; first | done | with_reducible rfl) | fail
  simp only [Act.put, List.setIfInBounds_toArray, List.set_cons_zero, List.set_cons_succ]
  refine takeW (i := 4) (v := ?_) (Stable.and (Stable.held _ _) (stable_blkN (w.heap.size + 1 + 1 + 1) 31 3)) rfl (by kernel_rfl) (by kernel_rfl) (by kernel_rfl) (fun _ _ _ h => h) ?_ ?_
  rotate_left
  · first | (refine Or.inl ⟨by rfl, fun W hS => detR_value (w' := W) ?_ (Below.refl _ _)⟩; obtain ⟨hH, q1⟩ := hS; obtain ⟨x0, x1, x2, x3, x4, x5, x6, _⟩ := hH.1; go_simp; first | done | with_reducible rfl) | fail
  simp only [Act.put, List.setIfInBounds_toArray, List.set_cons_zero, List.set_cons_succ]
  refine takeW (i := 5) (v := ?_) (Stable.and (Stable.held _ _) (stable_blkN (w.heap.size + 1 + 1 + 1) 31 3)) rfl (by kernel_rfl) (by kernel_rfl) (by kernel_rfl) (fun _ _ _ h => h) ?_ ?_
  rotate_left
  · first | (refine Or.inl ⟨by rfl, fun W hS => ?_⟩; obtain ⟨hH, q1⟩ := hS; refine detR_call (w' := W) (f := ?_) (args := ?_) ?_ ?_; rotate_left 2; (go_simp; (refine ⟨?_, ?_⟩ <;> with_reducible rfl)); (first | (with_reducible refine (HM1.out _ (held_one hH)).mono ?_) | fail); (first | (rintro e wn ⟨rfl, hb⟩; refine ⟨?_, hb⟩; with_reducible rfl) | (rintro e wn ⟨rfl, rfl⟩; refine ⟨?_, Below.refl _ _⟩; with_reducible rfl) | fail)) | fail
  simp only [Act.put, List.setIfInBounds_toArray, List.set_cons_zero, List.set_cons_succ]
  refine takeW (i := 6) (v := ?_) (Stable.and (Stable.held _ _) (stable_blkN (w.heap.size + 1 + 1 + 1) 31 3)) rfl (by kernel_rfl) (by kernel_rfl) (by kernel_rfl) (fun _ _ _ h => h) ?_ ?_
  rotate_left
  · first | (refine Or.inl ⟨by rfl, fun W hS => detR_value (w' := W) ?_ (Below.refl _ _)⟩; obtain ⟨hH, q1⟩ := hS; obtain ⟨x0, x1, x2, x3, x4, x5, x6, _⟩ := hH.1; go_simp; first | done | with_reducible rfl) | fail
  simp only [Act.put, List.setIfInBounds_toArray, List.set_cons_zero, List.set_cons_succ]
  refine takeW (i := 7) (v := ?_) (Stable.and (Stable.held _ _) (stable_blkN (w.heap.size + 1 + 1 + 1) 31 3)) rfl (by kernel_rfl) (by kernel_rfl) (by kernel_rfl) (fun _ _ _ h => h) ?_ ?_
  rotate_left
  · first | (refine Or.inl ⟨by rfl, fun W hS => detR_value (w' := W) ?_ (Below.refl _ _)⟩; obtain ⟨hH, q1⟩ := hS; obtain ⟨x0, x1, x2, x3, x4, x5, x6, _⟩ := hH.1; go_simp; first | done | with_reducible rfl) | fail
  simp only [Act.put, List.setIfInBounds_toArray, List.set_cons_zero, List.set_cons_succ]
  refine takeW (i := 8) (v := ?_) (Stable.and (Stable.held _ _) (stable_blkN (w.heap.size + 1 + 1 + 1) 31 3)) rfl (by kernel_rfl) (by kernel_rfl) (by kernel_rfl) (fun _ _ _ h => h) ?_ ?_
  rotate_left
  · first | (refine Or.inl ⟨by rfl, fun W hS => detR_value (w' := W) ?_ (Below.refl _ _)⟩; obtain ⟨hH, q1⟩ := hS; obtain ⟨x0, x1, x2, x3, x4, x5, x6, _⟩ := hH.1; go_simp; first | done | with_reducible rfl) | fail
  simp only [Act.put, List.setIfInBounds_toArray, List.set_cons_zero, List.set_cons_succ]
  refine takeW (i := 9) (v := ?_) (Stable.and (Stable.held _ _) (stable_blkN (w.heap.size + 1 + 1 + 1) 31 3)) rfl (by kernel_rfl) (by kernel_rfl) (by kernel_rfl) (fun _ _ _ h => h) ?_ ?_
  rotate_left
  · first | (refine Or.inl ⟨by rfl, fun W hS => detR_value (w' := W) ?_ (Below.refl _ _)⟩; obtain ⟨hH, q1⟩ := hS; obtain ⟨x0, x1, x2, x3, x4, x5, x6, _⟩ := hH.1; go_simp; first | done | with_reducible rfl) | fail
  simp only [Act.put, List.setIfInBounds_toArray, List.set_cons_zero, List.set_cons_succ]
  refine takeW (i := 10) (v := ?_) (Stable.and (Stable.held _ _) (stable_blkN (w.heap.size + 1 + 1 + 1) 31 3)) rfl (by kernel_rfl) (by kernel_rfl) (by kernel_rfl) (fun _ _ _ h => h) ?_ ?_
  rotate_left
  · first | (refine Or.inl ⟨by rfl, fun W hS => detR_value (w' := W) ?_ (Below.refl _ _)⟩; obtain ⟨hH, q1⟩ := hS; obtain ⟨x0, x1, x2, x3, x4, x5, x6, _⟩ := hH.1; go_simp; first | done | with_reducible rfl) | fail
  simp only [Act.put, List.setIfInBounds_toArray, List.set_cons_zero, List.set_cons_succ]
  refine takeW (i := 11) (v := ?_) (Stable.and (Stable.held _ _) (stable_blkN (w.heap.size + 1 + 1 + 1) 31 3)) rfl (by kernel_rfl) (by kernel_rfl) (by kernel_rfl) (fun _ _ _ h => h) ?_ ?_
  rotate_left
  · first | (refine Or.inl ⟨by rfl, fun W hS => ?_⟩; obtain ⟨hH, q1⟩ := hS; refine detR_call (w' := W) (f := ?_) (args := ?_) ?_ ?_; rotate_left 2; (go_simp; (refine ⟨?_, ?_⟩ <;> with_reducible rfl)); (first | (with_reducible refine (HM2.out _ (held_one hH)).mono ?_) | fail); (first | (rintro e wn ⟨rfl, hb⟩; refine ⟨?_, hb⟩; with_reducible rfl) | (rintro e wn ⟨rfl, rfl⟩; refine ⟨?_, Below.refl _ _⟩; with_reducible rfl) | fail)) | fail
  simp only [Act.put, List.setIfInBounds_toArray, List.set_cons_zero, List.set_cons_succ]
  refine takeW (i := 12) (v := ?_) (Stable.and (Stable.held _ _) (stable_blkN (w.heap.size + 1 + 1 + 1) 31 3)) rfl (by kernel_rfl) (by kernel_rfl) (by kernel_rfl) (fun _ _ _ h => h) ?_ ?_
  rotate_left
  · first | (refine Or.inl ⟨by rfl, fun W hS => detR_value (w' := W) ?_ (Below.refl _ _)⟩; obtain ⟨hH, q1⟩ := hS; obtain ⟨x0, x1, x2, x3, x4, x5, x6, _⟩ := hH.1; go_simp; first | done | with_reducible rfl) | fail
  simp only [Act.put, List.setIfInBounds_toArray, List.set_cons_zero, List.set_cons_succ]
  refine takeW (i := 13) (v := ?_) (Stable.and (Stable.held _ _) (stable_blkN (w.heap.size + 1 + 1 + 1) 31 3)) rfl (by kernel_rfl) (by kernel_rfl) (by kernel_rfl) (fun _ _ _ h => h) ?_ ?_
  rotate_left
  · first | (refine Or.inl ⟨by rfl, fun W hS => detR_value (w' := W) ?_ (Below.refl _ _)⟩; obtain ⟨hH, q1⟩ := hS; obtain ⟨x0, x1, x2, x3, x4, x5, x6, _⟩ := hH.1; go_simp; first | done | with_reducible rfl) | fail
  simp only [Act.put, List.setIfInBounds_toArray, List.set_cons_zero, List.set_cons_succ]
  refine takeW (i := 14) (v := ?_) (Stable.and (Stable.held _ _) (stable_blkN (w.heap.size + 1 + 1 + 1) 31 3)) rfl (by kernel_rfl) (by kernel_rfl) (by kernel_rfl) (fun _ _ _ h => h) ?_ ?_
  rotate_left
  · first | (refine Or.inl ⟨by rfl, fun W hS => detR_value (w' := W) ?_ (Below.refl _ _)⟩; obtain ⟨hH, q1⟩ := hS; obtain ⟨x0, x1, x2, x3, x4, x5, x6, _⟩ := hH.1; go_simp; first | done | with_reducible rfl) | fail
  simp only [Act.put, List.setIfInBounds_toArray, List.set_cons_zero, List.set_cons_succ]
  refine takeW (i := 15) (v := ?_) (Stable.and (Stable.held _ _) (stable_blkN (w.heap.size + 1 + 1 + 1) 31 3)) rfl (by kernel_rfl) (by kernel_rfl) (by kernel_rfl) (fun _ _ _ h => h) ?_ ?_
  rotate_left
  · first | (refine Or.inl ⟨by rfl, fun W hS => detR_value (w' := W) ?_ (Below.refl _ _)⟩; obtain ⟨hH, q1⟩ := hS; obtain ⟨x0, x1, x2, x3, x4, x5, x6, _⟩ := hH.1; go_simp; first | done | with_reducible rfl) | fail
  simp only [Act.put, List.setIfInBounds_toArray, List.set_cons_zero, List.set_cons_succ]
  refine takeW (i := 16) (v := ?_) (Stable.and (Stable.held _ _) (stable_blkN (w.heap.size + 1 + 1 + 1) 31 3)) rfl (by kernel_rfl) (by kernel_rfl) (by kernel_rfl) (fun _ _ _ h => h) ?_ ?_
  rotate_left
  · first | (refine Or.inl ⟨by rfl, fun W hS => detR_value (w' := W) ?_ (Below.refl _ _)⟩; obtain ⟨hH, q1⟩ := hS; obtain ⟨x0, x1, x2, x3, x4, x5, x6, _⟩ := hH.1; go_simp; first | done | with_reducible rfl) | fail
  simp only [Act.put, List.setIfInBounds_toArray, List.set_cons_zero, List.set_cons_succ]
  refine takeW (i := 17) (v := ?_) (Stable.and (Stable.held _ _) (stable_blkN (w.heap.size + 1 + 1 + 1) 31 3)) rfl (by kernel_rfl) (by kernel_rfl) (by kernel_rfl) (fun _ _ _ h => h) ?_ ?_
  rotate_left
  · first | (refine Or.inl ⟨by rfl, fun W hS => ?_⟩; obtain ⟨hH, q1⟩ := hS; refine detR_call (w' := W) (f := ?_) (args := ?_) ?_ ?_; rotate_left 2; (go_simp; (refine ⟨?_, ?_⟩ <;> with_reducible rfl)); (first | (with_reducible refine (HM3.out _ (held_one hH)).mono ?_) | fail); (first | (rintro e wn ⟨rfl, hb⟩; refine ⟨?_, hb⟩; with_reducible rfl) | (rintro e wn ⟨rfl, rfl⟩; refine ⟨?_, Below.refl _ _⟩; with_reducible rfl) | fail)) | fail
  simp only [Act.put, List.setIfInBounds_toArray, List.set_cons_zero, List.set_cons_succ]
  refine takeW (i := 18) (v := ?_) (Stable.and (Stable.held _ _) (stable_blkN (w.heap.size + 1 + 1 + 1) 31 3)) rfl (by kernel_rfl) (by kernel_rfl) (by kernel_rfl) (fun _ _ _ h => h) ?_ ?_
  rotate_left
  · first | (refine Or.inl ⟨by rfl, fun W hS => detR_value (w' := W) ?_ (Below.refl _ _)⟩; obtain ⟨hH, q1⟩ := hS; obtain ⟨x0, x1, x2, x3, x4, x5, x6, _⟩ := hH.1; go_simp; first | done | with_reducible rfl) | fail
  simp only [Act.put, List.setIfInBounds_toArray, List.set_cons_zero, List.set_cons_succ]
  refine storeK (i := 19) (b := w.heap.size + 1 + 1 + 1) #[.int .i64 m1, .int .i64 m2, .int .i64 m3] (Stable.and (Stable.held _ _) (stable_blkN (w.heap.size + 1 + 1 + 1) 31 3)) (fun W hS => by obtain ⟨hH, q1⟩ := hS; exact q1) (fun W hS => by obtain ⟨hH, q1⟩ := hS; exact ⟨hH.setRowAt (by simp; omega) (by omega) _, q1.setRow rfl⟩) rfl (by kernel_rfl) (by rfl) rfl (by rfl) (by rfl) rfl (by kernel_rfl) (by simp [Value.oneCell']) ?_
  simp only [Act.put, List.setIfInBounds_toArray, List.set_cons_zero, List.set_cons_succ]
  refine takeW (i := 20) (v := ?_) (Stable.and (Stable.and (Stable.held _ _) (stable_blkN (w.heap.size + 1 + 1 + 1) 31 3)) (stable_blkIs _ _ _)) rfl (by kernel_rfl) (by kernel_rfl) (by kernel_rfl) (fun _ _ _ h => h) ?_ ?_
  rotate_left
  · first | (refine Or.inl ⟨by rfl, fun W hS => detR_value (w' := W) ?_ (Below.refl _ _)⟩; obtain ⟨⟨hH, q1⟩, hs⟩ := hS; obtain ⟨x0, x1, x2, x3, x4, x5, x6, _⟩ := hH.1; go_simp; first | done | with_reducible rfl) | fail
  simp only [Act.put, List.setIfInBounds_toArray, List.set_cons_zero, List.set_cons_succ]
  refine doneW (by kernel_rfl) fun wH7 HG => ?_
  obtain ⟨⟨hH, q1⟩, hs⟩ := HG
  have H7 := Lib.hid hH; clear hH
  have MH7_q1 := Lib.hid q1; clear q1
  have MH7_s := Lib.hid hs; clear hs
  try clear x0 x1 x2 x3 x4 x5 x6
  have r0 := (cell_of_cells (k := 0) MH7_s.out).trans (rfl : _ = some (Value.int .i64 m1))
  have r1 := (cell_of_cells (k := 1) MH7_s.out).trans (rfl : _ = some (Value.int .i64 m2))
  have r2 := (cell_of_cells (k := 2) MH7_s.out).trans (rfl : _ = some (Value.int .i64 m3))
  go_wp2_with fail
  refine bodyPost_ret (v := .tuple #[.agg #[.int .i64 m1, .int .i64 m2, .int .i64 m3], .bool true]) (by simp [results, Try.results17, go_sem, r0, r1, r2]) rfl ⟨rfl, H7.out.below⟩
end Go.Proofs.Ytghpbdgghliieaa
