/-
  The laws' helpers on sheets with flaws.
-/
import Derived.Test.YtfppnaknnijobabLawW
import Derived.Test.YtfppnaknnijobabFlwP
import Derived.Test.YtfppnaknnijobabMix
namespace Go.Proofs.Ytfppnaknnijobab
open Go.RowKit
set_option linter.unusedVariables false
set_option linter.unusedSimpArgs false

/-- The value v reads as the sheet s with the spots xs. -/
def FlAt (w : World) (v : Value) (s : Nd) (xs : List Nd) : Prop := ∃ (A : Option Addr) (c : Nat), v = .agg #[.int .i64 s.x, .int .i64 s.y, .slice A xs.length c] ∧ Prs w (.slice A xs.length c) xs
theorem FlAt.step {w w' : World} {v : Value} {s : Nd} {xs : List Nd} (h : FlAt w v s xs) (hb : Below w.heap.size w w') : FlAt w' v s xs := by
  obtain ⟨A, c, rfl, h1⟩ := h
  exact ⟨A, c, rfl, h1.step hb⟩
theorem stable_fl (v : Value) (s : Nd) (xs : List Nd) : Stable fun W => FlAt W v s xs := fun _ _ h hb => h.step hb

theorem szFlawed_any (s : Nd) (xs : List Nd) (v : Value) (w : World) (hv : FlAt w v s xs) :
    Calls Try.prog 44 #[v, .int .i64 1048576] w (fun e w' => ∃ r : Int, e = .returned (.int .i64 r) ∧ (r < 0 ∨ 0 ≤ r ∧ xs.length ≤ 1048576) ∧ Below w.heap.size w w') := by
  obtain ⟨A, c, rfl, h1⟩ := hv
  have hlen := h1.len
  have HZ := Lib.hid (fun w => szNodeS_any xs.length c A 1048576 w (by omega) (by omega) hlen)
  have H0 := Lib.hid ((Held.none_ w).new2 w.heap.size rfl [.int .i64 s.x, .int .i64 s.y, .slice A xs.length c] 70)
  clear h1
  by_cases hb : (1048576 : Int) < xs.length
  · rw [if_pos hb] at HZ
    go_enter Try.func44, Try.ntmps44
    go_wp2_with fail
    refine (HZ.out _).mono ?_
    rintro e w1 ⟨rfl, rfl⟩
    go_wp2_with fail
    go_ret
    exact ⟨-1, rfl, by omega, H0.out.below⟩
  · rw [if_neg hb] at HZ
    go_enter Try.func44, Try.ntmps44
    go_wp2_with fail
    refine (HZ.out _).mono ?_
    rintro e w1 ⟨rfl, rfl⟩
    go_wp2_with fail
    go_ret
    exact ⟨_, rfl, by omega, H0.out.below⟩

/-- A flawed sheet whose spots lie in blocks from B on. -/
def FlMine (w : World) (B : Nat) (v : Value) (s : Nd) (xs : List Nd) : Prop := ∃ (A : Option Addr) (c : Nat), v = .agg #[.int .i64 s.x, .int .i64 s.y, .slice A xs.length c] ∧ Mine w B 82 (.slice A xs.length c) xs

set_option maxRecDepth 100000 in
set_option maxHeartbeats 1000000 in
theorem toFlawed_own (s : Nd) (xs : List Nd) (v : Value) (w : World) (hv : FlAt w v s xs) (h1 : xs.length ≤ 1048576) :
    Calls Try.prog 46 #[v] w (fun e w' => ∃ v', e = .returned v' ∧ FlMine w' w.heap.size v' s xs ∧ Below w.heap.size w w') := by
  obtain ⟨A, c, rfl, hs⟩ := hv
  have HV := Lib.hid hs; clear hs
  obtain ⟨x, y⟩ := s
  simp only
  have HT := Lib.hid (toSheet_any ⟨x, y⟩)
  unfold PairIs Nd.val at HT
  simp only at HT
  have HU := Lib.hid (fun w hv => toNodeS_any xs (.slice A xs.length c) w hv h1)
  unfold MineIs at HU
  have HB3 := Lib.hid (blk3 w (.cells #[.int .i64 x, .int .i64 y, .slice A xs.length c] 70) (.cells #[.int .i64 0, .int .i64 0, .slice none 0 0] 75) (.cells #[.int .i64 0, .int .i64 0, .slice none 0 0] 75))
  have HBL := Lib.hid (below3 w (.cells #[.int .i64 x, .int .i64 y, .slice A xs.length c] 70) (.cells #[.int .i64 0, .int .i64 0, .slice none 0 0] 75) (.cells #[.int .i64 0, .int .i64 0, .slice none 0 0] 75))
  go_enter Try.func46, Try.ntmps46
  go_wp2_with fail
  refine (HT.out _).mono ?_
  rintro e w1 ⟨rfl, hb1⟩
  have hs1 := hb1.size
  have hsz : (((w.alloc (.cells #[.int .i64 x, .int .i64 y, .slice A xs.length c] 70)).alloc (.cells #[.int .i64 0, .int .i64 0, .slice none 0 0] 75)).alloc (.cells #[.int .i64 0, .int .i64 0, .slice none 0 0] 75)).heap.size = w.heap.size + 1 + 1 + 1 := by simp
  rw [hsz] at hs1
  have k0 := (hb1.block w.heap.size (by omega)).trans HB3.out.1
  have k1 := (hb1.block (w.heap.size + 1) (by omega)).trans HB3.out.2.1
  have k2 := (hb1.block (w.heap.size + 1 + 1) (by omega)).trans HB3.out.2.2
  have HB1 := Lib.hid (HBL.out.trans (hb1.mono (by omega))); clear hb1 hsz
  have x0 : w1.cell? ⟨w.heap.size, 0, none⟩ = some (.int .i64 x) := (cell_of_cells (k := 0) k0).trans rfl
  have x1 : w1.cell? ⟨w.heap.size, 1, none⟩ = some (.int .i64 y) := (cell_of_cells (k := 1) k0).trans rfl
  have x2 : w1.cell? ⟨w.heap.size, 2, none⟩ = some (.slice A xs.length c) := (cell_of_cells (k := 2) k0).trans rfl
  have z0 : w1.cell? ⟨w.heap.size + 1 + 1, 0, none⟩ = some (.int .i64 0) := (cell_of_cells (k := 0) k2).trans rfl
  have z1 : w1.cell? ⟨w.heap.size + 1 + 1, 1, none⟩ = some (.int .i64 0) := (cell_of_cells (k := 1) k2).trans rfl
  have f0 : w1.frozen? ⟨w.heap.size + 1 + 1, 0, none⟩ = false := free_of_cells (k := 0) k2
  have f1 : w1.frozen? ⟨w.heap.size + 1 + 1, 1, none⟩ = false := free_of_cells (k := 1) k2
  have K1 := Lib.hid k1; clear k1
  have K2 := Lib.hid k2; clear k2
  have K0 := Lib.hid k0; clear k0
  go_wp2_with fail
  have HBS := Lib.hid ((HB1.out.setCell (p := ⟨w.heap.size + 1 + 1, 0, none⟩) (by show w.heap.size ≤ w.heap.size + 1 + 1; omega) (.int .i64 x)).setCell (p := ⟨w.heap.size + 1 + 1, 1, none⟩) (by show w.heap.size ≤ w.heap.size + 1 + 1; omega) (.int .i64 y))
  have m2 := heap_setCell_self (k := 1) (heap_setCell_self (k := 0) K2.out (.int .i64 x)) (.int .i64 y)
  have m1 := (Below.heap_setCell (w1.setCell ⟨w.heap.size + 1 + 1, 0, none⟩ (.int .i64 x)) ⟨w.heap.size + 1 + 1, 1, none⟩ (.int .i64 y) (w.heap.size + 1) (by show w.heap.size + 1 ≠ w.heap.size + 1 + 1; omega)).trans ((Below.heap_setCell w1 ⟨w.heap.size + 1 + 1, 0, none⟩ (.int .i64 x) (w.heap.size + 1) (by show w.heap.size + 1 ≠ w.heap.size + 1 + 1; omega)).trans K1.out)
  have hsz2 : ((w1.setCell ⟨w.heap.size + 1 + 1, 0, none⟩ (.int .i64 x)).setCell ⟨w.heap.size + 1 + 1, 1, none⟩ (.int .i64 y)).heap.size = w1.heap.size := by rw [heap_setCell_size, heap_setCell_size]
  have M1 := Lib.hid m1; clear m1
  have M2 := Lib.hid m2; clear m2
  have HS2 := Lib.hid hsz2; clear hsz2
  clear x0 x1 x2 z0 z1 f0 f1
  generalize (w1.setCell ⟨w.heap.size + 1 + 1, 0, none⟩ (.int .i64 x)).setCell ⟨w.heap.size + 1 + 1, 1, none⟩ (.int .i64 y) = W2 at *
  refine (HU.out _ (HV.out.step HBS.out)).mono ?_
  rintro e w3 ⟨v3, rfl, hm3, hb3⟩
  have hs3 := hb3.size
  rw [HS2.out] at hs3 hm3
  have j1 := (hb3.block (w.heap.size + 1) (by rw [HS2.out]; omega)).trans M1.out
  have j2 := (hb3.block (w.heap.size + 1 + 1) (by rw [HS2.out]; omega)).trans M2.out
  have HB3' := Lib.hid (HBS.out.trans (hb3.mono HBS.out.size)); clear hb3
  have HM3 := Lib.hid hm3
  obtain ⟨A3, c3, rfl⟩ := hm3.form; clear hm3
  have y0 : w3.cell? ⟨w.heap.size + 1 + 1, 0, none⟩ = some (.int .i64 x) := (cell_of_cells (k := 0) j2).trans rfl
  have y1 : w3.cell? ⟨w.heap.size + 1 + 1, 1, none⟩ = some (.int .i64 y) := (cell_of_cells (k := 1) j2).trans rfl
  have y2 : w3.cell? ⟨w.heap.size + 1 + 1, 2, none⟩ = some (.slice none 0 0) := (cell_of_cells (k := 2) j2).trans rfl
  have f2 : w3.frozen? ⟨w.heap.size + 1 + 1, 2, none⟩ = false := free_of_cells (k := 2) j2
  have z0 : w3.cell? ⟨w.heap.size + 1, 0, none⟩ = some (.int .i64 0) := (cell_of_cells (k := 0) j1).trans rfl
  have z1 : w3.cell? ⟨w.heap.size + 1, 1, none⟩ = some (.int .i64 0) := (cell_of_cells (k := 1) j1).trans rfl
  have z2 : w3.cell? ⟨w.heap.size + 1, 2, none⟩ = some (.slice none 0 0) := (cell_of_cells (k := 2) j1).trans rfl
  have g0 : w3.frozen? ⟨w.heap.size + 1, 0, none⟩ = false := free_of_cells (k := 0) j1
  have g1 : w3.frozen? ⟨w.heap.size + 1, 1, none⟩ = false := free_of_cells (k := 1) j1
  have g2 : w3.frozen? ⟨w.heap.size + 1, 2, none⟩ = false := free_of_cells (k := 2) j1
  have J1 := Lib.hid j1; clear j1
  have J2 := Lib.hid j2; clear j2
  go_wp2_with fail
  have n0 := (Below.heap_setCell w3 ⟨w.heap.size + 1 + 1, 2, none⟩ (.slice A3 xs.length c3) (w.heap.size + 1) (by show w.heap.size + 1 ≠ w.heap.size + 1 + 1; omega)).trans J1.out
  have n1 := heap_setCell_self (k := 0) n0 (.int .i64 x)
  have n2 := heap_setCell_self (k := 1) n1 (.int .i64 y)
  have n3 := heap_setCell_self (k := 2) n2 (.slice A3 xs.length c3)
  have r0 := (cell_of_cells (k := 0) n3).trans (rfl : _ = some (Value.int .i64 x))
  have r1 := (cell_of_cells (k := 1) n3).trans (rfl : _ = some (Value.int .i64 y))
  have r2 := (cell_of_cells (k := 2) n3).trans (rfl : _ = some (Value.slice A3 xs.length c3))
  have hfar : ∀ g, w.heap.size + 1 + 1 + 1 ≤ g → ((((w3.setCell ⟨w.heap.size + 1 + 1, 2, none⟩ (.slice A3 xs.length c3)).setCell ⟨w.heap.size + 1, 0, none⟩ (.int .i64 x)).setCell ⟨w.heap.size + 1, 1, none⟩ (.int .i64 y)).setCell ⟨w.heap.size + 1, 2, none⟩ (.slice A3 xs.length c3)).heap[g]? = w3.heap[g]? := by
    intro g hg
    rw [Below.heap_setCell _ _ _ _ (by show g ≠ w.heap.size + 1; omega), Below.heap_setCell _ _ _ _ (by show g ≠ w.heap.size + 1; omega), Below.heap_setCell _ _ _ _ (by show g ≠ w.heap.size + 1; omega), Below.heap_setCell _ _ _ _ (by show g ≠ w.heap.size + 1 + 1; omega)]
  refine bodyPost_ret (v := .agg #[.int .i64 x, .int .i64 y, .slice A3 xs.length c3]) (by simp [results, Try.results46, go_sem, r0, r1, r2]) rfl ?_
  refine ⟨_, rfl, ⟨A3, c3, rfl, (HM3.out.keepAt fun g hg => hfar g (by omega)).mono (by omega)⟩, ?_⟩
  exact (((HB3'.out.setCell (p := ⟨_, _, none⟩) (by show w.heap.size ≤ w.heap.size + 1 + 1; omega) _).setCell (p := ⟨_, _, none⟩) (by show w.heap.size ≤ w.heap.size + 1; omega) _).setCell (p := ⟨_, _, none⟩) (by show w.heap.size ≤ w.heap.size + 1; omega) _).setCell (p := ⟨_, _, none⟩) (by show w.heap.size ≤ w.heap.size + 1; omega) _

theorem toFlawed_at (s : Nd) (xs : List Nd) (v : Value) (w : World) (hv : FlAt w v s xs) (h1 : xs.length ≤ 1048576) :
    Calls Try.prog 46 #[v] w (fun e w' => ∃ v', e = .returned v' ∧ FlAt w' v' s xs ∧ Below w.heap.size w w') :=
  (toFlawed_own s xs v w hv h1).mono fun e w' ⟨v', he, ⟨A, c, h2, h3⟩, hb⟩ => ⟨v', he, ⟨A, c, h2, h3.prs⟩, hb⟩

theorem eqSheet_yes (n : Nd) (w : World) :
    Calls Try.prog 85 #[n.val, n.val] w (BoolIs true w) := by
  obtain ⟨x, y⟩ := n
  unfold Nd.val
  go_enter Try.func85, Try.ntmps85
  go_wp2_with fail
  go_ret
  exact ⟨rfl, below2 w _ _⟩

theorem eqFlawed_at (s : Nd) (xs : List Nd) (v u : Value) (w : World) (hv : FlAt w v s xs) (hu : FlAt w u s xs) :
    Calls Try.prog 48 #[v, u] w (BoolIs true w) := by
  obtain ⟨A, c, rfl, h1⟩ := hv
  obtain ⟨A2, c2, rfl, h2⟩ := hu
  have HE := Lib.hid (fun w a b => eqNodeS_yes xs (.slice A xs.length c) (.slice A2 xs.length c2) w a b)
  have P1 := Lib.hid h1
  have P2 := Lib.hid h2
  clear h1 h2
  obtain ⟨x, y⟩ := s
  simp only
  have HF := Lib.hid (eqSheet_yes ⟨x, y⟩)
  unfold Nd.val at HF
  simp only at HF
  have H0 := Lib.hid (((Held.none_ w).new2 w.heap.size rfl [.int .i64 x, .int .i64 y, .slice A xs.length c] 75).new2 (w.heap.size + 1) (by simp) [.int .i64 x, .int .i64 y, .slice A2 xs.length c2] 75)
  simp only [newFs, List.cons_append, List.nil_append, List.append_nil] at H0
  obtain ⟨x0, x1, x2, x3, x4, x5, _⟩ := H0.out.1
  go_enter Try.func48, Try.ntmps48
  go_wp2_with fail
  refine (HF.out _).mono ?_
  rintro e wH1 ⟨rfl, hb⟩
  have H1 := Lib.hid ((H0.out).step hb); clear hb
  try clear x0 x1 x2 x3 x4 x5
  obtain ⟨x0, x1, x2, x3, x4, x5, _⟩ := H1.out.1
  go_wp2_with fail
  refine (HE.out _ (P1.out.step H1.out.below) (P2.out.step H1.out.below)).mono ?_
  rintro e wH2 ⟨rfl, hb⟩
  have H2 := Lib.hid ((H1.out).step hb); clear hb
  try clear x0 x1 x2 x3 x4 x5
  obtain ⟨x0, x1, x2, x3, x4, x5, _⟩ := H2.out.1
  go_wp2_with fail
  go_ret
  exact ⟨rfl, H2.out.below⟩
end Go.Proofs.Ytfppnaknnijobab
