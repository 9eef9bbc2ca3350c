/-
  The head of a group, and the join of two groups, of the program: over nodes and over ints.
-/
import Derived.Test.YtmcbbjobjogkmaaGreatUfM
import Derived.Test.YtmcbbjobjogkmaaGreatDet2
import Derived.Test.YtmcbbjobjogkmaaGreatAppP
import Derived.Test.YtmcbbjobjogkmaaGreatG1
namespace Go.Proofs.YtmcbbjobjogkmaaGreat
open Go.RowKit Go.Maps
set_option linter.unusedVariables false
set_option linter.unusedSimpArgs false

/-- Block b holds the node n. -/
def NQ (W : World) (b : Nat) (n : Nd) : Prop := W.heap[b]? = some (.cells #[.int .i64 n.x, .int .i64 n.y] 75)

section

variable {W W' : World} {b g : Nat} {n : Nd}

theorem NQ.lt (h : NQ W b n) : b < W.heap.size := lt_of_block h

theorem NQ.cells (h : NQ W b n) : W.cell? ⟨b, 0, none⟩ = some (.int .i64 n.x) ∧ W.cell? ⟨b, 1, none⟩ = some (.int .i64 n.y) ∧ W.frozen? ⟨b, 0, none⟩ = false ∧ W.frozen? ⟨b, 1, none⟩ = false := by
  unfold NQ at h
  refine ⟨(cell_of_cells (k := 0) h).trans rfl, (cell_of_cells (k := 1) h).trans rfl, ?_, ?_⟩ <;> simp [World.frozen?, h]

theorem NQ.new (W : World) (b : Nat) (hb : b = W.heap.size) (n : Nd) : NQ (W.alloc (.cells #[.int .i64 n.x, .int .i64 n.y] 75)) b n := by subst hb; exact heap_alloc_new W _

theorem NQ.step (h : NQ W b n) (hb : Below W.heap.size W W') : NQ W' b n := (hb.block _ h.lt).trans h

theorem NQ.put (h : NQ W b n) (x y : Int) : NQ ((W.setCell ⟨b, 0, none⟩ (.int .i64 x)).setCell ⟨b, 1, none⟩ (.int .i64 y)) b ⟨x, y⟩ := by
  have m0 := heap_setCell_self (k := 0) h (.int .i64 x)
  have m1 := heap_setCell_self (k := 1) m0 (.int .i64 y)
  exact m1

theorem NQ.far (h : NQ W b n) (hne : b ≠ g) (x y : Int) : NQ ((W.setCell ⟨g, 0, none⟩ (.int .i64 x)).setCell ⟨g, 1, none⟩ (.int .i64 y)) b n :=
  (Below.heap_setCell _ _ _ _ hne).trans ((Below.heap_setCell _ _ _ _ hne).trans h)

end

/-- The node that lies in a block. -/
def ndAt (W : World) (b : Nat) : Nd := ⟨intOf ((W.cell? ⟨b, 0, none⟩).getD undef), intOf ((W.cell? ⟨b, 1, none⟩).getD undef)⟩

theorem NQ.nd {W : World} {b : Nat} {n : Nd} (h : NQ W b n) : ndAt W b = n := by
  unfold ndAt
  rw [h.cells.1, h.cells.2.1]
  rfl

theorem below_set2 {g : Nat} {w W : World} (h : Below w.heap.size w W) (hg : w.heap.size ≤ g) (x y : Value) : Below w.heap.size w ((W.setCell ⟨g, 0, none⟩ x).setCell ⟨g, 1, none⟩ y) := below_setCell (below_setCell h hg) hg

set_option maxRecDepth 100000 in
set_option maxHeartbeats 4000000 in
theorem implHeadN (J : List (Nd × Nd)) (b : Nat) (x : Nd) (w : World) (hm : UfMap 75 Nd.val w b J) (hok : JOk J) (hfl : FiledJ 75 Nd.val J) (hx : ∃ l, keyOf Tryz.prog 75 x.val = some l) :
    Calls Tryz.prog 104 #[.map (some b), x.val] w (fun e w' => e = .returned (hdJ J x).val ∧ Below w.heap.size w w') := by
  have HM := Lib.hid hm; clear hm
  have HOK := Lib.hid hok; clear hok
  have HFL := Lib.hid hfl; clear hfl
  have HX := Lib.hid hx; clear hx
  obtain ⟨hd, hhd⟩ : ∃ h, h = hdJ J x := ⟨_, rfl⟩
  rw [← hhd]
  have HH := Lib.hid hhd; clear hhd
  obtain ⟨x1, x2⟩ := x
  have M0 := Lib.hid (NQ.new w w.heap.size rfl ⟨x1, x2⟩)
  have R0 := Lib.hid (NQ.new (w.alloc (.cells #[.int .i64 x1, .int .i64 x2] 75)) (w.heap.size + 1) (by simp) ⟨0, 0⟩)
  have M1 := Lib.hid (M0.out.step (below_alloc _ (.cells #[.int .i64 0, .int .i64 0] 75)))
  have B0 := Lib.hid (((Below.refl w.heap.size w).alloc (Nat.le_refl _) (.cells #[.int .i64 x1, .int .i64 x2] 75)).alloc (by simp) (.cells #[.int .i64 0, .int .i64 0] 75))
  clear M0
  unfold Nd.val
  go_enter Tryz.func104, Tryz.ntmps104
  go_wp2_with fail
  go_loopw [6] (fun v6 wr => ∃ c : Nd, hdJ J c = hd ∧ (∃ l, keyOf Tryz.prog 75 c.val = some l) ∧ NQ wr w.heap.size c ∧ NQ wr (w.heap.size + 1) ⟨0, 0⟩ ∧ Below w.heap.size w wr) (fun _ wr => depJ J (ndAt wr w.heap.size))
  case atStart => exact ⟨⟨x1, x2⟩, HH.out.symm, HX.out, M1.out, R0.out, B0.out⟩
  case round =>
    clear M1 R0 B0 HX
    obtain ⟨c, hc, hk, hm, hr, hb⟩ := hrel
    have HC := Lib.hid hc; clear hc
    have M1 := Lib.hid hm; clear hm
    have R1 := Lib.hid hr; clear hr
    have HB := Lib.hid hb; clear hb
    obtain ⟨l, hl⟩ := hk
    have HKL := Lib.hid hl; clear hl
    have HMW := Lib.hid (HM.out.step HB.out)
    cases hlk : lookJ J c with
    | none =>
      have hrun := HMW.out.none_ keyIsNd HKL.out hlk
      have HROOT := Lib.hid (lookJ_none HOK.out c hlk)
      clear hlk
      obtain ⟨cx, cy⟩ := c
      unfold Nd.val at hrun
      simp only at hrun
      obtain ⟨e0, e1, f0, f1⟩ := M1.out.cells
      obtain ⟨e2, e3, f2, f3⟩ := R1.out.cells
      have n1 := M1.out.lt
      have n2 := R1.out.lt
      simp only at e0 e1 e2 e3
      go_wp2_with fail
      have K := (R1.out.put cx cy).step (below_alloc _ (.cells #[.int .i64 0, .int .i64 0] 75))
      obtain ⟨r0, r1, -, -⟩ := K.cells
      refine bodyPost_ret (v := .agg #[.int .i64 cx, .int .i64 cy]) (by simp [results, Tryz.results104, go_sem, r0, r1]) rfl ⟨?_, ?_⟩
      · rw [← HC.out, HROOT.out]
      · exact (below_set2 HB.out (by omega) _ _).alloc (by rw [heap_setCell_size, heap_setCell_size]; omega) _
    | some y =>
      have hrun := HMW.out.some_ keyIsNd HKL.out hlk
      have HNX := Lib.hid (lookJ_some HOK.out c y hlk)
      have HKY := Lib.hid (HFL.out.look hlk)
      clear hlk
      have HMS := Lib.hid (M1.out.nd)
      obtain ⟨cx, cy⟩ := c
      obtain ⟨yx, yy⟩ := y
      unfold Nd.val at hrun
      simp only at hrun
      obtain ⟨e0, e1, f0, f1⟩ := M1.out.cells
      obtain ⟨e2, e3, f2, f3⟩ := R1.out.cells
      have n1 := M1.out.lt
      have n2 := R1.out.lt
      simp only at e0 e1 e2 e3
      go_wp2_with fail
      have K := (M1.out.put yx yy).step (below_alloc _ (.cells #[.int .i64 yx, .int .i64 yy] 75))
      refine ⟨⟨⟨yx, yy⟩, HNX.out.1.trans HC.out, HKY.out, K, (R1.out.far (g := w.heap.size) (by omega) yx yy).step (below_alloc _ _), (below_set2 HB.out (Nat.le_refl _) _ _).alloc (by rw [heap_setCell_size, heap_setCell_size]; omega) _⟩, ?_⟩
      rw [K.nd, HMS.out]
      have := HNX.out.2
      omega

set_option maxRecDepth 100000 in
set_option maxHeartbeats 4000000 in
theorem implHeadI (J : List (Int × Int)) (b : Nat) (x : Int) (w : World) (hm : UfMap 3 intV w b J) (hok : JOk J) (hfl : FiledJ 3 intV J) (hx : ∃ l, keyOf Tryz.prog 3 (intV x) = some l) :
    Calls Tryz.prog 132 #[.map (some b), .int .i64 x] w (fun e w' => e = .returned (.int .i64 (hdJ J x)) ∧ Below w.heap.size w w') := by
  have HM := Lib.hid hm; clear hm
  have HOK := Lib.hid hok; clear hok
  have HFL := Lib.hid hfl; clear hfl
  have HX := Lib.hid hx; clear hx
  obtain ⟨hd, hhd⟩ : ∃ h, h = hdJ J x := ⟨_, rfl⟩
  rw [← hhd]
  have HH := Lib.hid hhd; clear hhd
  go_enter Tryz.func132, Tryz.ntmps132
  go_wp2_with fail
  go_loopw [1] (fun v1 wr => ∃ c : Int, v1 = .int .i64 c ∧ hdJ J c = hd ∧ (∃ l, keyOf Tryz.prog 3 (intV c) = some l) ∧ wr = w) (fun v1 wr => depJ J (intOf v1))
  case atStart => exact ⟨x, rfl, HH.out.symm, HX.out, rfl⟩
  case round =>
    clear HX
    obtain ⟨c, rfl, hc, hk, rfl⟩ := hrel
    have HC := Lib.hid hc; clear hc
    obtain ⟨l, hl⟩ := hk
    have HKL := Lib.hid hl; clear hl
    cases hlk : lookJ J c with
    | none =>
      have hrun := HM.out.none_ keyIsInt HKL.out hlk
      have HROOT := Lib.hid (lookJ_none HOK.out c hlk)
      clear hlk
      unfold intV at hrun
      go_wp2_with fail
      go_ret
      exact ⟨by rw [← HC.out, HROOT.out]; rfl, Below.refl _ _⟩
    | some y =>
      have hrun := HM.out.some_ keyIsInt HKL.out hlk
      have HNX := Lib.hid (lookJ_some HOK.out c y hlk)
      have HKY := Lib.hid (HFL.out.look hlk)
      clear hlk
      unfold intV at hrun
      go_wp2_with fail
      exact ⟨⟨y, rfl, HNX.out.1.trans HC.out, HKY.out, by first | rfl | trivial⟩, by have := HNX.out.2; simp [intOf]; omega⟩
end Go.Proofs.YtmcbbjobjogkmaaGreat
