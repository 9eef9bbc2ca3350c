/-
  What DrawNodes returns: three valid nodes.
-/
import Derived.Test.YtemblmcfbonjoaaNodeD
import Derived.Deep.RegionHeld3
namespace Go.Proofs.Ytemblmcfbonjoaa
open Go.RowKit
set_option linter.unusedVariables false
set_option linter.unusedSimpArgs false

def ThreeNd (w : World) (e : Ending) (w' : World) : Prop :=
  ∃ a b c : Nd, okB a = true ∧ okB b = true ∧ okB c = true ∧ e = .returned (.tuple #[a.val, b.val, c.val]) ∧ Below w.heap.size w w'

/-- The three cells of the results, still empty. -/
def Res3 (T : TypeId) (w W : World) : Prop :=
  W.heap[w.heap.size]? = some (.cells #[.int .i64 0, .int .i64 0] T (0, 0)) ∧ W.heap[w.heap.size + 1]? = some (.cells #[.int .i64 0, .int .i64 0] T (0, 0)) ∧
  W.heap[w.heap.size + 1 + 1]? = some (.cells #[.int .i64 0, .int .i64 0] T (0, 0)) ∧ Below w.heap.size w W ∧ w.heap.size + 1 + 1 + 1 < W.heap.size
theorem Res3.goes {T : TypeId} {w W W' : World} (h : Res3 T w W) (hg : Goes (w.heap.size + 1 + 1 + 1) W W') : Res3 T w W' := by
  obtain ⟨h0, h1, h2, hb, hz⟩ := h
  have hs := hg.size
  exact ⟨hg.heap h0 (by omega), hg.heap h1 (by omega), hg.heap h2 (by omega), Goes.below hb hg (by omega) (by omega), by omega⟩
theorem Res3.alloc {T : TypeId} {w W : World} (h : Res3 T w W) (o : Obj) : Res3 T w (W.alloc o) := h.goes ((Goes.refl _ _).alloc o)
theorem Res3.drew {T : TypeId} {w W : World} (h : Res3 T w W) : Res3 T w W.drew := h.goes ((Goes.refl _ _).drew)

theorem Res3.cells {T : TypeId} {w W : World} (h : Res3 T w W) :
    ((W.cell? ⟨w.heap.size, 0, none⟩ = some (.int .i64 0) ∧ W.cell? ⟨w.heap.size, 1, none⟩ = some (.int .i64 0)) ∧ (W.cell? ⟨w.heap.size + 1, 0, none⟩ = some (.int .i64 0) ∧ W.cell? ⟨w.heap.size + 1, 1, none⟩ = some (.int .i64 0)) ∧ (W.cell? ⟨w.heap.size + 1 + 1, 0, none⟩ = some (.int .i64 0) ∧ W.cell? ⟨w.heap.size + 1 + 1, 1, none⟩ = some (.int .i64 0))) ∧
    ((W.frozen? ⟨w.heap.size, 0, none⟩ = false ∧ W.frozen? ⟨w.heap.size, 1, none⟩ = false) ∧ (W.frozen? ⟨w.heap.size + 1, 0, none⟩ = false ∧ W.frozen? ⟨w.heap.size + 1, 1, none⟩ = false) ∧ (W.frozen? ⟨w.heap.size + 1 + 1, 0, none⟩ = false ∧ W.frozen? ⟨w.heap.size + 1 + 1, 1, none⟩ = false)) := by
  obtain ⟨h0, h1, h2, _, _⟩ := h
  exact ⟨⟨⟨(cell_of_cells h0).trans rfl, (cell_of_cells h0).trans rfl⟩, ⟨(cell_of_cells h1).trans rfl, (cell_of_cells h1).trans rfl⟩, ⟨(cell_of_cells h2).trans rfl, (cell_of_cells h2).trans rfl⟩⟩,
    ⟨⟨free_of_cells h0, free_of_cells h0⟩, ⟨free_of_cells h1, free_of_cells h1⟩, ⟨free_of_cells h2, free_of_cells h2⟩⟩⟩
theorem goes_cells {b k : Nat} {W W' : World} {x y : Value} (hg : Goes b W W') (hk : k ≠ b) (h0 : W.cell? ⟨k, 0, none⟩ = some x) (h1 : W.cell? ⟨k, 1, none⟩ = some y) : W'.cell? ⟨k, 0, none⟩ = some x ∧ W'.cell? ⟨k, 1, none⟩ = some y :=
  ⟨World.grownBy.cell hg h0 (fun e => hk (by injection e)), World.grownBy.cell hg h1 (fun e => hk (by injection e))⟩

theorem drawNodes_any {w : World} {a : Option Addr} {len cap : Nat} (h : BytesAt w.heap.size w a len) :
    Calls Try.prog 16 #[.slice a len cap] w (ThreeNd w) := by
  have hw3 : ∀ o1 o2 o3 : Obj, BytesAt w.heap.size (((w.alloc o1).alloc o2).alloc o3) a len := fun o1 o2 o3 =>
    h.keep fun k hk => (below3 w o1 o2 o3).block k hk
  have HY := Lib.hid hw3; clear hw3 h
  go_enter Try.func16, Try.ntmps16
  go_wp2_with fail
  refine (l01New_any (B := w.heap.size) (by simp; omega) (HY.out _ _ _)).mono ?_
  rintro e w1 ⟨rfl, hb1, hz1, hc1⟩
  have hr1 : Res3 25 w w1 := by
    have e : ∀ o1 o2 o3 : Obj, (((w.alloc o1).alloc o2).alloc o3).heap.size = w.heap.size + 1 + 1 + 1 := fun _ _ _ => by simp
    have k := hb1.block
    simp only [e] at k hz1
    refine ⟨(k _ (by omega)).trans ?_, (k _ (by omega)).trans ?_, (k _ (by omega)).trans ?_, (below3 w _ _ _).trans (hb1.mono (by simp; omega)), by omega⟩
    · rw [Below.heap_alloc _ _ _ (by simp; omega), Below.heap_alloc _ _ _ (by simp)]; exact heap_alloc_new _ _
    · rw [Below.heap_alloc _ _ _ (by simp)]
      have := heap_alloc_new (w.alloc (.cells #[.int .i64 0, .int .i64 0] 25)) (.cells #[.int .i64 0, .int .i64 0] 25)
      simpa using this
    · have := heap_alloc_new ((w.alloc (.cells #[.int .i64 0, .int .i64 0] 25)).alloc (.cells #[.int .i64 0, .int .i64 0] 25)) (.cells #[.int .i64 0, .int .i64 0] 25)
      simpa using this
  have HR1 := Lib.hid hr1; clear hr1 hb1 hz1
  have hc1' : Cur 99 w.heap.size w1 (w.heap.size + 1 + 1 + 1) := by simpa using hc1
  have HC1 := Lib.hid hc1'; clear hc1 hc1'
  go_wp2_with fail
  refine (l02Node_any HC1.out).mono ?_
  rintro e w2 ⟨⟨ax, ay⟩, hax, hay, rfl, hc2, hg2⟩
  have HR2 := Lib.hid (HR1.out.goes hg2)
  have HC2 := Lib.hid hc2; clear hc2 hg2
  unfold Nd.val
  go_wp2_with fail
  refine (l02Node_any (HC2.out.alloc _)).mono ?_
  rintro e w3 ⟨⟨bx, by'⟩, hbx, hby, rfl, hc3, hg3⟩
  have hlt2 := HC2.out.lt
  have hblk : w3.heap[w2.heap.size]? = some (.cells #[.int .i64 ax, .int .i64 ay] 25 (0, 0)) := hg3.heap (heap_alloc_new _ _) (by omega)
  have HR3 := Lib.hid ((HR2.out.alloc _).goes hg3)
  have HC3 := Lib.hid hc3; clear hc3
  have hs23 : w2.heap.size < w3.heap.size := by have := hg3.size; simp at this; omega
  clear hg3
  unfold Nd.val
  have ca0 : w3.cell? ⟨w2.heap.size, 0, none⟩ = some (.int .i64 ax) := by rw [cell_of_cells hblk]; rfl
  have ca1 : w3.cell? ⟨w2.heap.size, 1, none⟩ = some (.int .i64 ay) := by rw [cell_of_cells hblk]; rfl
  clear hblk
  have hlt3 := HC3.out.lt
  have w4a : ∀ o : Obj, ((w3.alloc o).drew).cell? ⟨w2.heap.size, 0, none⟩ = some (.int .i64 ax) := fun o => by go_simp
  have w4b : ∀ o : Obj, ((w3.alloc o).drew).cell? ⟨w2.heap.size, 1, none⟩ = some (.int .i64 ay) := fun o => by go_simp
  have w4c : ((w3.alloc (.cells #[.int .i64 bx, .int .i64 by'] 25)).drew).cell? ⟨w3.heap.size, 0, none⟩ = some (.int .i64 bx) := by go_simp
  have w4d : ((w3.alloc (.cells #[.int .i64 bx, .int .i64 by'] 25)).drew).cell? ⟨w3.heap.size, 1, none⟩ = some (.int .i64 by') := by go_simp
  have HA4 := Lib.hid (And.intro (w4a (.cells #[.int .i64 bx, .int .i64 by'] 25)) (w4b (.cells #[.int .i64 bx, .int .i64 by'] 25)))
  have HB4 := Lib.hid (And.intro w4c w4d)
  clear w4a w4b w4c w4d
  have HCd : Hid (Cur 99 w.heap.size ((w3.alloc (.cells #[.int .i64 bx, .int .i64 by'] 25)).drew) (w.heap.size + 1 + 1 + 1)) := HC3.out.alloc _
  have HRd : Hid (Res3 25 w ((w3.alloc (.cells #[.int .i64 bx, .int .i64 by'] 25)).drew)) := (HR3.out.alloc _).drew
  have n2 : w2.heap.size ≠ w.heap.size + 1 + 1 + 1 := by have := HR2.out.2.2.2.2; omega
  have n3 : w3.heap.size ≠ w.heap.size + 1 + 1 + 1 := by have := HR3.out.2.2.2.2; omega
  have N2 := Lib.hid n2; clear n2
  have N3 := Lib.hid n3; clear n3
  have z2 : w.heap.size + 1 + 1 + 1 < w2.heap.size := HR2.out.2.2.2.2
  have z3 : w.heap.size + 1 + 1 + 1 < w3.heap.size := HR3.out.2.2.2.2
  have mw20 : ¬ w2.heap.size = w.heap.size := by omega
  have nw20 : ¬ w.heap.size = w2.heap.size := by omega
  have mw21 : ¬ w2.heap.size = w.heap.size + 1 := by omega
  have nw21 : ¬ w.heap.size + 1 = w2.heap.size := by omega
  have mw22 : ¬ w2.heap.size = w.heap.size + 1 + 1 := by omega
  have nw22 : ¬ w.heap.size + 1 + 1 = w2.heap.size := by omega
  have mw30 : ¬ w3.heap.size = w.heap.size := by omega
  have nw30 : ¬ w.heap.size = w3.heap.size := by omega
  have mw31 : ¬ w3.heap.size = w.heap.size + 1 := by omega
  have nw31 : ¬ w.heap.size + 1 = w3.heap.size := by omega
  have mw32 : ¬ w3.heap.size = w.heap.size + 1 + 1 := by omega
  have nw32 : ¬ w.heap.size + 1 + 1 = w3.heap.size := by omega
  go_wp2_with fail
  go_region_held3 (fun w' => w'.cell? ⟨w2.heap.size, 0, none⟩ = some (.int .i64 ax) ∧ w'.cell? ⟨w2.heap.size, 1, none⟩ = some (.int .i64 ay) ∧ w'.cell? ⟨w3.heap.size, 0, none⟩ = some (.int .i64 bx) ∧ w'.cell? ⟨w3.heap.size, 1, none⟩ = some (.int .i64 by')) (first | go_keep | (refine ⟨?_, ?_, ?_, ?_⟩ <;> assumption)) (first | (go_at_call 54; refine (l02Node_any HCd.out).mono ?_; rintro e w4 ⟨⟨cx, cy⟩, hcx, hcy, rfl, hc4, hg4⟩; have HR4 := Lib.hid (HRd.out.goes hg4); obtain ⟨k0, k1⟩ := goes_cells hg4 N2.out HA4.out.1 HA4.out.2; obtain ⟨k2, k3⟩ := goes_cells hg4 N3.out HB4.out.1 HB4.out.2; clear hc4 hg4; obtain ⟨⟨⟨r0, r1⟩, ⟨r2, r3⟩, ⟨r4, r5⟩⟩, ⟨⟨f0, f1⟩, ⟨f2, f3⟩, ⟨f4, f5⟩⟩⟩ := HR4.out.cells; unfold Nd.val) | fail)
  all_goals
    go_wp2_with fail
    refine bodyPost_ret (v := .tuple #[.agg #[.int .i64 ax, .int .i64 ay], .agg #[.int .i64 bx, .int .i64 by'], .agg #[.int .i64 cx, .int .i64 cy]]) (by simp [results, Try.results16, go_sem, r0, r1, r2, r3, r4, r5]) rfl ?_
    refine ⟨⟨ax, ay⟩, ⟨bx, by'⟩, ⟨cx, cy⟩, (okB_iff _).2 ?_, (okB_iff _).2 ?_, (okB_iff _).2 ?_, rfl, ?_⟩
    · simp only at hax hay ⊢; omega
    · simp only at hbx hby ⊢; omega
    · simp only at hcx hcy ⊢; omega
    · exact ((((((HR4.out.2.2.2.1).setCell (Nat.le_refl _) _).setCell (Nat.le_refl _) _).setCell (by simp) _).setCell (by simp) _).setCell (by simp; omega) _).setCell (by simp; omega) _
end Go.Proofs.Ytemblmcfbonjoaa
