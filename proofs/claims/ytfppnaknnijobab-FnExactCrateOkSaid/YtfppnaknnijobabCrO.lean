/-
  The laws' helpers on crates (a slice of ints and an int), and what holds of a value that reads as a crate.
-/
import Derived.Test.YtfppnaknnijobabMarkB
import Derived.Test.YtfppnaknnijobabLawW
import Derived.Test.YtfppnaknnijobabTri
namespace Go.Proofs.Ytfppnaknnijobab
open Go.RowKit
set_option linter.unusedVariables false
set_option linter.unusedSimpArgs false

/-- The value v reads as the crate of the ints ps and the limit l. -/
def CrAt (w : World) (v : Value) (ps : List Int) (l : Int) : Prop := ∃ (A : Option Addr) (c : Nat), v = .agg #[.slice A ps.length c, .int .i64 l] ∧ Seq w (.slice A ps.length c) ps
theorem CrAt.step {w w' : World} {v : Value} {ps : List Int} {l : Int} (h : CrAt w v ps l) (hb : Below w.heap.size w w') : CrAt w' v ps l := by
  obtain ⟨A, c, rfl, h1⟩ := h
  exact ⟨A, c, rfl, h1.step hb⟩
theorem stable_cr (v : Value) (ps : List Int) (l : Int) : Stable fun W => CrAt W v ps l := fun _ _ h hb => h.step hb

theorem ints_keepC {w w' : World} {B : Nat} {v : Value} {xs : List Int} (h : Ints w B v xs) (hk : ∀ k, v.ownBlock = some k → w'.heap[k]? = w.heap[k]?) : Ints w' B v xs := by
  refine ⟨h.1, ?_⟩
  rcases h.2 with h0 | ⟨g, cap, cur, hv, hb, hg, r⟩
  · exact .inl h0
  · exact .inr ⟨g, cap, cur, hv, hb, (hk g (by rw [hv]; rfl)).trans hg, r⟩

theorem szInts_any (n c : Nat) (A : Option Addr) (left : Int) (w : World) (hl : 0 ≤ left) (hl2 : left ≤ 1048576) (hn : n ≤ 9223372036854775807) :
    Calls Try.prog 71 #[.slice A n c, .int .i64 left] w fun e w' => e = .returned (.int .i64 (if left < n then -1 else left - n)) ∧ w = w' := by
  generalize hr : (if left < (n : Int) then (-1 : Int) else left - n) = r
  have HR := Lib.hid hr; clear hr
  by_cases h : left < n
  · go_enter Try.func71, Try.ntmps71
    go_wp2_with fail
    go_ret
    exact ⟨ret_int (by rw [← HR.out, if_pos h]), rfl⟩
  · go_enter Try.func71, Try.ntmps71
    go_wp2_with fail
    go_ret
    exact ⟨ret_int (by rw [← HR.out, if_neg (by omega)]), rfl⟩

theorem szCrate_any (ps : List Int) (l : Int) (v : Value) (w : World) (hv : CrAt w v ps l) :
    Calls Try.prog 21 #[v, .int .i64 1048576] w (fun e w' => ∃ r : Int, e = .returned (.int .i64 r) ∧ (r < 0 ∨ 0 ≤ r ∧ ps.length ≤ 1048576) ∧ Below w.heap.size w w') := by
  obtain ⟨A, c, rfl, h1⟩ := hv
  have hlen := h1.len
  have HZ := Lib.hid (fun w => szInts_any ps.length c A 1048576 w (by omega) (by omega) hlen)
  have H0 := Lib.hid ((Held.none_ w).new2 w.heap.size rfl [.slice A ps.length c, .int .i64 l] 34)
  clear h1
  by_cases hb : (1048576 : Int) < ps.length
  · rw [if_pos hb] at HZ
    go_enter Try.func21, Try.ntmps21
    go_wp2_with fail
    refine (HZ.out _).mono ?_
    rintro e w1 ⟨rfl, rfl⟩
    go_wp2_with fail
    go_ret
    exact ⟨-1, rfl, by omega, H0.out.below⟩
  · rw [if_neg hb] at HZ
    go_enter Try.func21, Try.ntmps21
    go_wp2_with fail
    refine (HZ.out _).mono ?_
    rintro e w1 ⟨rfl, rfl⟩
    go_wp2_with fail
    go_ret
    exact ⟨_, rfl, by omega, H0.out.below⟩

set_option maxRecDepth 100000 in
theorem toCrate_at (ps : List Int) (l : Int) (v : Value) (w : World) (hv : CrAt w v ps l) (h1 : ps.length ≤ 1048576) :
    Calls Try.prog 24 #[v] w (fun e w' => ∃ v', e = .returned v' ∧ CrAt w' v' ps l ∧ Below w.heap.size w w') := by
  obtain ⟨A, c, rfl, hs⟩ := hv
  have HS := Lib.hid hs; clear hs
  have HT := Lib.hid (fun w hv => toIntS_any ps (.slice A ps.length c) w hv h1)
  unfold IntsNew at HT
  have hb3 := blk3 w (.cells #[.slice A ps.length c, .int .i64 l] 34) (.cells #[.slice none 0 0, .int .i64 0] 38) (.cells #[.slice none 0 0, .int .i64 0] 38)
  have HB3 := Lib.hid hb3; clear hb3
  have HBL := Lib.hid (below3 w (.cells #[.slice A ps.length c, .int .i64 l] 34) (.cells #[.slice none 0 0, .int .i64 0] 38) (.cells #[.slice none 0 0, .int .i64 0] 38))
  go_enter Try.func24, Try.ntmps24
  go_wp2_with fail
  refine (HT.out _ (HS.out.step HBL.out)).mono ?_
  rintro e w1 ⟨v1, rfl, hm1, hb1⟩
  have hs1 := hb1.size
  have hsz : (((w.alloc (.cells #[.slice A ps.length c, .int .i64 l] 34)).alloc (.cells #[.slice none 0 0, .int .i64 0] 38)).alloc (.cells #[.slice none 0 0, .int .i64 0] 38)).heap.size = w.heap.size + 1 + 1 + 1 := by simp
  rw [hsz] at hm1 hs1
  have k0 := (hb1.block w.heap.size (by omega)).trans HB3.out.1
  have k1 := (hb1.block (w.heap.size + 1) (by omega)).trans HB3.out.2.1
  have k2 := (hb1.block (w.heap.size + 1 + 1) (by omega)).trans HB3.out.2.2
  have HB1 := Lib.hid (HBL.out.trans (hb1.mono (by omega))); clear hb1 hsz
  have HM1 := Lib.hid hm1
  obtain ⟨A1, c1, rfl⟩ := seq_form2 hm1.seq; clear hm1
  have x0 : w1.cell? ⟨w.heap.size, 0, none⟩ = some (.slice A ps.length c) := (cell_of_cells k0).trans rfl
  have x1 : w1.cell? ⟨w.heap.size, 1, none⟩ = some (.int .i64 l) := (cell_of_cells k0).trans rfl
  have x2 : w1.cell? ⟨w.heap.size + 1 + 1, 0, none⟩ = some (.slice none 0 0) := (cell_of_cells k2).trans rfl
  have x3 : w1.cell? ⟨w.heap.size + 1 + 1, 1, none⟩ = some (.int .i64 0) := (cell_of_cells k2).trans rfl
  have x4 : w1.frozen? ⟨w.heap.size + 1 + 1, 0, none⟩ = false := free_of_cells k2
  have x5 : w1.frozen? ⟨w.heap.size + 1 + 1, 1, none⟩ = false := free_of_cells k2
  have y4 : w1.cell? ⟨w.heap.size + 1, 0, none⟩ = some (.slice none 0 0) := (cell_of_cells k1).trans rfl
  have y5 : w1.cell? ⟨w.heap.size + 1, 1, none⟩ = some (.int .i64 0) := (cell_of_cells k1).trans rfl
  have y6 : w1.frozen? ⟨w.heap.size + 1, 0, none⟩ = false := free_of_cells k1
  have y7 : w1.frozen? ⟨w.heap.size + 1, 1, none⟩ = false := free_of_cells k1
  have K1 := Lib.hid k1; clear k1
  have K2 := Lib.hid k2; clear k2
  have K0 := Lib.hid k0; clear k0
  go_wp2_with fail
  have m0 := (Below.heap_setCell (w1.setCell ⟨w.heap.size + 1 + 1, 0, none⟩ (.slice A1 ps.length c1)) ⟨w.heap.size + 1 + 1, 1, none⟩ (.int .i64 l) (w.heap.size + 1) (by show w.heap.size + 1 ≠ w.heap.size + 1 + 1; omega)).trans ((Below.heap_setCell w1 ⟨w.heap.size + 1 + 1, 0, none⟩ (.slice A1 ps.length c1) (w.heap.size + 1) (by show w.heap.size + 1 ≠ w.heap.size + 1 + 1; omega)).trans K1.out)
  have m1 := heap_setCell_self (k := 0) m0 (.slice A1 ps.length c1)
  have m2 := heap_setCell_self (k := 1) m1 (.int .i64 l)
  have r0 := (cell_of_cells (k := 0) m2).trans (rfl : _ = some (Value.slice A1 ps.length c1))
  have r1 := (cell_of_cells (k := 1) m2).trans (rfl : _ = some (Value.int .i64 l))
  have hfar : ∀ g, w.heap.size + 1 + 1 + 1 ≤ g → ((((w1.setCell ⟨w.heap.size + 1 + 1, 0, none⟩ (.slice A1 ps.length c1)).setCell ⟨w.heap.size + 1 + 1, 1, none⟩ (.int .i64 l)).setCell ⟨w.heap.size + 1, 0, none⟩ (.slice A1 ps.length c1)).setCell ⟨w.heap.size + 1, 1, none⟩ (.int .i64 l)).heap[g]? = w1.heap[g]? := by
    intro g hg
    rw [Below.heap_setCell _ _ _ _ (by show g ≠ w.heap.size + 1; omega), Below.heap_setCell _ _ _ _ (by show g ≠ w.heap.size + 1; omega), Below.heap_setCell _ _ _ _ (by show g ≠ w.heap.size + 1 + 1; omega), Below.heap_setCell _ _ _ _ (by show g ≠ w.heap.size + 1 + 1; omega)]
  have hq := ints_keepC HM1.out fun k hk => hfar k (HM1.out.own k hk).1
  refine bodyPost_ret (v := .agg #[.slice A1 ps.length c1, .int .i64 l]) (by simp [results, Try.results24, go_sem, r0, r1]) rfl ?_
  exact ⟨_, rfl, ⟨_, _, rfl, hq.seq⟩, (((HB1.out.setCell (p := ⟨_, _, none⟩) (by show w.heap.size ≤ w.heap.size + 1 + 1; omega) _).setCell (p := ⟨_, _, none⟩) (by show w.heap.size ≤ w.heap.size + 1 + 1; omega) _).setCell (p := ⟨_, _, none⟩) (by show w.heap.size ≤ w.heap.size + 1; omega) _).setCell (p := ⟨_, _, none⟩) (by show w.heap.size ≤ w.heap.size + 1; omega) _⟩

theorem eqCrate_at (ps : List Int) (l : Int) (v u : Value) (w : World) (hv : CrAt w v ps l) (hu : CrAt w u ps l) :
    Calls Try.prog 27 #[v, u] w (BoolIs true w) := by
  obtain ⟨A, c, rfl, h1⟩ := hv
  obtain ⟨A2, c2, rfl, h2⟩ := hu
  have HE := Lib.hid (fun w a b => eqIntS_seq (w := w) (v1 := .slice A ps.length c) (v2 := .slice A2 ps.length c2) (fs := ps) a b)
  have P1 := Lib.hid h1
  have P2 := Lib.hid h2
  clear h1 h2
  have H0 := Lib.hid (((Held.none_ w).new2 w.heap.size rfl [.slice A ps.length c, .int .i64 l] 38).new2 (w.heap.size + 1) (by simp) [.slice A2 ps.length c2, .int .i64 l] 38)
  simp only [newFs, List.cons_append, List.nil_append, List.append_nil] at H0
  go_enter Try.func27, Try.ntmps27
  go_wp2_with fail
  refine (HE.out _ (P1.out.step H0.out.below) (P2.out.step H0.out.below)).mono ?_
  rintro e w1 ⟨rfl, m, rfl⟩
  have H1 := Lib.hid (H0.out.drewN m)
  obtain ⟨x0, x1, x2, x3, _⟩ := H1.out.1
  go_wp2_with fail
  go_ret
  exact ⟨rfl, H1.out.below⟩
end Go.Proofs.Ytfppnaknnijobab
