/-
  The laws' helpers on windows: toWindow, szWindow, eqWindow.
-/
import Derived.Test.YtfppnaknnijobaaLawN
import Derived.Test.YtfppnaknnijobaaDetW
namespace Go.Proofs.Ytfppnaknnijobaa
open Go.RowKit
set_option linter.unusedVariables false
set_option linter.unusedSimpArgs false

theorem blk3 (w : World) (o0 o1 o2 : Obj) : (((w.alloc o0).alloc o1).alloc o2).heap[w.heap.size]? = some o0 ∧ (((w.alloc o0).alloc o1).alloc o2).heap[w.heap.size + 1]? = some o1 ∧ (((w.alloc o0).alloc o1).alloc o2).heap[w.heap.size + 1 + 1]? = some o2 := by
  have h0 := heap_alloc_new w o0
  have h1 := heap_alloc_new (w.alloc o0) o1
  have h2 := heap_alloc_new ((w.alloc o0).alloc o1) o2
  have s1 : (w.alloc o0).heap.size = w.heap.size + 1 := by simp
  have s2 : ((w.alloc o0).alloc o1).heap.size = w.heap.size + 1 + 1 := by simp
  rw [s1] at h1
  rw [s2] at h2
  refine ⟨?_, ?_, h2⟩
  · rw [Below.heap_alloc _ _ _ (by omega), Below.heap_alloc _ _ _ (by omega)]; exact h0
  · rw [Below.heap_alloc _ _ _ (by omega)]; exact h1

theorem Mine.keepAt {w w' : World} {B : Nat} {T : TypeId} {v : Value} {xs : List Nd} (h : Mine w B T v xs) (hk : ∀ g, B ≤ g → w'.heap[g]? = w.heap[g]?) : Mine w' B T v xs := by
  obtain ⟨A, c, n, rfl, hl, hc, hx⟩ := h
  refine ⟨A, c, n, rfl, hl, hc, fun h0 => ?_⟩
  obtain ⟨g, rfl, hB, hn, hh⟩ := hx h0
  exact ⟨g, rfl, hB, hn, hh.keep (hk g hB)⟩
theorem Mine.form {w : World} {B : Nat} {T : TypeId} {v : Value} {xs : List Nd} (h : Mine w B T v xs) : ∃ (A : Option Addr) (c : Nat), v = .slice A xs.length c := by
  obtain ⟨A, c, n, rfl, _⟩ := h
  exact ⟨A, c, rfl⟩

/-- A window of the call's own: its nodes in a block from the old heap's end on, its leads in a later one. -/
def WinIs (T U : TypeId) (ns ls : List Nd) (w : World) (e : Ending) (w' : World) : Prop :=
  ∃ (v1 v2 : Value) (B : Nat), e = .returned (.agg #[v1, v2]) ∧ Mine w' w.heap.size T v1 ns ∧ w.heap.size ≤ B ∧ (∀ g c n, v1 = .slice (some ⟨g, 0, none⟩) n c → 0 < n → g < B) ∧ Mine w' B U v2 ls ∧ Below w.heap.size w w'

theorem toWindow_any (ns ls : List Nd) (vn vl : Value) (w : World) (hn : Prs w vn ns) (hl : Prs w vl ls) (h1 : ns.length ≤ 1048576) (h2 : ls.length ≤ 1048576) :
    Calls Try.prog 16 #[.agg #[vn, vl]] w (WinIs 49 66 ns ls w) := by
  have HN := Lib.hid hn
  have HL := Lib.hid hl
  obtain ⟨A, c, rfl⟩ := prs_form2 hn
  obtain ⟨A2, c2, rfl⟩ := prs_form2 hl
  clear hn hl
  have HT := Lib.hid (fun w hv => toNodeS_any ns (.slice A ns.length c) w hv h1)
  have HU := Lib.hid (fun w hv => toLeadS_any ls (.slice A2 ls.length c2) w hv h2)
  unfold MineIs at HT HU
  have hb3 := blk3 w (.cells #[.slice A ns.length c, .slice A2 ls.length c2] 25) (.cells #[.slice none 0 0, .slice none 0 0] 32) (.cells #[.slice none 0 0, .slice none 0 0] 32)
  have HB3 := Lib.hid hb3; clear hb3
  have HBL := Lib.hid (below3 w (.cells #[.slice A ns.length c, .slice A2 ls.length c2] 25) (.cells #[.slice none 0 0, .slice none 0 0] 32) (.cells #[.slice none 0 0, .slice none 0 0] 32))
  go_enter Try.func16, Try.ntmps16
  go_wp2_with fail
  refine (HT.out _ (HN.out.step HBL.out)).mono ?_
  rintro e w1 ⟨v1, rfl, hm1, hb1⟩
  have hs1 := hb1.size
  have hsz : (((w.alloc (.cells #[.slice A ns.length c, .slice A2 ls.length c2] 25)).alloc (.cells #[.slice none 0 0, .slice none 0 0] 32)).alloc (.cells #[.slice none 0 0, .slice none 0 0] 32)).heap.size = w.heap.size + 1 + 1 + 1 := by simp
  rw [hsz] at hm1 hs1
  have k0 := (hb1.block w.heap.size (by omega)).trans HB3.out.1
  have k1 := (hb1.block (w.heap.size + 1) (by omega)).trans HB3.out.2.1
  have k2 := (hb1.block (w.heap.size + 1 + 1) (by omega)).trans HB3.out.2.2
  have HB1 := Lib.hid (HBL.out.trans (hb1.mono (by omega))); clear hb1 hsz
  obtain ⟨A1, c1, rfl⟩ := hm1.form
  have HM1 := Lib.hid hm1; clear hm1
  have x0 : w1.cell? ⟨w.heap.size, 0, none⟩ = some (.slice A ns.length c) := (cell_of_cells k0).trans rfl
  have x1 : w1.cell? ⟨w.heap.size, 1, none⟩ = some (.slice A2 ls.length c2) := (cell_of_cells k0).trans rfl
  have x2 : w1.cell? ⟨w.heap.size + 1 + 1, 0, none⟩ = some (.slice none 0 0) := (cell_of_cells k2).trans rfl
  have x3 : w1.cell? ⟨w.heap.size + 1 + 1, 1, none⟩ = some (.slice none 0 0) := (cell_of_cells k2).trans rfl
  have x4 : w1.frozen? ⟨w.heap.size + 1 + 1, 0, none⟩ = false := free_of_cells k2
  have K1 := Lib.hid k1; clear k1
  have K2 := Lib.hid k2; clear k2
  have K0 := Lib.hid k0; clear k0
  go_wp2_with fail
  have HBS := Lib.hid (HB1.out.setCell (p := ⟨w.heap.size + 1 + 1, 0, none⟩) (by show w.heap.size ≤ w.heap.size + 1 + 1; omega) (.slice A1 ns.length c1))
  refine (HU.out _ (HL.out.step HBS.out)).mono ?_
  rintro e w2 ⟨v2, rfl, hm2, hb2⟩
  have hs2 := hb2.size
  have es : (w1.setCell ⟨w.heap.size + 1 + 1, 0, none⟩ (.slice A1 ns.length c1)).heap.size = w1.heap.size := heap_setCell_size _ _ _
  rw [es] at hm2 hs2
  have j2 := (hb2.block (w.heap.size + 1 + 1) (by rw [es]; omega)).trans (heap_setCell_self (k := 0) K2.out (.slice A1 ns.length c1))
  have j1 := (hb2.block (w.heap.size + 1) (by rw [es]; omega)).trans ((Below.heap_setCell w1 ⟨w.heap.size + 1 + 1, 0, none⟩ (.slice A1 ns.length c1) (w.heap.size + 1) (by show w.heap.size + 1 ≠ w.heap.size + 1 + 1; omega)).trans K1.out)
  have hm1' := HM1.out.keepAt (w' := w1.setCell ⟨w.heap.size + 1 + 1, 0, none⟩ (.slice A1 ns.length c1)) (fun g hg => Below.heap_setCell _ _ _ _ (by show g ≠ w.heap.size + 1 + 1; omega))
  have hm1'' := hm1'.below hb2
  have hlt1 : ∀ g c n, Value.slice A1 ns.length c1 = .slice (some ⟨g, 0, none⟩) n c → 0 < n → g < w1.heap.size := by
    intro g c n he hn0
    obtain ⟨A', c', n', he', _, _, hx⟩ := HM1.out
    injection he with e1 e2 e3
    injection he' with e4 e5 e6
    obtain ⟨g', hg', _, _, hh⟩ := hx (by omega)
    rw [← e4, e1] at hg'
    injection hg' with hg'
    injection hg' with hg' _ _
    rw [hg']
    exact hh.lt
  have HB2 := Lib.hid (HBS.out.trans (hb2.mono HBS.out.size)); clear hb2 hm1'
  obtain ⟨A3, c3, rfl⟩ := hm2.form
  have HM1 := Lib.hid hm1''; clear hm1''
  have HM2 := Lib.hid hm2; clear hm2
  have HLT := Lib.hid hlt1; clear hlt1
  clear x0 x1 x2 x3 x4
  have y1 : w2.cell? ⟨w.heap.size + 1 + 1, 0, none⟩ = some (.slice A1 ns.length c1) := (cell_of_cells j2).trans rfl
  have y2 : w2.cell? ⟨w.heap.size + 1 + 1, 1, none⟩ = some (.slice none 0 0) := (cell_of_cells j2).trans rfl
  have y3 : w2.frozen? ⟨w.heap.size + 1 + 1, 1, none⟩ = false := free_of_cells j2
  have y4 : w2.cell? ⟨w.heap.size + 1, 0, none⟩ = some (.slice none 0 0) := (cell_of_cells j1).trans rfl
  have y5 : w2.cell? ⟨w.heap.size + 1, 1, none⟩ = some (.slice none 0 0) := (cell_of_cells j1).trans rfl
  have y6 : w2.frozen? ⟨w.heap.size + 1, 0, none⟩ = false := free_of_cells j1
  have y7 : w2.frozen? ⟨w.heap.size + 1, 1, none⟩ = false := free_of_cells j1
  have J1 := Lib.hid j1; clear j1
  have J2 := Lib.hid j2; clear j2
  clear es
  go_wp2_with fail
  have m0 := (Below.heap_setCell w2 ⟨w.heap.size + 1 + 1, 1, none⟩ (.slice A3 ls.length c3) (w.heap.size + 1) (by show w.heap.size + 1 ≠ w.heap.size + 1 + 1; omega)).trans J1.out
  have m1 := heap_setCell_self (k := 0) m0 (.slice A1 ns.length c1)
  have m2 := heap_setCell_self (k := 1) m1 (.slice A3 ls.length c3)
  have r0 := (cell_of_cells (k := 0) m2).trans (rfl : _ = some (Value.slice A1 ns.length c1))
  have r1 := (cell_of_cells (k := 1) m2).trans (rfl : _ = some (Value.slice A3 ls.length c3))
  have hfar : ∀ g, w.heap.size + 1 + 1 + 1 ≤ g → (((w2.setCell ⟨w.heap.size + 1 + 1, 1, none⟩ (.slice A3 ls.length c3)).setCell ⟨w.heap.size + 1, 0, none⟩ (.slice A1 ns.length c1)).setCell ⟨w.heap.size + 1, 1, none⟩ (.slice A3 ls.length c3)).heap[g]? = w2.heap[g]? := by
    intro g hg
    rw [Below.heap_setCell _ _ _ _ (by show g ≠ w.heap.size + 1; omega), Below.heap_setCell _ _ _ _ (by show g ≠ w.heap.size + 1; omega), Below.heap_setCell _ _ _ _ (by show g ≠ w.heap.size + 1 + 1; omega)]
  refine bodyPost_ret (v := .agg #[.slice A1 ns.length c1, .slice A3 ls.length c3]) (by simp [results, Try.results16, go_sem, r0, r1]) rfl ?_
  refine ⟨_, _, w1.heap.size, rfl, (HM1.out.keepAt hfar).mono (by omega), by omega, HLT.out, (HM2.out.keepAt fun g hg => hfar g (by omega)), ?_⟩
  exact ((HB2.out.setCell (p := ⟨_, _, none⟩) (by show w.heap.size ≤ w.heap.size + 1 + 1; omega) _).setCell (p := ⟨_, _, none⟩) (by show w.heap.size ≤ w.heap.size + 1; omega) _).setCell (p := ⟨_, _, none⟩) (by show w.heap.size ≤ w.heap.size + 1; omega) _

theorem szWindow_any (n1 c1 n2 c2 : Nat) (A1 A2 : Option Addr) (w : World) (h1 : n1 ≤ 9223372036854775807) (h2 : n2 ≤ 9223372036854775807) :
    Calls Try.prog 14 #[.agg #[.slice A1 n1 c1, .slice A2 n2 c2], .int .i64 1048576] w (fun e w' => ∃ r : Int, e = .returned (.int .i64 r) ∧ (r < 0 ∨ 0 ≤ r ∧ n1 ≤ 1048576 ∧ n2 ≤ 1048576) ∧ Below w.heap.size w w') := by
  have HZ := Lib.hid (fun w => szNodeS_any n1 c1 A1 1048576 w (by omega) (by omega) h1)
  have H0 := Lib.hid ((Held.none_ w).new2 w.heap.size rfl [.slice A1 n1 c1, .slice A2 n2 c2] 25)
  by_cases hb : (1048576 : Int) < n1
  · rw [if_pos hb] at HZ
    go_enter Try.func14, Try.ntmps14
    go_wp2_with fail
    refine (HZ.out _).mono ?_
    rintro e w1 ⟨rfl, rfl⟩
    go_wp2_with fail
    go_ret
    exact ⟨-1, rfl, by omega, H0.out.below⟩
  rw [if_neg hb] at HZ
  have HY := Lib.hid (fun w => szLeadS_any n2 c2 A2 (1048576 - n1) w (by omega) (by omega) h2)
  by_cases hb2 : (1048576 : Int) - n1 < n2
  · rw [if_pos hb2] at HY
    go_enter Try.func14, Try.ntmps14
    go_wp2_with fail
    refine (HZ.out _).mono ?_
    rintro e w1 ⟨rfl, rfl⟩
    go_wp2_with fail
    refine (HY.out _).mono ?_
    rintro e w1 ⟨rfl, rfl⟩
    go_wp2_with fail
    go_ret
    exact ⟨-1, rfl, by omega, H0.out.below⟩
  · rw [if_neg hb2] at HY
    go_enter Try.func14, Try.ntmps14
    go_wp2_with fail
    refine (HZ.out _).mono ?_
    rintro e w1 ⟨rfl, rfl⟩
    go_wp2_with fail
    refine (HY.out _).mono ?_
    rintro e w1 ⟨rfl, rfl⟩
    go_wp2_with fail
    go_ret
    exact ⟨_, rfl, by omega, H0.out.below⟩

theorem eqWindow_yes (ns ls : List Nd) (v1 v2 u1 u2 : Value) (w : World) (h1 : Prs w v1 ns) (h2 : Prs w v2 ls) (h3 : Prs w u1 ns) (h4 : Prs w u2 ls) :
    Calls Try.prog 19 #[.agg #[v1, v2], .agg #[u1, u2]] w (BoolIs true w) := by
  have P1 := Lib.hid h1
  have P2 := Lib.hid h2
  have P3 := Lib.hid h3
  have P4 := Lib.hid h4
  obtain ⟨A1, c1, rfl⟩ := prs_form2 h1
  obtain ⟨A2, c2, rfl⟩ := prs_form2 h2
  obtain ⟨A3, c3, rfl⟩ := prs_form2 h3
  obtain ⟨A4, c4, rfl⟩ := prs_form2 h4
  clear h1 h2 h3 h4
  have HE := Lib.hid (fun w a b => eqNodeS_yes ns (.slice A1 ns.length c1) (.slice A3 ns.length c3) w a b)
  have HF := Lib.hid (fun w a b => eqLeadS_yes ls (.slice A2 ls.length c2) (.slice A4 ls.length c4) w a b)
  have H0 := Lib.hid (((Held.none_ w).new2 w.heap.size rfl [.slice A1 ns.length c1, .slice A2 ls.length c2] 32).new2 (w.heap.size + 1) (by simp) [.slice A3 ns.length c3, .slice A4 ls.length c4] 32)
  go_enter Try.func19, Try.ntmps19
  go_wp2_with fail
  refine (HE.out _ (P1.out.step H0.out.below) (P3.out.step H0.out.below)).mono ?_
  rintro e wH1 ⟨rfl, hb⟩
  have H1 := Lib.hid ((H0.out).step hb); clear hb
  try clear x0 x1 x2 x3
  obtain ⟨x0, x1, x2, x3, _⟩ := H1.out.1
  go_wp2_with fail
  refine (HF.out _ (P2.out.step H1.out.below) (P4.out.step H1.out.below)).mono ?_
  rintro e wH2 ⟨rfl, hb⟩
  have H2 := Lib.hid ((H1.out).step hb); clear hb
  try clear x0 x1 x2 x3
  obtain ⟨x0, x1, x2, x3, _⟩ := H2.out.1
  go_wp2_with fail
  go_ret
  exact ⟨rfl, H2.out.below⟩

/-- The value v reads as the window of ns and ls. -/
def WinAt (w : World) (v : Value) (ns ls : List Nd) : Prop := ∃ (A1 A2 : Option Addr) (c1 c2 : Nat), v = .agg #[.slice A1 ns.length c1, .slice A2 ls.length c2] ∧ Prs w (.slice A1 ns.length c1) ns ∧ Prs w (.slice A2 ls.length c2) ls
theorem WinAt.step {w w' : World} {v : Value} {ns ls : List Nd} (h : WinAt w v ns ls) (hb : Below w.heap.size w w') : WinAt w' v ns ls := by
  obtain ⟨A1, A2, c1, c2, rfl, h1, h2⟩ := h
  exact ⟨A1, A2, c1, c2, rfl, h1.step hb, h2.step hb⟩
theorem stable_win (v : Value) (ns ls : List Nd) : Stable fun W => WinAt W v ns ls := fun _ _ h hb => h.step hb
theorem WinAt.mk {w : World} {v1 v2 : Value} {ns ls : List Nd} (h1 : Prs w v1 ns) (h2 : Prs w v2 ls) : WinAt w (.agg #[v1, v2]) ns ls := by
  obtain ⟨A1, c1, rfl⟩ := prs_form2 h1
  obtain ⟨A2, c2, rfl⟩ := prs_form2 h2
  exact ⟨A1, A2, c1, c2, rfl, h1, h2⟩

theorem toWindow_at (ns ls : List Nd) (v : Value) (w : World) (hv : WinAt w v ns ls) (h1 : ns.length ≤ 1048576) (h2 : ls.length ≤ 1048576) :
    Calls Try.prog 16 #[v] w (fun e w' => ∃ v', e = .returned v' ∧ WinAt w' v' ns ls ∧ Below w.heap.size w w') := by
  obtain ⟨A1, A2, c1, c2, rfl, k1, k2⟩ := hv
  exact (toWindow_any ns ls _ _ w k1 k2 h1 h2).mono fun _ _ ⟨v1, v2, B, he, hm1, _, _, hm2, hb⟩ => ⟨_, he, .mk hm1.prs hm2.prs, hb⟩

theorem eqWindow_at (ns ls : List Nd) (v u : Value) (w : World) (hv : WinAt w v ns ls) (hu : WinAt w u ns ls) :
    Calls Try.prog 19 #[v, u] w (BoolIs true w) := by
  obtain ⟨A1, A2, c1, c2, rfl, k1, k2⟩ := hv
  obtain ⟨A3, A4, c3, c4, rfl, k3, k4⟩ := hu
  exact eqWindow_yes ns ls _ _ _ _ w k1 k2 k3 k4
end Go.Proofs.Ytfppnaknnijobaa
