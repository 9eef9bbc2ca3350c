/-
  Copies of windows, of the model and of the program.
-/
import Derived.Test.YtibgfbkepkjmbaaGreatMarkO
import Derived.Test.YtibgfbkepkjmbaaGreatG25
import Derived.WalkSpells
namespace Go.Proofs.YtibgfbkepkjmbaaGreat
open Go.RowKit
set_option linter.unusedVariables false
set_option linter.unusedSimpArgs false

set_option maxRecDepth 100000 in
theorem cloneNodes (xs : List Nd) (v : Value) (w : World) (hv : Prs w v xs) (hlen : xs.length ≤ 1048576) :
    Calls Tryz.prog 87 #[v] w (PrsNew 106 xs w) := by
  obtain ⟨i0, hi0, hz0, hz1, hz2⟩ := info_parts infoNode
  have HA := Lib.hid (fun w2 v2 (h : Prs w2 v2 xs) (g : Nat) (hg : w2.heap[g]? = some (.cells #[] 106 (0, 0))) (hB : w.heap.size ≤ g) => run_append_empty (P := Tryz.prog) (ty := 27) Tryz.underlying27 hi0 hz0 hz1 hz2 rfl hg hB h hlen)
  clear hi0 hz0 hz1 hz2
  have HV := Lib.hid hv
  obtain ⟨A, c, rfl⟩ := prs_form2 hv
  clear hv
  have hnil := fun w => Lib.run_eql_slice_nil (P := Tryz.prog) w 27 106 A xs.length c 0 0 Tryz.underlying27
  cases A with
  | none =>
    have h0 : xs = [] := by
      obtain ⟨A', c', e, _, _, hx⟩ := HV.out
      injection e with e1 _ _
      by_cases hl : xs.length = 0
      · exact List.eq_nil_of_length_eq_zero hl
      · obtain ⟨b, o, hA, _⟩ := hx (by omega)
        rw [← e1] at hA; cases hA
    subst h0
    simp only [Option.isNone_none, List.length_nil] at hnil
    go_enter Tryz.func87, Tryz.ntmps87
    go_wp2_with fail
    go_ret
    exact ⟨_, rfl, Own.nil _ _ _, Below.refl _ _⟩
  | some a =>
    simp only [Option.isNone_some] at hnil
    obtain ⟨v', w', hr, ho, hb⟩ := HA.out _ _ (HV.out.step (Below.refl _ _ |>.alloc (Nat.le_refl _) (.cells #[] 106))) w.heap.size (heap_alloc_new w _) (Nat.le_refl _)
    have HO := Lib.hid ho
    have HB := Lib.hid ((Below.refl _ _ |>.alloc (Nat.le_refl _) (.cells #[] 106)).trans (hb.mono (by simp)))
    clear ho hb
    go_enter Tryz.func87, Tryz.ntmps87
    go_wp2_with (at_builtin; refine wpList_append_run rfl _ _ 27 rfl v' w' hr ?_)
    go_wp2_with fail
    go_ret
    exact ⟨_, rfl, HO.out, HB.out⟩

set_option maxRecDepth 100000 in
theorem cloneLeads (xs : List Nd) (v : Value) (w : World) (hv : Prs w v xs) (hlen : xs.length ≤ 1048576) :
    Calls Tryz.prog 88 #[v] w (PrsNew 104 xs w) := by
  obtain ⟨i0, hi0, hz0, hz1, hz2⟩ := info_parts infoLead
  have HA := Lib.hid (fun w2 v2 (h : Prs w2 v2 xs) (g : Nat) (hg : w2.heap[g]? = some (.cells #[] 104 (0, 0))) (hB : w.heap.size ≤ g) => run_append_empty (P := Tryz.prog) (ty := 28) Tryz.underlying28 hi0 hz0 hz1 hz2 rfl hg hB h hlen)
  clear hi0 hz0 hz1 hz2
  have HV := Lib.hid hv
  obtain ⟨A, c, rfl⟩ := prs_form2 hv
  clear hv
  have hnil := fun w => Lib.run_eql_slice_nil (P := Tryz.prog) w 28 104 A xs.length c 0 0 Tryz.underlying28
  cases A with
  | none =>
    have h0 : xs = [] := by
      obtain ⟨A', c', e, _, _, hx⟩ := HV.out
      injection e with e1 _ _
      by_cases hl : xs.length = 0
      · exact List.eq_nil_of_length_eq_zero hl
      · obtain ⟨b, o, hA, _⟩ := hx (by omega)
        rw [← e1] at hA; cases hA
    subst h0
    simp only [Option.isNone_none, List.length_nil] at hnil
    go_enter Tryz.func88, Tryz.ntmps88
    go_wp2_with fail
    go_ret
    exact ⟨_, rfl, Own.nil _ _ _, Below.refl _ _⟩
  | some a =>
    simp only [Option.isNone_some] at hnil
    obtain ⟨v', w', hr, ho, hb⟩ := HA.out _ _ (HV.out.step (Below.refl _ _ |>.alloc (Nat.le_refl _) (.cells #[] 104))) w.heap.size (heap_alloc_new w _) (Nat.le_refl _)
    have HO := Lib.hid ho
    have HB := Lib.hid ((Below.refl _ _ |>.alloc (Nat.le_refl _) (.cells #[] 104)).trans (hb.mono (by simp)))
    clear ho hb
    go_enter Tryz.func88, Tryz.ntmps88
    go_wp2_with (at_builtin; refine wpList_append_run rfl _ _ 28 rfl v' w' hr ?_)
    go_wp2_with fail
    go_ret
    exact ⟨_, rfl, HO.out, HB.out⟩

def CopyIs (ns ls : List Nd) (w : World) (e : Ending) (w' : World) : Prop := ∃ v1 v2, e = .returned (.agg #[v1, v2]) ∧ WinO w' w.heap.size v1 v2 ns ls ∧ Below w.heap.size w w'

theorem win_node : (106 : TypeId) ≠ 30 := by decide

theorem win_lead : (104 : TypeId) ≠ 30 := by decide

theorem hz2 (w : World) (o o2 : Obj) : ((w.alloc o).alloc o2).heap[w.heap.size + 1]? = some o2 := by
  have := heap_alloc_new (w.alloc o) o2
  simpa using this

set_option maxRecDepth 100000 in
theorem copyOf_any (ns ls : List Nd) (vn vl : Value) (w : World) (hn : Prs w vn ns) (hl : Prs w vl ls) (h1 : ns.length ≤ 1048576) (h2 : ls.length ≤ 1048576) :
    Calls Tryz.prog 44 #[.agg #[vn, vl]] w (CopyIs ns ls w) := by
  have HN := Lib.hid hn
  have HL := Lib.hid hl
  obtain ⟨A, c, rfl⟩ := prs_form2 hn
  obtain ⟨A2, c2, rfl⟩ := prs_form2 hl
  clear hn hl
  have HC1 := Lib.hid (fun W (hB : Below w.heap.size w W) => (cloneNodes ns (.slice A ns.length c) W (HN.out.step hB) h1).mono (R' := fun e w' => ∃ v, e = .returned v ∧ Own w' w.heap.size 106 v ns ∧ Below W.heap.size W w') fun e w' ⟨v, he, ho, hb⟩ => ⟨v, he, ho.mono hB.size, hb⟩)
  have HC2 := Lib.hid (fun W (hB : Below w.heap.size w W) => (cloneLeads ls (.slice A2 ls.length c2) W (HL.out.step hB) h2).mono (R' := fun e w' => ∃ v, e = .returned v ∧ Own w' w.heap.size 104 v ls ∧ Below W.heap.size W w') fun e w' ⟨v, he, ho, hb⟩ => ⟨v, he, ho.mono hB.size, hb⟩)
  have H0 := Lib.hid ((held_pair w (.slice A ns.length c) (.slice A2 ls.length c2) 30).alloc (.cells #[.slice none 0 0, .slice none 0 0] 30))
  have HB0 := Lib.hid (show BlkN (w.heap.size + 1) 30 2 ((w.alloc (.cells #[.slice A ns.length c, .slice A2 ls.length c2] 30)).alloc (.cells #[.slice none 0 0, .slice none 0 0] 30)) from ⟨_, hz2 _ _ _, rfl⟩)
  go_enter Tryz.func44, Tryz.ntmps44
  go_wp2_with fail
  refine regionW (fun W => (Held _ W [(w.heap.size, 0, .slice A ns.length c), (w.heap.size, 1, .slice A2 ls.length c2)]) ∧ BlkN (w.heap.size + 1) 30 2 W) (by kernel_rfl) ⟨H0.out.drew, HB0.out⟩ ?_
  refine takeW (i := 0) (v := ?_) (Stable.and (Stable.held _ _) (stable_blkN (w.heap.size + 1) 30 2)) rfl (by kernel_rfl) (by kernel_rfl) (by kernel_rfl) (fun _ _ _ h => h) ?_ ?_
  rotate_left
  · first | (refine Or.inl ⟨by rfl, fun W hS => detR_value (w' := W) ?_ (Below.refl _ _)⟩; obtain ⟨hH, q1⟩ := hS; obtain ⟨x0, x1, _⟩ := hH.1; go_simp; first | done | with_reducible rfl) | fail
  simp only [Act.put, List.setIfInBounds_toArray, List.set_cons_zero, List.set_cons_succ]
  refine takeW (i := 1) (v := ?_) (Stable.and (Stable.held _ _) (stable_blkN (w.heap.size + 1) 30 2)) rfl (by kernel_rfl) (by kernel_rfl) (by kernel_rfl) (fun _ _ _ h => h) ?_ ?_
  rotate_left
  · first | (refine Or.inl ⟨by rfl, fun W hS => detR_value (w' := W) ?_ (Below.refl _ _)⟩; obtain ⟨hH, q1⟩ := hS; obtain ⟨x0, x1, _⟩ := hH.1; go_simp; first | done | with_reducible rfl) | fail
  simp only [Act.put, List.setIfInBounds_toArray, List.set_cons_zero, List.set_cons_succ]
  refine takeW (i := 3) (v := ?_) (Stable.and (Stable.held _ _) (stable_blkN (w.heap.size + 1) 30 2)) rfl (by kernel_rfl) (by kernel_rfl) (by kernel_rfl) (fun _ _ _ h => h) ?_ ?_
  rotate_left
  · first | (refine Or.inl ⟨by rfl, fun W hS => detR_value (w' := W) ?_ (Below.refl _ _)⟩; obtain ⟨hH, q1⟩ := hS; obtain ⟨x0, x1, _⟩ := hH.1; go_simp; first | done | with_reducible rfl) | fail
  simp only [Act.put, List.setIfInBounds_toArray, List.set_cons_zero, List.set_cons_succ]
  refine takeW (i := 4) (v := ?_) (Stable.and (Stable.held _ _) (stable_blkN (w.heap.size + 1) 30 2)) rfl (by kernel_rfl) (by kernel_rfl) (by kernel_rfl) (fun _ _ _ h => h) ?_ ?_
  rotate_left
  · first | (refine Or.inl ⟨by rfl, fun W hS => detR_value (w' := W) ?_ (Below.refl _ _)⟩; obtain ⟨hH, q1⟩ := hS; obtain ⟨x0, x1, _⟩ := hH.1; go_simp; first | done | with_reducible rfl) | fail
  simp only [Act.put, List.setIfInBounds_toArray, List.set_cons_zero, List.set_cons_succ]
  refine freeX (i := 2) (fun v W => Own W w.heap.size 106 v ns) (Stable.and (Stable.held _ _) (stable_blkN (w.heap.size + 1) 30 2)) (fun v => stable_own w.heap.size 106 v ns) rfl (by kernel_rfl) (by rfl) (fun W hS => ?_) (fun v hex => ?_)
  · obtain ⟨hH, q1⟩ := hS; obtain ⟨x0, x1, _⟩ := hH.1; refine freeR_call (w' := W) (f := ?_) (args := ?_) ?_ ?_; rotate_left 2; (go_simp; (refine ⟨?_, ?_⟩ <;> with_reducible rfl)); exact HC1.out W hH.below
  obtain ⟨WX, hex⟩ := hex
  obtain ⟨a2, c2', rfl, -, -, -⟩ := hex.form
  try clear hex
  try clear WX
  simp only [Act.put, List.setIfInBounds_toArray, List.set_cons_zero, List.set_cons_succ]
  refine freeX (i := 5) (fun v W => Own W w.heap.size 104 v ls) (Stable.and (Stable.and (Stable.held _ _) (stable_blkN (w.heap.size + 1) 30 2)) (stable_own w.heap.size 106 (.slice a2 ns.length c2') ns)) (fun v => stable_own w.heap.size 104 v ls) rfl (by kernel_rfl) (by rfl) (fun W hS => ?_) (fun v hex => ?_)
  · obtain ⟨⟨hH, q1⟩, r2⟩ := hS; obtain ⟨x0, x1, _⟩ := hH.1; refine freeR_call (w' := W) (f := ?_) (args := ?_) ?_ ?_; rotate_left 2; (go_simp; (refine ⟨?_, ?_⟩ <;> with_reducible rfl)); exact HC2.out W hH.below
  obtain ⟨WX, hex⟩ := hex
  obtain ⟨a5, c5', rfl, -, -, -⟩ := hex.form
  try clear hex
  try clear WX
  simp only [Act.put, List.setIfInBounds_toArray, List.set_cons_zero, List.set_cons_succ]
  refine takeW (i := 6) (v := ?_) (Stable.and (Stable.and (Stable.and (Stable.held _ _) (stable_blkN (w.heap.size + 1) 30 2)) (stable_own w.heap.size 106 (.slice a2 ns.length c2') ns)) (stable_own w.heap.size 104 (.slice a5 ls.length c5') ls)) rfl (by kernel_rfl) (by kernel_rfl) (by kernel_rfl) (fun _ _ _ h => h) ?_ ?_
  rotate_left
  · first | (refine Or.inl ⟨by rfl, fun W hS => detR_value (w' := W) ?_ (Below.refl _ _)⟩; obtain ⟨⟨⟨hH, q1⟩, r2⟩, r5⟩ := hS; obtain ⟨x0, x1, _⟩ := hH.1; go_simp; first | done | with_reducible rfl) | fail
  simp only [Act.put, List.setIfInBounds_toArray, List.set_cons_zero, List.set_cons_succ]
  refine storeK (i := 7) (b := w.heap.size + 1) #[.slice a2 ns.length c2', .slice a5 ls.length c5'] (Stable.and (Stable.and (Stable.and (Stable.held _ _) (stable_blkN (w.heap.size + 1) 30 2)) (stable_own w.heap.size 106 (.slice a2 ns.length c2') ns)) (stable_own w.heap.size 104 (.slice a5 ls.length c5') ls)) (fun W hS => by obtain ⟨⟨⟨hH, q1⟩, r2⟩, r5⟩ := hS; exact q1) (fun W hS => by obtain ⟨⟨⟨hH, q1⟩, r2⟩, r5⟩ := hS; exact ⟨⟨⟨hH.setRowAt (by simp) (Nat.le_succ _) _, q1.setRow rfl⟩, r2.setRow q1 win_node _⟩, r5.setRow q1 win_lead _⟩) rfl (by kernel_rfl) (by rfl) rfl (by rfl) (by rfl) rfl (by kernel_rfl) (by simp [Value.oneCell']) ?_
  simp only [Act.put, List.setIfInBounds_toArray, List.set_cons_zero, List.set_cons_succ]
  refine doneW (by kernel_rfl) fun wH1 HG => ?_
  obtain ⟨⟨⟨⟨hH, q1⟩, r2⟩, r5⟩, hs⟩ := HG
  have H1 := Lib.hid hH; clear hH
  have MH1_q1 := Lib.hid q1; clear q1
  have MH1_o2 := Lib.hid r2; clear r2
  have MH1_o5 := Lib.hid r5; clear r5
  have MH1_s := Lib.hid hs; clear hs
  try clear x0 x1
  have y0 := (cell_of_cells (k := 0) MH1_s.out).trans (rfl : _ = some (Value.slice a2 ns.length c2'))
  have y1 := (cell_of_cells (k := 1) MH1_s.out).trans (rfl : _ = some (Value.slice a5 ls.length c5'))
  go_wp2_with fail
  refine bodyPost_ret (v := .agg #[.slice a2 ns.length c2', .slice a5 ls.length c5']) (by simp [results, Tryz.results44, go_sem, y0, y1]) rfl ?_
  exact ⟨_, _, rfl, ⟨MH1_o2.out, MH1_o5.out⟩, H1.out.below⟩

theorem NewE.setRow {W : World} {B b n : Nat} {T U : TypeId} {v : Value} (h : NewE B T v W) (hb : BlkN b U n W) (hne : T ≠ U) (cs : Array Value) : NewE B T v (W.setRow b cs) := by
  obtain ⟨g, hv, hB, hg⟩ := h
  refine ⟨g, hv, hB, (setRow_other W b g cs fun e => ?_).trans hg⟩
  obtain ⟨cs', hc, _⟩ := hb
  rw [e] at hg
  rw [hg] at hc
  injection hc with hc
  injection hc with _ hc _
  exact hne hc

set_option maxRecDepth 100000 in
theorem l04Copy_any (ns ls : List Nd) (vn vl : Value) (w : World) (hn : Prs w vn ns) (hl : Prs w vl ls) (h1 : ns.length ≤ 1048576) (h2 : ls.length ≤ 1048576) :
    Calls Tryz.prog 38 #[.agg #[vn, vl]] w (CopyIs ns ls w) := by
  have HN := Lib.hid hn
  have HL := Lib.hid hl
  obtain ⟨A, c, rfl⟩ := prs_form2 hn
  obtain ⟨A2, c2, rfl⟩ := prs_form2 hl
  clear hn hl
  obtain ⟨i0, hi0, hz0, hz1, hz2⟩ := info_parts infoNode
  have HF1 := Lib.hid (And.intro hi0 (And.intro hz0 (And.intro hz1 hz2))); clear hi0 hz0 hz1 hz2
  obtain ⟨i1, hi0, hz0, hz1, hz2⟩ := info_parts infoLead
  have HF2 := Lib.hid (And.intro hi0 (And.intro hz0 (And.intro hz1 hz2))); clear hi0 hz0 hz1 hz2
  have H0 := Lib.hid ((held_pair w (.slice A ns.length c) (.slice A2 ls.length c2) 30).alloc (.cells #[.slice none 0 0, .slice none 0 0] 30))
  have HB0 := Lib.hid (show BlkN (w.heap.size + 1) 30 2 ((w.alloc (.cells #[.slice A ns.length c, .slice A2 ls.length c2] 30)).alloc (.cells #[.slice none 0 0, .slice none 0 0] 30)) from ⟨_, hz2 _ _ _, rfl⟩)
  go_enter Tryz.func38, Tryz.ntmps38
  go_wp2_with fail
  refine regionW (fun W => (Held _ W [(w.heap.size, 0, .slice A ns.length c), (w.heap.size, 1, .slice A2 ls.length c2)]) ∧ BlkN (w.heap.size + 1) 30 2 W) (by kernel_rfl) ⟨H0.out.drew, HB0.out⟩ ?_
  refine takeW (i := 1) (v := ?_) (Stable.and (Stable.held _ _) (stable_blkN (w.heap.size + 1) 30 2)) rfl (by kernel_rfl) (by kernel_rfl) (by kernel_rfl) (fun _ _ _ h => h) ?_ ?_
  rotate_left
  · first | (refine Or.inl ⟨by rfl, fun W hS => detR_value (w' := W) ?_ (Below.refl _ _)⟩; obtain ⟨hH, q1⟩ := hS; obtain ⟨x0, x1, _⟩ := hH.1; go_simp; first | done | with_reducible rfl) | fail
  simp only [Act.put, List.setIfInBounds_toArray, List.set_cons_zero, List.set_cons_succ]
  refine takeW (i := 2) (v := ?_) (Stable.and (Stable.held _ _) (stable_blkN (w.heap.size + 1) 30 2)) rfl (by kernel_rfl) (by kernel_rfl) (by kernel_rfl) (fun _ _ _ h => h) ?_ ?_
  rotate_left
  · first | (refine Or.inl ⟨by rfl, fun W hS => detR_value (w' := W) ?_ (Below.refl _ _)⟩; obtain ⟨hH, q1⟩ := hS; obtain ⟨x0, x1, _⟩ := hH.1; go_simp; first | done | with_reducible rfl) | fail
  simp only [Act.put, List.setIfInBounds_toArray, List.set_cons_zero, List.set_cons_succ]
  refine takeW (i := 5) (v := ?_) (Stable.and (Stable.held _ _) (stable_blkN (w.heap.size + 1) 30 2)) rfl (by kernel_rfl) (by kernel_rfl) (by kernel_rfl) (fun _ _ _ h => h) ?_ ?_
  rotate_left
  · first | (refine Or.inl ⟨by rfl, fun W hS => detR_value (w' := W) ?_ (Below.refl _ _)⟩; obtain ⟨hH, q1⟩ := hS; obtain ⟨x0, x1, _⟩ := hH.1; go_simp; first | done | with_reducible rfl) | fail
  simp only [Act.put, List.setIfInBounds_toArray, List.set_cons_zero, List.set_cons_succ]
  refine takeW (i := 6) (v := ?_) (Stable.and (Stable.held _ _) (stable_blkN (w.heap.size + 1) 30 2)) rfl (by kernel_rfl) (by kernel_rfl) (by kernel_rfl) (fun _ _ _ h => h) ?_ ?_
  rotate_left
  · first | (refine Or.inl ⟨by rfl, fun W hS => detR_value (w' := W) ?_ (Below.refl _ _)⟩; obtain ⟨hH, q1⟩ := hS; obtain ⟨x0, x1, _⟩ := hH.1; go_simp; first | done | with_reducible rfl) | fail
  simp only [Act.put, List.setIfInBounds_toArray, List.set_cons_zero, List.set_cons_succ]
  refine freeOr (i := 0) (j := 4) (by kernel_rfl) ?_ ?_
  · skip
    refine freeOp (i := 0) (fun v W => NewE w.heap.size 106 v W) (Stable.and (Stable.held _ _) (stable_blkN (w.heap.size + 1) 30 2)) (fun v => stable_newE w.heap.size 106 v) rfl (by rfl) (fun W hS => ?_) (fun v hex => ?_)
    · obtain ⟨hH, q1⟩ := hS; obtain ⟨x0, x1, _⟩ := hH.1; exact freeR_newE (by go_simp <;> with_reducible rfl) hH.below.size
    obtain ⟨WX, hex⟩ := hex
    obtain ⟨b0, rfl, -, -⟩ := hex
    try clear hex
    try clear WX
    simp only [Act.put, List.setIfInBounds_toArray, List.set_cons_zero, List.set_cons_succ]
    refine freeOr (i := 3) (j := 4) (by kernel_rfl) ?_ ?_
    · skip
      refine freeOp (i := 3) (fun v W => Own W w.heap.size 106 v ns) (Stable.and (Stable.and (Stable.held _ _) (stable_blkN (w.heap.size + 1) 30 2)) (stable_newE w.heap.size 106 (.slice (some ⟨b0, 0, none⟩) 0 0))) (fun v => stable_own w.heap.size 106 v ns) rfl (by rfl) (fun W hS => ?_) (fun v hex => ?_)
      · obtain ⟨⟨hH, q1⟩, r0⟩ := hS; obtain ⟨x0, x1, _⟩ := hH.1; exact freeR_append r0 (HN.out.step hH.below) h1 Tryz.underlying27 HF1.out.1 HF1.out.2.1 HF1.out.2.2.1 HF1.out.2.2.2 rfl (by rfl) (by rfl) (by rfl)
      obtain ⟨WX, hex⟩ := hex
      obtain ⟨a3, c3', rfl, -, -, -⟩ := hex.form
      try clear hex
      try clear WX
      simp only [Act.put, List.setIfInBounds_toArray, List.set_cons_zero, List.set_cons_succ]
      refine freeX (i := 4) (fun v W => NewE w.heap.size 104 v W) (Stable.and (Stable.and (Stable.and (Stable.held _ _) (stable_blkN (w.heap.size + 1) 30 2)) (stable_newE w.heap.size 106 (.slice (some ⟨b0, 0, none⟩) 0 0))) (stable_own w.heap.size 106 (.slice a3 ns.length c3') ns)) (fun v => stable_newE w.heap.size 104 v) rfl (by kernel_rfl) (by rfl) (fun W hS => ?_) (fun v hex => ?_)
      · obtain ⟨⟨⟨hH, q1⟩, r0⟩, r3⟩ := hS; obtain ⟨x0, x1, _⟩ := hH.1; exact freeR_newE (by go_simp <;> with_reducible rfl) hH.below.size
      obtain ⟨WX, hex⟩ := hex
      obtain ⟨b4, rfl, -, -⟩ := hex
      try clear hex
      try clear WX
      simp only [Act.put, List.setIfInBounds_toArray, List.set_cons_zero, List.set_cons_succ]
      refine freeX (i := 7) (fun v W => Own W w.heap.size 104 v ls) (Stable.and (Stable.and (Stable.and (Stable.and (Stable.held _ _) (stable_blkN (w.heap.size + 1) 30 2)) (stable_newE w.heap.size 106 (.slice (some ⟨b0, 0, none⟩) 0 0))) (stable_own w.heap.size 106 (.slice a3 ns.length c3') ns)) (stable_newE w.heap.size 104 (.slice (some ⟨b4, 0, none⟩) 0 0))) (fun v => stable_own w.heap.size 104 v ls) rfl (by kernel_rfl) (by rfl) (fun W hS => ?_) (fun v hex => ?_)
      · obtain ⟨⟨⟨⟨hH, q1⟩, r0⟩, r3⟩, r4⟩ := hS; obtain ⟨x0, x1, _⟩ := hH.1; exact freeR_append r4 (HL.out.step hH.below) h2 Tryz.underlying28 HF2.out.1 HF2.out.2.1 HF2.out.2.2.1 HF2.out.2.2.2 rfl (by rfl) (by rfl) (by rfl)
      obtain ⟨WX, hex⟩ := hex
      obtain ⟨a7, c7', rfl, -, -, -⟩ := hex.form
      try clear hex
      try clear WX
      simp only [Act.put, List.setIfInBounds_toArray, List.set_cons_zero, List.set_cons_succ]
      refine takeW (i := 8) (v := ?_) (Stable.and (Stable.and (Stable.and (Stable.and (Stable.and (Stable.held _ _) (stable_blkN (w.heap.size + 1) 30 2)) (stable_newE w.heap.size 106 (.slice (some ⟨b0, 0, none⟩) 0 0))) (stable_own w.heap.size 106 (.slice a3 ns.length c3') ns)) (stable_newE w.heap.size 104 (.slice (some ⟨b4, 0, none⟩) 0 0))) (stable_own w.heap.size 104 (.slice a7 ls.length c7') ls)) rfl (by kernel_rfl) (by kernel_rfl) (by kernel_rfl) (fun _ _ _ h => h) ?_ ?_
      rotate_left
      · first | (refine Or.inl ⟨by rfl, fun W hS => detR_value (w' := W) ?_ (Below.refl _ _)⟩; obtain ⟨⟨⟨⟨⟨hH, q1⟩, r0⟩, r3⟩, r4⟩, r7⟩ := hS; obtain ⟨x0, x1, _⟩ := hH.1; go_simp; first | done | with_reducible rfl) | fail
      simp only [Act.put, List.setIfInBounds_toArray, List.set_cons_zero, List.set_cons_succ]
      refine storeK (i := 9) (b := w.heap.size + 1) #[.slice a3 ns.length c3', .slice a7 ls.length c7'] (Stable.and (Stable.and (Stable.and (Stable.and (Stable.and (Stable.held _ _) (stable_blkN (w.heap.size + 1) 30 2)) (stable_newE w.heap.size 106 (.slice (some ⟨b0, 0, none⟩) 0 0))) (stable_own w.heap.size 106 (.slice a3 ns.length c3') ns)) (stable_newE w.heap.size 104 (.slice (some ⟨b4, 0, none⟩) 0 0))) (stable_own w.heap.size 104 (.slice a7 ls.length c7') ls)) (fun W hS => by obtain ⟨⟨⟨⟨⟨hH, q1⟩, r0⟩, r3⟩, r4⟩, r7⟩ := hS; exact q1) (fun W hS => by obtain ⟨⟨⟨⟨⟨hH, q1⟩, r0⟩, r3⟩, r4⟩, r7⟩ := hS; exact ⟨⟨⟨⟨⟨hH.setRowAt (by simp) (Nat.le_succ _) _, q1.setRow rfl⟩, r0.setRow q1 win_node _⟩, r3.setRow q1 win_node _⟩, r4.setRow q1 win_lead _⟩, r7.setRow q1 win_lead _⟩) rfl (by kernel_rfl) (by rfl) rfl (by rfl) (by rfl) rfl (by kernel_rfl) (by simp [Value.oneCell']) ?_
      simp only [Act.put, List.setIfInBounds_toArray, List.set_cons_zero, List.set_cons_succ]
      refine doneW (by kernel_rfl) fun wH1 HG => ?_
      obtain ⟨⟨⟨⟨⟨⟨hH, q1⟩, r0⟩, r3⟩, r4⟩, r7⟩, hs⟩ := HG
      have H1 := Lib.hid hH; clear hH
      have MH1_q1 := Lib.hid q1; clear q1
      have MH1_o0 := Lib.hid r0; clear r0
      have MH1_o3 := Lib.hid r3; clear r3
      have MH1_o4 := Lib.hid r4; clear r4
      have MH1_o7 := Lib.hid r7; clear r7
      have MH1_s := Lib.hid hs; clear hs
      try clear x0 x1
      have y0 := (cell_of_cells (k := 0) MH1_s.out).trans (rfl : _ = some (Value.slice a3 ns.length c3'))
      have y1 := (cell_of_cells (k := 1) MH1_s.out).trans (rfl : _ = some (Value.slice a7 ls.length c7'))
      go_wp2_with fail
      refine bodyPost_ret (v := .agg #[.slice a3 ns.length c3', .slice a7 ls.length c7']) (by simp [results, Tryz.results38, go_sem, y0, y1]) rfl ?_
      exact ⟨_, _, rfl, ⟨MH1_o3.out, MH1_o7.out⟩, H1.out.below⟩
    · skip
      refine freeOp (i := 4) (fun v W => NewE w.heap.size 104 v W) (Stable.and (Stable.and (Stable.held _ _) (stable_blkN (w.heap.size + 1) 30 2)) (stable_newE w.heap.size 106 (.slice (some ⟨b0, 0, none⟩) 0 0))) (fun v => stable_newE w.heap.size 104 v) rfl (by rfl) (fun W hS => ?_) (fun v hex => ?_)
      · obtain ⟨⟨hH, q1⟩, r0⟩ := hS; obtain ⟨x0, x1, _⟩ := hH.1; exact freeR_newE (by go_simp <;> with_reducible rfl) hH.below.size
      obtain ⟨WX, hex⟩ := hex
      obtain ⟨b4, rfl, -, -⟩ := hex
      try clear hex
      try clear WX
      simp only [Act.put, List.setIfInBounds_toArray, List.set_cons_zero, List.set_cons_succ]
      refine freeX (i := 3) (fun v W => Own W w.heap.size 106 v ns) (Stable.and (Stable.and (Stable.and (Stable.held _ _) (stable_blkN (w.heap.size + 1) 30 2)) (stable_newE w.heap.size 106 (.slice (some ⟨b0, 0, none⟩) 0 0))) (stable_newE w.heap.size 104 (.slice (some ⟨b4, 0, none⟩) 0 0))) (fun v => stable_own w.heap.size 106 v ns) rfl (by kernel_rfl) (by rfl) (fun W hS => ?_) (fun v hex => ?_)
      · obtain ⟨⟨⟨hH, q1⟩, r0⟩, r4⟩ := hS; obtain ⟨x0, x1, _⟩ := hH.1; exact freeR_append r0 (HN.out.step hH.below) h1 Tryz.underlying27 HF1.out.1 HF1.out.2.1 HF1.out.2.2.1 HF1.out.2.2.2 rfl (by rfl) (by rfl) (by rfl)
      obtain ⟨WX, hex⟩ := hex
      obtain ⟨a3, c3', rfl, -, -, -⟩ := hex.form
      try clear hex
      try clear WX
      simp only [Act.put, List.setIfInBounds_toArray, List.set_cons_zero, List.set_cons_succ]
      refine freeX (i := 7) (fun v W => Own W w.heap.size 104 v ls) (Stable.and (Stable.and (Stable.and (Stable.and (Stable.held _ _) (stable_blkN (w.heap.size + 1) 30 2)) (stable_newE w.heap.size 106 (.slice (some ⟨b0, 0, none⟩) 0 0))) (stable_newE w.heap.size 104 (.slice (some ⟨b4, 0, none⟩) 0 0))) (stable_own w.heap.size 106 (.slice a3 ns.length c3') ns)) (fun v => stable_own w.heap.size 104 v ls) rfl (by kernel_rfl) (by rfl) (fun W hS => ?_) (fun v hex => ?_)
      · obtain ⟨⟨⟨⟨hH, q1⟩, r0⟩, r4⟩, r3⟩ := hS; obtain ⟨x0, x1, _⟩ := hH.1; exact freeR_append r4 (HL.out.step hH.below) h2 Tryz.underlying28 HF2.out.1 HF2.out.2.1 HF2.out.2.2.1 HF2.out.2.2.2 rfl (by rfl) (by rfl) (by rfl)
      obtain ⟨WX, hex⟩ := hex
      obtain ⟨a7, c7', rfl, -, -, -⟩ := hex.form
      try clear hex
      try clear WX
      simp only [Act.put, List.setIfInBounds_toArray, List.set_cons_zero, List.set_cons_succ]
      refine takeW (i := 8) (v := ?_) (Stable.and (Stable.and (Stable.and (Stable.and (Stable.and (Stable.held _ _) (stable_blkN (w.heap.size + 1) 30 2)) (stable_newE w.heap.size 106 (.slice (some ⟨b0, 0, none⟩) 0 0))) (stable_newE w.heap.size 104 (.slice (some ⟨b4, 0, none⟩) 0 0))) (stable_own w.heap.size 106 (.slice a3 ns.length c3') ns)) (stable_own w.heap.size 104 (.slice a7 ls.length c7') ls)) rfl (by kernel_rfl) (by kernel_rfl) (by kernel_rfl) (fun _ _ _ h => h) ?_ ?_
      rotate_left
      · first | (refine Or.inl ⟨by rfl, fun W hS => detR_value (w' := W) ?_ (Below.refl _ _)⟩; obtain ⟨⟨⟨⟨⟨hH, q1⟩, r0⟩, r4⟩, r3⟩, r7⟩ := hS; obtain ⟨x0, x1, _⟩ := hH.1; go_simp; first | done | with_reducible rfl) | fail
      simp only [Act.put, List.setIfInBounds_toArray, List.set_cons_zero, List.set_cons_succ]
      refine storeK (i := 9) (b := w.heap.size + 1) #[.slice a3 ns.length c3', .slice a7 ls.length c7'] (Stable.and (Stable.and (Stable.and (Stable.and (Stable.and (Stable.held _ _) (stable_blkN (w.heap.size + 1) 30 2)) (stable_newE w.heap.size 106 (.slice (some ⟨b0, 0, none⟩) 0 0))) (stable_newE w.heap.size 104 (.slice (some ⟨b4, 0, none⟩) 0 0))) (stable_own w.heap.size 106 (.slice a3 ns.length c3') ns)) (stable_own w.heap.size 104 (.slice a7 ls.length c7') ls)) (fun W hS => by obtain ⟨⟨⟨⟨⟨hH, q1⟩, r0⟩, r4⟩, r3⟩, r7⟩ := hS; exact q1) (fun W hS => by obtain ⟨⟨⟨⟨⟨hH, q1⟩, r0⟩, r4⟩, r3⟩, r7⟩ := hS; exact ⟨⟨⟨⟨⟨hH.setRowAt (by simp) (Nat.le_succ _) _, q1.setRow rfl⟩, r0.setRow q1 win_node _⟩, r4.setRow q1 win_lead _⟩, r3.setRow q1 win_node _⟩, r7.setRow q1 win_lead _⟩) rfl (by kernel_rfl) (by rfl) rfl (by rfl) (by rfl) rfl (by kernel_rfl) (by simp [Value.oneCell']) ?_
      simp only [Act.put, List.setIfInBounds_toArray, List.set_cons_zero, List.set_cons_succ]
      refine doneW (by kernel_rfl) fun wH1 HG => ?_
      obtain ⟨⟨⟨⟨⟨⟨hH, q1⟩, r0⟩, r4⟩, r3⟩, r7⟩, hs⟩ := HG
      have H1 := Lib.hid hH; clear hH
      have MH1_q1 := Lib.hid q1; clear q1
      have MH1_o0 := Lib.hid r0; clear r0
      have MH1_o4 := Lib.hid r4; clear r4
      have MH1_o3 := Lib.hid r3; clear r3
      have MH1_o7 := Lib.hid r7; clear r7
      have MH1_s := Lib.hid hs; clear hs
      try clear x0 x1
      have y0 := (cell_of_cells (k := 0) MH1_s.out).trans (rfl : _ = some (Value.slice a3 ns.length c3'))
      have y1 := (cell_of_cells (k := 1) MH1_s.out).trans (rfl : _ = some (Value.slice a7 ls.length c7'))
      go_wp2_with fail
      refine bodyPost_ret (v := .agg #[.slice a3 ns.length c3', .slice a7 ls.length c7']) (by simp [results, Tryz.results38, go_sem, y0, y1]) rfl ?_
      exact ⟨_, _, rfl, ⟨MH1_o3.out, MH1_o7.out⟩, H1.out.below⟩
  · skip
    refine freeOp (i := 4) (fun v W => NewE w.heap.size 104 v W) (Stable.and (Stable.held _ _) (stable_blkN (w.heap.size + 1) 30 2)) (fun v => stable_newE w.heap.size 104 v) rfl (by rfl) (fun W hS => ?_) (fun v hex => ?_)
    · obtain ⟨hH, q1⟩ := hS; obtain ⟨x0, x1, _⟩ := hH.1; exact freeR_newE (by go_simp <;> with_reducible rfl) hH.below.size
    obtain ⟨WX, hex⟩ := hex
    obtain ⟨b4, rfl, -, -⟩ := hex
    try clear hex
    try clear WX
    simp only [Act.put, List.setIfInBounds_toArray, List.set_cons_zero, List.set_cons_succ]
    refine freeX (i := 0) (fun v W => NewE w.heap.size 106 v W) (Stable.and (Stable.and (Stable.held _ _) (stable_blkN (w.heap.size + 1) 30 2)) (stable_newE w.heap.size 104 (.slice (some ⟨b4, 0, none⟩) 0 0))) (fun v => stable_newE w.heap.size 106 v) rfl (by kernel_rfl) (by rfl) (fun W hS => ?_) (fun v hex => ?_)
    · obtain ⟨⟨hH, q1⟩, r4⟩ := hS; obtain ⟨x0, x1, _⟩ := hH.1; exact freeR_newE (by go_simp <;> with_reducible rfl) hH.below.size
    obtain ⟨WX, hex⟩ := hex
    obtain ⟨b0, rfl, -, -⟩ := hex
    try clear hex
    try clear WX
    simp only [Act.put, List.setIfInBounds_toArray, List.set_cons_zero, List.set_cons_succ]
    refine freeX (i := 3) (fun v W => Own W w.heap.size 106 v ns) (Stable.and (Stable.and (Stable.and (Stable.held _ _) (stable_blkN (w.heap.size + 1) 30 2)) (stable_newE w.heap.size 104 (.slice (some ⟨b4, 0, none⟩) 0 0))) (stable_newE w.heap.size 106 (.slice (some ⟨b0, 0, none⟩) 0 0))) (fun v => stable_own w.heap.size 106 v ns) rfl (by kernel_rfl) (by rfl) (fun W hS => ?_) (fun v hex => ?_)
    · obtain ⟨⟨⟨hH, q1⟩, r4⟩, r0⟩ := hS; obtain ⟨x0, x1, _⟩ := hH.1; exact freeR_append r0 (HN.out.step hH.below) h1 Tryz.underlying27 HF1.out.1 HF1.out.2.1 HF1.out.2.2.1 HF1.out.2.2.2 rfl (by rfl) (by rfl) (by rfl)
    obtain ⟨WX, hex⟩ := hex
    obtain ⟨a3, c3', rfl, -, -, -⟩ := hex.form
    try clear hex
    try clear WX
    simp only [Act.put, List.setIfInBounds_toArray, List.set_cons_zero, List.set_cons_succ]
    refine freeX (i := 7) (fun v W => Own W w.heap.size 104 v ls) (Stable.and (Stable.and (Stable.and (Stable.and (Stable.held _ _) (stable_blkN (w.heap.size + 1) 30 2)) (stable_newE w.heap.size 104 (.slice (some ⟨b4, 0, none⟩) 0 0))) (stable_newE w.heap.size 106 (.slice (some ⟨b0, 0, none⟩) 0 0))) (stable_own w.heap.size 106 (.slice a3 ns.length c3') ns)) (fun v => stable_own w.heap.size 104 v ls) rfl (by kernel_rfl) (by rfl) (fun W hS => ?_) (fun v hex => ?_)
    · obtain ⟨⟨⟨⟨hH, q1⟩, r4⟩, r0⟩, r3⟩ := hS; obtain ⟨x0, x1, _⟩ := hH.1; exact freeR_append r4 (HL.out.step hH.below) h2 Tryz.underlying28 HF2.out.1 HF2.out.2.1 HF2.out.2.2.1 HF2.out.2.2.2 rfl (by rfl) (by rfl) (by rfl)
    obtain ⟨WX, hex⟩ := hex
    obtain ⟨a7, c7', rfl, -, -, -⟩ := hex.form
    try clear hex
    try clear WX
    simp only [Act.put, List.setIfInBounds_toArray, List.set_cons_zero, List.set_cons_succ]
    refine takeW (i := 8) (v := ?_) (Stable.and (Stable.and (Stable.and (Stable.and (Stable.and (Stable.held _ _) (stable_blkN (w.heap.size + 1) 30 2)) (stable_newE w.heap.size 104 (.slice (some ⟨b4, 0, none⟩) 0 0))) (stable_newE w.heap.size 106 (.slice (some ⟨b0, 0, none⟩) 0 0))) (stable_own w.heap.size 106 (.slice a3 ns.length c3') ns)) (stable_own w.heap.size 104 (.slice a7 ls.length c7') ls)) rfl (by kernel_rfl) (by kernel_rfl) (by kernel_rfl) (fun _ _ _ h => h) ?_ ?_
    rotate_left
    · first | (refine Or.inl ⟨by rfl, fun W hS => detR_value (w' := W) ?_ (Below.refl _ _)⟩; obtain ⟨⟨⟨⟨⟨hH, q1⟩, r4⟩, r0⟩, r3⟩, r7⟩ := hS; obtain ⟨x0, x1, _⟩ := hH.1; go_simp; first | done | with_reducible rfl) | fail
    simp only [Act.put, List.setIfInBounds_toArray, List.set_cons_zero, List.set_cons_succ]
    refine storeK (i := 9) (b := w.heap.size + 1) #[.slice a3 ns.length c3', .slice a7 ls.length c7'] (Stable.and (Stable.and (Stable.and (Stable.and (Stable.and (Stable.held _ _) (stable_blkN (w.heap.size + 1) 30 2)) (stable_newE w.heap.size 104 (.slice (some ⟨b4, 0, none⟩) 0 0))) (stable_newE w.heap.size 106 (.slice (some ⟨b0, 0, none⟩) 0 0))) (stable_own w.heap.size 106 (.slice a3 ns.length c3') ns)) (stable_own w.heap.size 104 (.slice a7 ls.length c7') ls)) (fun W hS => by obtain ⟨⟨⟨⟨⟨hH, q1⟩, r4⟩, r0⟩, r3⟩, r7⟩ := hS; exact q1) (fun W hS => by obtain ⟨⟨⟨⟨⟨hH, q1⟩, r4⟩, r0⟩, r3⟩, r7⟩ := hS; exact ⟨⟨⟨⟨⟨hH.setRowAt (by simp) (Nat.le_succ _) _, q1.setRow rfl⟩, r4.setRow q1 win_lead _⟩, r0.setRow q1 win_node _⟩, r3.setRow q1 win_node _⟩, r7.setRow q1 win_lead _⟩) rfl (by kernel_rfl) (by rfl) rfl (by rfl) (by rfl) rfl (by kernel_rfl) (by simp [Value.oneCell']) ?_
    simp only [Act.put, List.setIfInBounds_toArray, List.set_cons_zero, List.set_cons_succ]
    refine doneW (by kernel_rfl) fun wH1 HG => ?_
    obtain ⟨⟨⟨⟨⟨⟨hH, q1⟩, r4⟩, r0⟩, r3⟩, r7⟩, hs⟩ := HG
    have H1 := Lib.hid hH; clear hH
    have MH1_q1 := Lib.hid q1; clear q1
    have MH1_o4 := Lib.hid r4; clear r4
    have MH1_o0 := Lib.hid r0; clear r0
    have MH1_o3 := Lib.hid r3; clear r3
    have MH1_o7 := Lib.hid r7; clear r7
    have MH1_s := Lib.hid hs; clear hs
    try clear x0 x1
    have y0 := (cell_of_cells (k := 0) MH1_s.out).trans (rfl : _ = some (Value.slice a3 ns.length c3'))
    have y1 := (cell_of_cells (k := 1) MH1_s.out).trans (rfl : _ = some (Value.slice a7 ls.length c7'))
    go_wp2_with fail
    refine bodyPost_ret (v := .agg #[.slice a3 ns.length c3', .slice a7 ls.length c7']) (by simp [results, Tryz.results38, go_sem, y0, y1]) rfl ?_
    exact ⟨_, _, rfl, ⟨MH1_o3.out, MH1_o7.out⟩, H1.out.below⟩

end Go.Proofs.YtibgfbkepkjmbaaGreat
