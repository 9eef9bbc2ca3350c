/-
  The laws' helpers on nodes and leads: toNode, toLead, their slices, sizes, equality.
-/
import Derived.Test.YtfppnaknnijobabOwn
import Derived.Test.YtfppnaknnijobabNodeB
import Derived.Test.YtfppnaknnijobabDet
import Derived.LoopTactic
import Derived.Outline
namespace Go.Proofs.Ytfppnaknnijobab
open Go.RowKit
set_option linter.unusedVariables false
set_option linter.unusedSimpArgs false

def NodeIs (n : Nd) (w : World) (e : Ending) (w' : World) : Prop := e = .returned n.val ∧ Below w.heap.size w w'

theorem toNode_any (n : Nd) (w : World) :
    Calls Try.prog 50 #[n.val] w (NodeIs n w) := by
  obtain ⟨x, y⟩ := n
  unfold Nd.val
  go_enter Try.func50, Try.ntmps50
  go_wp2_with fail
  refine bodyPost_ret (v := .agg #[.int .i64 x, .int .i64 y]) (by simp [results, Try.results50, go_sem]) rfl ⟨rfl, below3 w _ _ _⟩

theorem infoNode : (Try.prog.info? 82).map (fun i => (i.zero, i.size, i.bytes)) = some (some (.agg #[.int .i64 0, .int .i64 0]), 2, 16) := by kernel_rfl

theorem made_half (n : Nat) (xs : List Nd) : Half (madeCells (Value.agg #[.int .i64 0, .int .i64 0]).cells (n * 2)) n xs 0 := by
  refine ⟨size_madeCells _ _, fun j hj => ⟨0, 0, ?_, ?_⟩, fun j hj => by omega⟩
  · simp [madeCells, Value.cells, Array.getElem?_map, Array.getElem?_range, show j * 2 < n * 2 by omega]
  · have : (j * 2 + 1) % 2 = 1 := by omega
    simp [madeCells, Value.cells, Array.getElem?_map, Array.getElem?_range, show j * 2 + 1 < n * 2 by omega, this]

def MineIs (T : TypeId) (xs : List Nd) (w : World) (e : Ending) (w' : World) : Prop := ∃ v, e = .returned v ∧ Mine w' w.heap.size T v xs ∧ Below w.heap.size w w'

theorem toNodeS_any (xs : List Nd) (v : Value) (w : World) (hv : Prs w v xs) (hlen : xs.length ≤ 1048576) :
    Calls Try.prog 89 #[v] w (MineIs 82 xs w) := by
  obtain ⟨i0, hi0, hz0, hz1, hz2⟩ := info_parts infoNode
  have hmk := run_make_rowN (P := Try.prog) 73 82 i0 _ Try.underlying73 hi0 hz0 .i64 .i64 xs.length xs.length (Nat.le_refl _) (by rw [hz2]; omega) (by omega)
  rw [hz1] at hmk
  have HC := Lib.hid hv
  obtain ⟨A, c, rfl⟩ := prs_form2 hv
  clear hv
  have hh := made_half xs.length xs
  generalize madeCells (Value.agg #[.int .i64 0, .int .i64 0]).cells (xs.length * 2) = C0 at *
  have HH := Lib.hid hh; clear hh
  clear hi0 hz0 hz1 hz2
  go_enter Try.func89, Try.ntmps89
  go_wp2_with fail
  clear hmk
  go_loopw [4] (fun i wr => ∃ k : Nat, k ≤ xs.length ∧ i = .int .i64 k ∧ HalfAt wr w.heap.size 82 xs.length xs k ∧ Below w.heap.size w wr) (fun i _ => xs.length - (intOf i).toNat)
  case atStart => exact ⟨0, Nat.zero_le _, rfl, ⟨C0, heap_alloc_new w _, HH.out⟩, (Below.refl _ _).alloc (Nat.le_refl _) _⟩
  case round =>
    obtain ⟨k, hk, rfl, hha, hb⟩ := hrel
    by_cases hlt : k < xs.length
    · obtain ⟨b, o, c', he, hbl, hcs⟩ := prs_at2 (HC.out.step hb) hlt
      injection he with he1 he2 he3
      subst he1
      obtain ⟨c0, c1⟩ := hcs k hlt
      have HT := Lib.hid (toNode_any (atN xs k))
      have HA := Lib.hid hha; clear hha
      have HB := Lib.hid hb; clear hb
      have hsz := HB.out.size
      clear hcs he2 he3
      have hat : atN xs k = atN xs k := rfl
      have HS := Lib.hid (fun C (h : Half C xs.length xs k) => h.set_ hlt)
      generalize hn : atN xs k = n at *
      obtain ⟨nx, ny⟩ := n
      clear hn
      unfold NodeIs Nd.val at HT
      simp only at HT c0 c1 HS
      go_wp2_with fail
      refine (HT.out _).mono ?_
      rintro e w1 ⟨rfl, hb1⟩
      have hA1 := HA.out.below hb1
      have HB1 := Lib.hid (HB.out.trans (hb1.mono hsz)); clear hb1
      obtain ⟨C, hC, hh⟩ := hA1
      obtain ⟨p, q, hp, hq⟩ := hh.2.1 k hlt
      have HHH := Lib.hid (HS.out C hh)
      have g0 : w1.cell? ⟨w.heap.size, k * 2, none⟩ = some (.int .i64 p) := by rw [cell_of_cells hC]; exact hp
      have g1 : w1.cell? ⟨w.heap.size, k * 2 + 1, none⟩ = some (.int .i64 q) := by rw [cell_of_cells hC]; exact hq
      have f0 : w1.frozen? ⟨w.heap.size, k * 2, none⟩ = false := free_of_cells hC
      have f1 : w1.frozen? ⟨w.heap.size, k * 2 + 1, none⟩ = false := free_of_cells hC
      have HCC := Lib.hid hC
      clear hC hh hp hq
      go_wp2_with fail
      exact ⟨⟨k + 1, by omega, by go_num, ⟨_, heap_setCell_self (heap_setCell_self HCC.out _) _, HHH.out⟩, (HB1.out.setCell (Nat.le_refl _) _).setCell (Nat.le_refl _) _⟩, by simp [intOf]; omega⟩
    · go_wp2_with fail
      go_ret
      obtain rfl : k = xs.length := by omega
      exact ⟨_, rfl, ⟨_, xs.length, xs.length, rfl, Nat.le_refl _, by unfold maxLen; omega, fun _ => ⟨w.heap.size, rfl, Nat.le_refl _, Nat.le_refl _, hha⟩⟩, hb⟩

theorem szNodeS_any (n c : Nat) (A : Option Addr) (left : Int) (w : World) (hl : 0 ≤ left) (hl2 : left ≤ 1048576) (hn : n ≤ 9223372036854775807) :
    Calls Try.prog 87 #[.slice A n c, .int .i64 left] w fun e w' => e = .returned (.int .i64 (if left < n then -1 else left - n)) ∧ w = w' := by
  generalize hr : (if left < (n : Int) then (-1 : Int) else left - n) = r
  have HR := Lib.hid hr; clear hr
  by_cases h : left < n
  · go_enter Try.func87, Try.ntmps87
    go_wp2_with fail
    go_ret
    exact ⟨ret_int (by rw [← HR.out, if_pos h]), rfl⟩
  · go_enter Try.func87, Try.ntmps87
    go_wp2_with fail
    go_ret
    exact ⟨ret_int (by rw [← HR.out, if_neg (by omega)]), rfl⟩

theorem eqNode_yes (n : Nd) (w : World) :
    Calls Try.prog 54 #[n.val, n.val] w (BoolIs true w) := by
  obtain ⟨x, y⟩ := n
  unfold Nd.val
  go_enter Try.func54, Try.ntmps54
  go_wp2_with fail
  go_ret
  exact ⟨rfl, below2 w _ _⟩

set_option maxRecDepth 100000 in
theorem eqNodeS_yes (xs : List Nd) (v1 v2 : Value) (w : World) (h1 : Prs w v1 xs) (h2 : Prs w v2 xs) :
    Calls Try.prog 91 #[v1, v2] w (BoolIs true w) := by
  have hlen := h1.len
  have HC := Lib.hid h1
  have HD := Lib.hid h2
  obtain ⟨A, c, rfl⟩ := prs_form2 h1
  obtain ⟨A2, c2, rfl⟩ := prs_form2 h2
  clear h1 h2
  go_enter Try.func91, Try.ntmps91
  go_wp2_with fail
  go_loopw [5] (fun i wr => ∃ k : Nat, k ≤ xs.length ∧ i = .int .i64 k ∧ Below w.heap.size w wr) (fun i _ => xs.length - (intOf i).toNat)
  case atStart => exact ⟨0, Nat.zero_le _, rfl, Below.refl _ _⟩
  case round =>
    obtain ⟨k, hk, rfl, hb⟩ := hrel
    by_cases hlt : k < xs.length
    · obtain ⟨b, o, c', he, hbl, hcs⟩ := prs_at2 (HC.out.step hb) hlt
      injection he with he1 he2 he3
      subst he1
      obtain ⟨b2, o2, c2', he', hbl2, hcs2⟩ := prs_at2 (HD.out.step hb) hlt
      injection he' with he1' he2' he3'
      subst he1'
      have H0 := Lib.hid (Held.start (w := wr) ((P1_cs hcs hlt).append (P1_cs hcs2 hlt)) ((P1_bs hbl).append (P1_bs hbl2)))
      have HB := Lib.hid hb
      clear hcs hcs2 he2 he3 he2' he3' hb
      have HE := Lib.hid (eqNode_yes (atN xs k))
      unfold P1 at H0
      generalize atN xs k = n at *
      obtain ⟨nx, ny⟩ := n
      unfold Nd.val at HE
      simp only at HE H0
      have hz1 : (0 : Int) ≤ k := by omega
      have hz2 : (k : Int) < (xs.length : Int) := by omega
      go_wp2_with fail
      refine regionD (S := fun W => Held _ W [(b, o + k * 2, .int .i64 (nx)), (b, o + k * 2 + 1, .int .i64 (ny)), (b2, o2 + k * 2, .int .i64 (nx)), (b2, o2 + k * 2 + 1, .int .i64 (ny))]) (by kernel_rfl) H0.out.drew ?_
      iterate 10 (refine takeT (v := ?_) rfl (by kernel_rfl) (by kernel_rfl) (by kernel_rfl) ?_ ?_; rotate_left; (first | (refine Or.inr ⟨by rfl, ?_⟩; with_reducible rfl) | (refine Or.inl ⟨by rfl, fun W hS => detRes_value (w' := W) ?_ hS⟩; obtain ⟨x0, x1, x2, x3, _⟩ := hS.1; go_simp; first | done | with_reducible rfl) | (refine Or.inl ⟨by rfl, fun W hS => ?_⟩; refine detRes_call (w' := W) (f := ?_) (args := ?_) ?_ ?_; rotate_left 2; (go_simp; (refine ⟨?_, ?_⟩ <;> with_reducible rfl)); (first | (with_reducible refine (HE.out _).mono ?_) | fail); (first | (rintro e wn ⟨rfl, hb⟩; refine ⟨?_, hS.step hb⟩; with_reducible rfl) | (rintro e wn ⟨rfl, rfl⟩; refine ⟨?_, hS⟩; with_reducible rfl) | fail)) | fail); (simp only [Act.put, List.setIfInBounds_toArray, List.set_cons_zero, List.set_cons_succ]))
      refine doneD (by kernel_rfl) fun wH1 HS => ?_
      have H1 := Lib.hid HS; clear HS
      try clear x0 x1 x2 x3
      obtain ⟨x0, x1, x2, x3, _⟩ := H1.out.1
      go_wp2_with fail
      exact ⟨⟨k + 1, by omega, by go_num, HB.out.trans (H1.out.below.mono HB.out.size)⟩, by simp [intOf]; omega⟩
    · go_wp2_with fail
      go_ret
      exact ⟨rfl, hb⟩

end Go.Proofs.Ytfppnaknnijobab
