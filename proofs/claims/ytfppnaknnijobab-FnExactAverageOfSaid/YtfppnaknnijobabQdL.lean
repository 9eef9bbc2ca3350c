/-
  The laws' helpers on slices of recipes.
-/
import Derived.Test.YtfppnaknnijobabQdp
import Derived.Test.YtfppnaknnijobabMarkB
import Derived.Test.YtfppnaknnijobabDet
namespace Go.Proofs.Ytfppnaknnijobab
open Go.RowKit
set_option linter.unusedVariables false
set_option linter.unusedSimpArgs false

theorem made_flQ (n : Nat) : (madeCells (Value.agg #[.int .i64 0, .int .i64 0, .int .i64 0, .int .i64 0]).cells (n * 4)).toList = flQ (List.replicate n ⟨0, 0, 0, 0⟩) := by
  apply List.ext_getElem?
  intro i
  by_cases h : i < n * 4
  · obtain ⟨k, j, hk, hj, rfl⟩ : ∃ k j, k < n ∧ j < 4 ∧ i = k * 4 + j := ⟨i / 4, i % 4, by omega, by omega, by omega⟩
    obtain ⟨e0, e1, e2, e3⟩ := flQ_get (List.replicate n ⟨0, 0, 0, 0⟩) k (by simpa using hk)
    have e : atQ (List.replicate n ⟨0, 0, 0, 0⟩) k = ⟨0, 0, 0, 0⟩ := by simp [atQ, List.getD, List.getElem?_replicate, hk]
    rw [e] at e0 e1 e2 e3
    have hj3 : j = 0 ∨ j = 1 ∨ j = 2 ∨ j = 3 := by omega
    rcases hj3 with rfl | rfl | rfl | rfl
    · rw [Nat.add_zero, e0]
      simp [madeCells, Value.cells, List.getElem?_range, show k * 4 < n * 4 by omega]
    · rw [e1]
      simp [madeCells, Value.cells, List.getElem?_range, show k * 4 + 1 < n * 4 by omega, show (k * 4 + 1) % 4 = 1 by omega]
    · rw [e2]
      simp [madeCells, Value.cells, List.getElem?_range, show k * 4 + 2 < n * 4 by omega, show (k * 4 + 2) % 4 = 2 by omega]
    · rw [e3]
      simp [madeCells, Value.cells, List.getElem?_range, show k * 4 + 3 < n * 4 by omega, show (k * 4 + 3) % 4 = 3 by omega]
  · rw [List.getElem?_eq_none (by simp [madeCells]; omega), List.getElem?_eq_none (by rw [flQ_len]; simp; omega)]
theorem filledQ (xs : List Qd) (k : Nat) (h : k < xs.length) : (xs.take k ++ List.replicate (xs.length - k) (⟨0, 0, 0, 0⟩ : Qd)).set k (atQ xs k) = xs.take (k + 1) ++ List.replicate (xs.length - (k + 1)) ⟨0, 0, 0, 0⟩ := by
  rw [List.set_append_right _ _ (by simp; omega), takeQd h, List.length_take, Nat.min_eq_left (by omega), Nat.sub_self,
    show xs.length - k = (xs.length - (k + 1)) + 1 by omega, List.replicate_succ, List.set_cons_zero, List.append_assoc]
  simp
/-- What is returned: the quads xs in new memory. -/
def QpsNew (T : TypeId) (xs : List Qd) (w : World) (e : Ending) (w' : World) : Prop := ∃ v, e = .returned v ∧ Qps w' w.heap.size T v xs ∧ Below w.heap.size w w'

theorem infoRecipe : (Try.prog.info? 47).map (fun i => (i.zero, i.size, i.bytes)) = some (some (.agg #[.int .i64 0, .int .i64 0, .int .i64 0, .int .i64 0]), 4, 32) := by kernel_rfl

set_option maxRecDepth 100000 in
set_option maxHeartbeats 4000000 in
theorem toRecipeS_any (xs : List Qd) (v : Value) (w : World) (hv : Qds w v xs) (hlen : xs.length ≤ 1048576) :
    Calls Try.prog 32 #[v] w (QpsNew 47 xs w) := by
  obtain ⟨i0, hi0, hz0, hz1, hz2⟩ := info_parts infoRecipe
  obtain ⟨w2, hmk, hown, hgr⟩ := run_make_full (P := Try.prog) w w.heap.size 50 47 i0 _ 4 Try.underlying50 hi0 hz0 hz1 .i64 .i64 xs.length (by rw [hz2]; omega) (by unfold maxLen; omega) (Nat.le_refl _)
  have HC := Lib.hid hv
  obtain ⟨A, c, rfl⟩ := hv.form2
  clear hv
  have hb0 : Below w.heap.size w w2 := ⟨hgr.os, hgr.tape, hgr.output, hgr.size, fun k hk => hgr.block k hk (by simp)⟩
  have HB0 := Lib.hid hb0; clear hb0 hgr
  have ho : Qps w2 w.heap.size 47 (.slice (some ⟨w.heap.size, 0, none⟩) xs.length xs.length) (xs.take 0 ++ List.replicate (xs.length - 0) ⟨0, 0, 0, 0⟩) := by
    rw [made_flQ] at hown
    unfold Qps
    simpa using hown
  have HO := Lib.hid ho; clear ho hown
  clear hi0 hz0 hz1 hz2
  go_enter Try.func32, Try.ntmps32
  go_wp2_with fail
  clear hmk
  go_loopw [4] (fun i wr => ∃ k : Nat, k ≤ xs.length ∧ i = .int .i64 k ∧ Qps wr w.heap.size 47 (.slice (some ⟨w.heap.size, 0, none⟩) xs.length xs.length) (xs.take k ++ List.replicate (xs.length - k) ⟨0, 0, 0, 0⟩) ∧ Below w.heap.size w wr) (fun i _ => xs.length - (intOf i).toNat)
  case atStart => exact ⟨0, Nat.zero_le _, rfl, HO.out, HB0.out⟩
  case round =>
    clear HO HB0
    obtain ⟨k, hk, rfl, hown, hb⟩ := hrel
    have HOWN := Lib.hid hown; clear hown
    have HB := Lib.hid hb; clear hb
    by_cases hlt : k < xs.length
    · obtain ⟨_, _, he, _, _, hcs⟩ := (HC.out.step HB.out).form
      injection he with he1 he2 he3
      obtain ⟨b, o, hA, hbl, hc0, hc1, hc2, hc3⟩ := hcs k hlt
      rw [← he1] at hA
      subst hA
      clear he1 he2 he3 hcs
      have HT := Lib.hid (toRecipe_any (atQ xs k))
      have HS := Lib.hid (filledQ xs k hlt)
      have hsz := HB.out.size
      have hz1 : (k : Int) < (xs.length : Int) := by omega
      have hz2 : (0 : Int) ≤ k := by omega
      generalize atQ xs k = t at *
      obtain ⟨x, y, z, u⟩ := t
      unfold QdIs Qd.val at HT
      simp only at HT hc0 hc1 hc2 hc3
      go_wp2_with fail
      refine (HT.out _).mono ?_
      rintro e w1 ⟨rfl, hb1⟩
      have HO1 := Lib.hid (HOWN.out.step hb1)
      have HB1 := Lib.hid (HB.out.trans (hb1.mono hsz)); clear hb1
      obtain ⟨g0, g1, g2, g3, f0, f1, f2, f3⟩ := HO1.out.at_ (j := k) (by simp; omega)
      have HST := Lib.hid (HO1.out.set (k := k) (by simp; omega) (by simp; omega) ⟨x, y, z, u⟩)
      go_wp2_with fail
      exact ⟨⟨k + 1, by omega, by go_num, by rw [← HS.out]; exact HST.out, (((HB1.out.setCell (Nat.le_refl _) _).setCell (Nat.le_refl _) _).setCell (Nat.le_refl _) _).setCell (Nat.le_refl _) _⟩, by simp [intOf]; omega⟩
    · have ek : k = xs.length := by omega
      have EK := Lib.hid ek; clear ek
      go_wp2_with fail
      go_ret
      refine ⟨_, rfl, ?_, HB.out⟩
      have := HOWN.out
      rw [EK.out] at this
      simpa using this

theorem szRecipeS_any (n c : Nat) (A : Option Addr) (left : Int) (w : World) (hl : 0 ≤ left) (hl2 : left ≤ 1048576) (hn : n ≤ 9223372036854775807) :
    Calls Try.prog 30 #[.slice A n c, .int .i64 left] w fun e w' => e = .returned (.int .i64 (if left < n then -1 else left - n)) ∧ w = w' := by
  generalize hr : (if left < (n : Int) then (-1 : Int) else left - n) = r
  have HR := Lib.hid hr; clear hr
  by_cases h : left < n
  · go_enter Try.func30, Try.ntmps30
    go_wp2_with fail
    go_ret
    exact ⟨ret_int (by rw [← HR.out, if_pos h]), rfl⟩
  · go_enter Try.func30, Try.ntmps30
    go_wp2_with fail
    go_ret
    exact ⟨ret_int (by rw [← HR.out, if_neg (by omega)]), rfl⟩

theorem eqRecipe_yes (t : Qd) (w : World) :
    Calls Try.prog 34 #[t.val, t.val] w (BoolIs true w) := by
  obtain ⟨x, y, z, u⟩ := t
  unfold Qd.val
  go_enter Try.func34, Try.ntmps34
  go_wp2_with fail
  go_ret
  exact ⟨rfl, below2 w _ _⟩

set_option maxRecDepth 100000 in
set_option maxHeartbeats 4000000 in
theorem eqRecipeS_yes (xs : List Qd) (v1 v2 : Value) (w : World) (h1 : Qds w v1 xs) (h2 : Qds w v2 xs) :
    Calls Try.prog 35 #[v1, v2] w (BoolIs true w) := by
  have hlen := h1.len
  have HC := Lib.hid h1
  have HD := Lib.hid h2
  obtain ⟨A, c, rfl⟩ := h1.form2
  obtain ⟨A2, c2, rfl⟩ := h2.form2
  clear h1 h2
  go_enter Try.func35, Try.ntmps35
  go_wp2_with fail
  go_loopw [5] (fun i wr => ∃ k : Nat, k ≤ xs.length ∧ i = .int .i64 k ∧ Below w.heap.size w wr) (fun i _ => xs.length - (intOf i).toNat)
  case atStart => exact ⟨0, Nat.zero_le _, rfl, Below.refl _ _⟩
  case round =>
    obtain ⟨k, hk, rfl, hb⟩ := hrel
    by_cases hlt : k < xs.length
    · obtain ⟨_, _, he, _, _, hcs⟩ := (HC.out.step hb).form
      injection he with he1 he2 he3
      obtain ⟨b, o, hA, hbl, c0, c1, c2, c3⟩ := hcs k hlt
      rw [← he1] at hA
      subst hA
      obtain ⟨_, _, he', _, _, hcs2⟩ := (HD.out.step hb).form
      injection he' with he1' he2' he3'
      obtain ⟨b2, o2, hA', hbl2, d0, d1, d2, d3⟩ := hcs2 k hlt
      rw [← he1'] at hA'
      subst hA'
      have H0 := Lib.hid (show Held wr wr [(b, o + k * 4, .int .i64 (atQ xs k).x), (b, o + k * 4 + 1, .int .i64 (atQ xs k).y), (b, o + k * 4 + 2, .int .i64 (atQ xs k).z), (b, o + k * 4 + 3, .int .i64 (atQ xs k).u), (b2, o2 + k * 4, .int .i64 (atQ xs k).x), (b2, o2 + k * 4 + 1, .int .i64 (atQ xs k).y), (b2, o2 + k * 4 + 2, .int .i64 (atQ xs k).z), (b2, o2 + k * 4 + 3, .int .i64 (atQ xs k).u)] from ⟨⟨c0, c1, c2, c3, d0, d1, d2, d3, trivial⟩, ⟨hbl, hbl, hbl, hbl, hbl2, hbl2, hbl2, hbl2, trivial⟩, Below.refl _ _⟩)
      have HB := Lib.hid hb
      clear hcs hcs2 he2 he3 he2' he3' hb c0 c1 c2 c3 d0 d1 d2 d3 he1 he1'
      have HE := Lib.hid (eqRecipe_yes (atQ xs k))
      generalize atQ xs k = t at *
      obtain ⟨x, y, z, u⟩ := t
      unfold Qd.val at HE
      simp only at HE H0
      have hz1 : (0 : Int) ≤ k := by omega
      have hz2 : (k : Int) < (xs.length : Int) := by omega
      go_wp2_with fail
      refine regionD (S := fun W => Held _ W [(b, o + k * 4, .int .i64 (x)), (b, o + k * 4 + 1, .int .i64 (y)), (b, o + k * 4 + 2, .int .i64 (z)), (b, o + k * 4 + 3, .int .i64 (u)), (b2, o2 + k * 4, .int .i64 (x)), (b2, o2 + k * 4 + 1, .int .i64 (y)), (b2, o2 + k * 4 + 2, .int .i64 (z)), (b2, o2 + k * 4 + 3, .int .i64 (u))]) (by kernel_rfl) H0.out.drew ?_
      iterate 10 (refine takeT (v := ?_) rfl (by kernel_rfl) (by kernel_rfl) (by kernel_rfl) ?_ ?_; rotate_left; (first | (refine Or.inr ⟨by rfl, ?_⟩; with_reducible rfl) | (refine Or.inl ⟨by rfl, fun W hS => detRes_value (w' := W) ?_ hS⟩; obtain ⟨x0, x1, x2, x3, x4, x5, x6, x7, _⟩ := hS.1; go_simp; first | done | with_reducible rfl) | (refine Or.inl ⟨by rfl, fun W hS => ?_⟩; refine detRes_call (w' := W) (f := ?_) (args := ?_) ?_ ?_; rotate_left 2; (go_simp; (refine ⟨?_, ?_⟩ <;> with_reducible rfl)); (first | (with_reducible refine (HE.out _).mono ?_) | fail); (first | (rintro e wn ⟨rfl, hb⟩; refine ⟨?_, hS.step hb⟩; with_reducible rfl) | (rintro e wn ⟨rfl, rfl⟩; refine ⟨?_, hS⟩; with_reducible rfl) | fail)) | fail); (simp only [Act.put, List.setIfInBounds_toArray, List.set_cons_zero, List.set_cons_succ]))
      refine doneD (by kernel_rfl) fun wH1 HS => ?_
      have H1 := Lib.hid HS; clear HS
      try clear x0 x1 x2 x3 x4 x5 x6 x7
      obtain ⟨x0, x1, x2, x3, x4, x5, x6, x7, _⟩ := H1.out.1
      go_wp2_with fail
      exact ⟨⟨k + 1, by omega, by go_num, HB.out.trans (H1.out.below.mono HB.out.size)⟩, by simp [intOf]; omega⟩
    · go_wp2_with fail
      go_ret
      exact ⟨rfl, hb⟩
end Go.Proofs.Ytfppnaknnijobab
