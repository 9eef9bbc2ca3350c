/-
  The laws' helpers on slices of structs of three ints.
-/
import Derived.Test.YtepacoacalhdcaaGreatTrp
import Derived.Test.YtepacoacalhdcaaGreatMarkB
import Derived.Test.YtepacoacalhdcaaGreatG1
namespace Go.Proofs.YtepacoacalhdcaaGreat
open Go.RowKit
set_option linter.unusedVariables false
set_option linter.unusedSimpArgs false

theorem made_flT (n : Nat) : (madeCells (Value.agg #[.int .i64 0, .int .i64 0, .int .i64 0]).cells (n * 3)).toList = flT (List.replicate n ⟨0, 0, 0⟩) := by
  apply List.ext_getElem?
  intro i
  by_cases h : i < n * 3
  · obtain ⟨k, j, hk, hj, rfl⟩ : ∃ k j, k < n ∧ j < 3 ∧ i = k * 3 + j := ⟨i / 3, i % 3, by omega, by omega, by omega⟩
    obtain ⟨e0, e1, e2⟩ := flT_get (List.replicate n ⟨0, 0, 0⟩) k (by simpa using hk)
    have e : atT (List.replicate n ⟨0, 0, 0⟩) k = ⟨0, 0, 0⟩ := by simp [atT, List.getD, List.getElem?_replicate, hk]
    rw [e] at e0 e1 e2
    have hj3 : j = 0 ∨ j = 1 ∨ j = 2 := by omega
    rcases hj3 with rfl | rfl | rfl
    · rw [Nat.add_zero, e0]
      simp [madeCells, Value.cells, List.getElem?_range, show k * 3 < n * 3 by omega]
    · rw [e1]
      simp [madeCells, Value.cells, List.getElem?_range, show k * 3 + 1 < n * 3 by omega, show (k * 3 + 1) % 3 = 1 by omega]
    · rw [e2]
      simp [madeCells, Value.cells, List.getElem?_range, show k * 3 + 2 < n * 3 by omega, show (k * 3 + 2) % 3 = 2 by omega]
  · rw [List.getElem?_eq_none (by simp [madeCells]; omega), List.getElem?_eq_none (by rw [flT_len]; simp; omega)]

theorem filledT (xs : List Tr) (k : Nat) (h : k < xs.length) : (xs.take k ++ List.replicate (xs.length - k) (⟨0, 0, 0⟩ : Tr)).set k (atT xs k) = xs.take (k + 1) ++ List.replicate (xs.length - (k + 1)) ⟨0, 0, 0⟩ := by
  rw [List.set_append_right _ _ (by simp; omega), takeTr h, List.length_take, Nat.min_eq_left (by omega), Nat.sub_self,
    show xs.length - k = (xs.length - (k + 1)) + 1 by omega, List.replicate_succ, List.set_cons_zero, List.append_assoc]
  simp

/-- What is returned: the triples xs in new memory. -/
def TpsNew (T : TypeId) (xs : List Tr) (w : World) (e : Ending) (w' : World) : Prop := ∃ v, e = .returned v ∧ Tps w' w.heap.size T v xs ∧ Below w.heap.size w w'

def marksT (k n : Nat) : List Tr := (List.range n).map fun i => ⟨((k + 3 * i : Nat) : Int), ((k + 3 * i + 1 : Nat) : Int), ((k + 3 * i + 2 : Nat) : Int)⟩

theorem marksT_len (k n : Nat) : (marksT k n).length = n := by simp [marksT]

theorem marksT_at (k0 n j : Nat) (h : j < n) : atT (marksT k0 n) j = ⟨((k0 + 3 * j : Nat) : Int), ((k0 + 3 * j + 1 : Nat) : Int), ((k0 + 3 * j + 2 : Nat) : Int)⟩ := by simp [atT, marksT, List.getD, h]

theorem marksT_set (k0 k : Nat) (fs : List Tr) (h : k < fs.length) : (marksT k0 k ++ fs.drop k).set k ⟨((k0 + 3 * k : Nat) : Int), ((k0 + 3 * k + 1 : Nat) : Int), ((k0 + 3 * k + 2 : Nat) : Int)⟩ = marksT k0 (k + 1) ++ fs.drop (k + 1) := by
  rw [List.set_append_right _ _ (by rw [marksT_len]; exact Nat.le_refl _), marksT_len, Nat.sub_self, List.drop_eq_getElem_cons h, List.set_cons_zero]
  simp [marksT, List.range_succ]

theorem grown_setT {w wr : World} {g j : Nat} {x : Value} (a : w.grownBy wr (some g)) : w.grownBy (wr.setCell ⟨g, j, none⟩ x) (some g) := by
  refine ⟨a.os, a.tape, a.output, ?_, fun i hi hne => ?_⟩
  · rw [heap_setCell_size]; exact a.size
  · rw [Below.heap_setCell _ _ _ _ (fun e => hne (by rw [e])), a.block i hi hne]

theorem szT (left : Int) (n : Nat) (r : Int) (h : r = if left < (n : Int) then (-1 : Int) else left - n) : r = if left < (n : Int) then (-1 : Int) else left - n := h

theorem infoStain : (Tryz.prog.info? 139).map (fun i => (i.zero, i.size, i.bytes)) = some (some (.agg #[.int .i64 0, .int .i64 0, .int .i64 0]), 3, 24) := by kernel_rfl

set_option maxRecDepth 100000 in
set_option maxHeartbeats 4000000 in
theorem toStainS_any (xs : List Tr) (v : Value) (w : World) (hv : Trs w v xs) (hlen : xs.length ≤ 1048576) :
    Calls Tryz.prog 47 #[v] w (TpsNew 139 xs w) := by
  obtain ⟨i0, hi0, hz0, hz1, hz2⟩ := info_parts infoStain
  obtain ⟨w2, hmk, hown, hgr⟩ := run_make_full (P := Tryz.prog) w w.heap.size 64 139 i0 _ 3 Tryz.underlying64 hi0 hz0 hz1 .i64 .i64 xs.length (by rw [hz2]; omega) (by unfold maxLen; omega) (Nat.le_refl _)
  have HC := Lib.hid hv
  obtain ⟨A, c, rfl⟩ := hv.form2
  clear hv
  have hb0 : Below w.heap.size w w2 := ⟨hgr.os, hgr.tape, hgr.output, hgr.size, fun k hk => hgr.block k hk (by simp)⟩
  have HB0 := Lib.hid hb0; clear hb0 hgr
  have ho : Tps w2 w.heap.size 139 (.slice (some ⟨w.heap.size, 0, none⟩) xs.length xs.length) (xs.take 0 ++ List.replicate (xs.length - 0) ⟨0, 0, 0⟩) := by
    rw [made_flT] at hown
    unfold Tps
    simpa using hown
  have HO := Lib.hid ho; clear ho hown
  clear hi0 hz0 hz1 hz2
  go_enter Tryz.func47, Tryz.ntmps47
  go_wp2_with fail
  clear hmk
  go_loopw [4] (fun i wr => ∃ k : Nat, k ≤ xs.length ∧ i = .int .i64 k ∧ Tps wr w.heap.size 139 (.slice (some ⟨w.heap.size, 0, none⟩) xs.length xs.length) (xs.take k ++ List.replicate (xs.length - k) ⟨0, 0, 0⟩) ∧ Below w.heap.size w wr) (fun i _ => xs.length - (intOf i).toNat)
  case atStart => exact ⟨0, Nat.zero_le _, rfl, HO.out, HB0.out⟩
  case round =>
    clear HO HB0
    obtain ⟨k, hk, rfl, hown, hb⟩ := hrel
    have HOWN := Lib.hid hown; clear hown
    have HB := Lib.hid hb; clear hb
    by_cases hlt : k < xs.length
    · obtain ⟨_, _, he, _, _, hcs⟩ := (HC.out.step HB.out).form
      injection he with he1 he2 he3
      obtain ⟨b, o, hA, hbl, hc0, hc1, hc2⟩ := hcs k hlt
      rw [← he1] at hA
      subst hA
      clear he1 he2 he3 hcs
      have HT := Lib.hid (toStain_any (atT xs k))
      have HS := Lib.hid (filledT xs k hlt)
      have hsz := HB.out.size
      have hz1 : (k : Int) < (xs.length : Int) := by omega
      have hz2 : (0 : Int) ≤ k := by omega
      generalize atT xs k = t at *
      obtain ⟨x, y, z⟩ := t
      unfold TriIs Tr.val at HT
      simp only at HT hc0 hc1 hc2
      go_wp2_with fail
      refine (HT.out _).mono ?_
      rintro e w1 ⟨rfl, hb1⟩
      have HO1 := Lib.hid (HOWN.out.step hb1)
      have HB1 := Lib.hid (HB.out.trans (hb1.mono hsz)); clear hb1
      obtain ⟨g0, g1, g2, f0, f1, f2⟩ := HO1.out.at_ (j := k) (by simp; omega)
      have HST := Lib.hid (HO1.out.set (k := k) (by simp; omega) (by simp; omega) ⟨x, y, z⟩)
      go_wp2_with fail
      exact ⟨⟨k + 1, by omega, by go_num, by rw [← HS.out]; exact HST.out, ((HB1.out.setCell (Nat.le_refl _) _).setCell (Nat.le_refl _) _).setCell (Nat.le_refl _) _⟩, by simp [intOf]; omega⟩
    · have ek : k = xs.length := by omega
      have EK := Lib.hid ek; clear ek
      go_wp2_with fail
      go_ret
      refine ⟨_, rfl, ?_, HB.out⟩
      have := HOWN.out
      rw [EK.out] at this
      simpa using this

theorem szStainS_any (n c : Nat) (A : Option Addr) (left : Int) (w : World) (hl : 0 ≤ left) (hl2 : left ≤ 1048576) (hn : n ≤ 9223372036854775807) :
    Calls Tryz.prog 45 #[.slice A n c, .int .i64 left] w fun e w' => e = .returned (.int .i64 (if left < n then -1 else left - n)) ∧ w = w' := by
  generalize hr : (if left < (n : Int) then (-1 : Int) else left - n) = r
  have HR := Lib.hid hr; clear hr
  by_cases h : left < n
  · go_enter Tryz.func45, Tryz.ntmps45
    go_wp2_with fail
    go_ret
    exact ⟨ret_int (by rw [← HR.out, if_pos h]), rfl⟩
  · go_enter Tryz.func45, Tryz.ntmps45
    go_wp2_with fail
    go_ret
    exact ⟨ret_int (by rw [← HR.out, if_neg (by omega)]), rfl⟩

theorem eqStain_yes (t : Tr) (w : World) :
    Calls Tryz.prog 120 #[t.val, t.val] w (BoolIs true w) := by
  obtain ⟨x, y, z⟩ := t
  unfold Tr.val
  go_enter Tryz.func120, Tryz.ntmps120
  go_wp2_with fail
  go_ret
  exact ⟨rfl, below2 w _ _⟩

set_option maxRecDepth 100000 in
set_option maxHeartbeats 4000000 in
theorem eqStainS_yes (xs : List Tr) (v1 v2 : Value) (w : World) (h1 : Trs w v1 xs) (h2 : Trs w v2 xs) :
    Calls Tryz.prog 49 #[v1, v2] w (BoolIs true w) := by
  have hlen := h1.len
  have HC := Lib.hid h1
  have HD := Lib.hid h2
  obtain ⟨A, c, rfl⟩ := h1.form2
  obtain ⟨A2, c2, rfl⟩ := h2.form2
  clear h1 h2
  go_enter Tryz.func49, Tryz.ntmps49
  go_wp2_with fail
  go_loopw [5] (fun i wr => ∃ k : Nat, k ≤ xs.length ∧ i = .int .i64 k ∧ Below w.heap.size w wr) (fun i _ => xs.length - (intOf i).toNat)
  case atStart => exact ⟨0, Nat.zero_le _, rfl, Below.refl _ _⟩
  case round =>
    obtain ⟨k, hk, rfl, hb⟩ := hrel
    by_cases hlt : k < xs.length
    · obtain ⟨_, _, he, _, _, hcs⟩ := (HC.out.step hb).form
      injection he with he1 he2 he3
      obtain ⟨b, o, hA, hbl, c0, c1, c2⟩ := hcs k hlt
      rw [← he1] at hA
      subst hA
      obtain ⟨_, _, he', _, _, hcs2⟩ := (HD.out.step hb).form
      injection he' with he1' he2' he3'
      obtain ⟨b2, o2, hA', hbl2, d0, d1, d2⟩ := hcs2 k hlt
      rw [← he1'] at hA'
      subst hA'
      have H0 := Lib.hid (show Held wr wr [(b, o + k * 3, .int .i64 (atT xs k).x), (b, o + k * 3 + 1, .int .i64 (atT xs k).y), (b, o + k * 3 + 2, .int .i64 (atT xs k).z), (b2, o2 + k * 3, .int .i64 (atT xs k).x), (b2, o2 + k * 3 + 1, .int .i64 (atT xs k).y), (b2, o2 + k * 3 + 2, .int .i64 (atT xs k).z)] from ⟨⟨c0, c1, c2, d0, d1, d2, trivial⟩, ⟨hbl, hbl, hbl, hbl2, hbl2, hbl2, trivial⟩, Below.refl _ _⟩)
      have HB := Lib.hid hb
      clear hcs hcs2 he2 he3 he2' he3' hb c0 c1 c2 d0 d1 d2 he1 he1'
      have HE := Lib.hid (eqStain_yes (atT xs k))
      generalize atT xs k = t at *
      obtain ⟨x, y, z⟩ := t
      unfold Tr.val at HE
      simp only at HE H0
      have hz1 : (0 : Int) ≤ k := by omega
      have hz2 : (k : Int) < (xs.length : Int) := by omega
      go_wp2_with fail
      refine regionD (S := fun W => Held _ W [(b, o + k * 3, .int .i64 (x)), (b, o + k * 3 + 1, .int .i64 (y)), (b, o + k * 3 + 2, .int .i64 (z)), (b2, o2 + k * 3, .int .i64 (x)), (b2, o2 + k * 3 + 1, .int .i64 (y)), (b2, o2 + k * 3 + 2, .int .i64 (z))]) (by kernel_rfl) H0.out.drew ?_
      iterate 10 (refine takeT (v := ?_) rfl (by kernel_rfl) (by kernel_rfl) (by kernel_rfl) ?_ ?_; rotate_left; (first | (refine Or.inr ⟨by rfl, ?_⟩; with_reducible rfl) | (refine Or.inl ⟨by rfl, fun W hS => detRes_value (w' := W) ?_ hS⟩; obtain ⟨x0, x1, x2, x3, x4, x5, _⟩ := hS.1; go_simp; first | done | with_reducible rfl) | (refine Or.inl ⟨by rfl, fun W hS => ?_⟩; refine detRes_call (w' := W) (f := ?_) (args := ?_) ?_ ?_; rotate_left 2; (go_simp; (refine ⟨?_, ?_⟩ <;> with_reducible rfl)); (first | (with_reducible refine (HE.out _).mono ?_) | fail); (first | (rintro e wn ⟨rfl, hb⟩; refine ⟨?_, hS.step hb⟩; with_reducible rfl) | (rintro e wn ⟨rfl, rfl⟩; refine ⟨?_, hS⟩; with_reducible rfl) | fail)) | fail); (simp only [Act.put, List.setIfInBounds_toArray, List.set_cons_zero, List.set_cons_succ]))
      refine doneD (by kernel_rfl) fun wH1 HS => ?_
      have H1 := Lib.hid HS; clear HS
      try clear x0 x1 x2 x3 x4 x5
      obtain ⟨x0, x1, x2, x3, x4, x5, _⟩ := H1.out.1
      go_wp2_with fail
      exact ⟨⟨k + 1, by omega, by go_num, HB.out.trans (H1.out.below.mono HB.out.size)⟩, by simp [intOf]; omega⟩
    · go_wp2_with fail
      go_ret
      exact ⟨rfl, hb⟩

end Go.Proofs.YtepacoacalhdcaaGreat
