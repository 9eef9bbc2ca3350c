/-
  slices.Delete of one lead, on a slice of the caller's own.
-/
import Derived.Test.YtkkjcdilpbofmaaAdd
import Derived.Deep.RegionLaw
import Derived.Laws.IdiomCopy
namespace Go.Proofs.Ytkkjcdilpbofmaa
open Go.RowKit
set_option linter.unusedVariables false
set_option linter.unusedSimpArgs false

theorem run_clear_pair {P : Program} (W : World) (t e ty : TypeId) {i : TypeInfo} (ht : P.underlying t = some (.slice e)) (hi : P.info? e = some i) (hz : i.zero = some (.agg #[.int .i64 0, .int .i64 0])) (g o c : Nat)
    (h0 : (W.cell? ⟨g, o, none⟩).isSome = true) (h1 : (W.cell? ⟨g, o + 1, none⟩).isSome = true) (f0 : W.frozen? ⟨g, o, none⟩ = false) (f1 : W.frozen? ⟨g, o + 1, none⟩ = false) :
    (Builtin.clear_ #[t] ty #[.slice (some ⟨g, o, none⟩) 1 c]).run P W = .ok (.tuple #[]) ((W.setCell ⟨g, o, none⟩ (.int .i64 0)).setCell ⟨g, o + 1, none⟩ (.int .i64 0)) := by
  have hst := run_storeCells_cells (P := P) g o [.int .i64 0, .int .i64 0] 0 W (fun j hj => by match j, hj with | 0, _ => exact h0 | 1, _ => exact h1) (fun j hj => by match j, hj with | 0, _ => exact f0 | 1, _ => exact f1) (by simp [Value.oneCell'])
  simp only [Nat.add_zero] at hst
  have hzc : (Builtin.zeroCells (Value.agg #[.int .i64 0, .int .i64 0]).cells 1).toList = [.int .i64 0, .int .i64 0] := by simp [Builtin.zeroCells, Value.cells, List.range_succ]
  simp [Builtin.clear_, run_underlying ht, zeroValue, typeInfo, hi, hz, hzc, hst]
  rfl
theorem step_append_row {P : Program} {ops : Array Oper} {o : Oper} {a : Act} {w : World} {K : Act → World → Prop} {Q : Exit → Act → World → Prop} {E : Prop}
    (hg : o.guard = none) (s x : Operand) (t : TypeId) (hop : o.op = Op.call { callee := Callee.builtin Builtin.append, args := #[s, x], argTypes := #[t, t] })
    (e : TypeId) (i : TypeInfo) (h1 : P.underlying t = some (.slice e)) (h2 : P.info? e = some i) (h4 : i.size = 2)
    (g n cap : Nat) (cur : Array Value) (hgc : w.heap[g]? = some (.cells cur e (0, 0))) (hs : a.eval s = .slice (some ⟨g, 0, none⟩) n cap)
    (ad : Addr) (m c : Nat) (news : List Value) (hx : a.eval x = .slice (some ad) m c) (hn : news.length = m * 2) (hc : ∀ j u, news[j]? = some u → w.cell? (ad.add j) = some u) (h1c : ∀ u ∈ news, u.oneCell' = true)
    (hroom : n + m ≤ cap) (hfit : n * 2 + news.length ≤ cur.size)
    (hK : K (a.put o.dst (.slice (some ⟨g, 0, none⟩) (n + m) cap)) (w.setRow g (cur.toList.take (n * 2) ++ news ++ cur.toList.drop (n * 2 + news.length)).toArray)) :
    if Region.wanted o (yielded ops a.tmps) = true then Oper.wp P o a w K Q else E := by
  have hw : Region.wanted o (yielded ops a.tmps) = true := by simp [Region.wanted, hg]
  rw [if_pos hw]
  have hrun := run_append_room (P := P) (w := w) t o.type e i h1 h2 g n cap cur hgc ad m c news (by rw [h4]; exact hn) hc h1c hroom (by rw [h4]; exact hfit)
  rw [h4] at hrun
  unfold Oper.wp execOp
  simp only [hop, resolve, invoke, builtin, Sem.run_bind, Sem.run_pure, Result.andThen_ok, List.map_toArray, List.map_cons, List.map_nil, hs, hx]
  rw [hrun]
  exact hK
theorem cellsP_drop : ∀ (m : Nat) (xs : List Nd), cellsP (xs.drop m) = (cellsP xs).drop (m * 2)
  | 0, xs => by simp
  | m + 1, [] => by simp [cellsP]
  | m + 1, x :: xs => by
    have e : (m + 1) * 2 = m * 2 + 1 + 1 := by omega
    rw [e, List.drop_succ_cons, cellsP_drop m xs]
    simp [cellsP]
theorem cellsP_take : ∀ (m : Nat) (xs : List Nd), cellsP (xs.take m) = (cellsP xs).take (m * 2)
  | 0, xs => by simp [cellsP]
  | m + 1, [] => by simp [cellsP]
  | m + 1, x :: xs => by
    have e : (m + 1) * 2 = m * 2 + 1 + 1 := by omega
    rw [e, List.take_succ_cons]
    simp [cellsP, cellsP_take m xs]
def dropL (xs : List Nd) (k : Nat) : List Nd := xs.take k ++ xs.drop (k + 1)

set_option maxRecDepth 100000 in
set_option maxHeartbeats 1000000 in
theorem deleteLead {W : World} {B g cap : Nat} {xs : List Nd} (k : Nat) (h : Own W B 57 (.slice (some ⟨g, 0, none⟩) xs.length cap) xs) (hk : k < xs.length) (hlen : xs.length ≤ 1048576) :
    Calls Try.prog 86 #[.slice (some ⟨g, 0, none⟩) xs.length cap, .int .i64 k, .int .i64 ((k : Int) + 1)] W fun e w' =>
      e = .returned (.slice (some ⟨g, 0, none⟩) (xs.length - 1) cap) ∧ Own w' B 57 (.slice (some ⟨g, 0, none⟩) (xs.length - 1) cap) (dropL xs k) ∧ W.grownBy w' (some g) := by
  obtain ⟨i1, hi0, hz0, hz1, hz2⟩ := info_parts infoLead
  have HF := Lib.hid (And.intro hi0 (And.intro hz0 (And.intro hz1 hz2))); clear hi0 hz0 hz1 hz2
  have HO := Lib.hid h
  have hcc : xs.length ≤ cap ∧ cap ≤ maxLen := by
    obtain ⟨_, _, e, h1, h2, _⟩ := h.form
    injection e with _ _ e
    subst e
    exact ⟨h1, h2⟩
  obtain ⟨hc1, hc2⟩ := hcc
  obtain ⟨cur, HG, hcs, htk⟩ : ∃ cur, Hid (W.heap[g]? = some (.cells cur 57 (0, 0)) ∧ B ≤ g) ∧ cur.size = cap * 2 ∧ cur.toList.take (xs.length * 2) = cellsP xs := by
    rcases h.2 with ⟨hv, _⟩ | ⟨g', cap', cur, hv, hBg, hg, _, _, hs, ht⟩
    · cases hv
    · injection hv with e1 _ e3
      injection e1 with e1
      injection e1 with e1
      subst e1; subst e3
      exact ⟨cur, ⟨hg, hBg⟩, hs, ht⟩
  obtain ⟨N1, hN1⟩ : ∃ N1, xs.length = N1 + 1 := ⟨xs.length - 1, by omega⟩
  have hdl : (cellsP (xs.drop (k + 1))).length = (xs.length - (k + 1)) * 2 := by rw [cellsP_len, List.length_drop]
  obtain ⟨W1, hW1⟩ : ∃ W1, W1 = W.drew.setRow g (cur.toList.take (k * 2) ++ cellsP (xs.drop (k + 1)) ++ cur.toList.drop (k * 2 + (cellsP (xs.drop (k + 1))).length)).toArray := ⟨_, rfl⟩
  have hX1 : W1.heap[g]? = some (.cells (cur.toList.take (k * 2) ++ cellsP (xs.drop (k + 1)) ++ cur.toList.drop (k * 2 + (cellsP (xs.drop (k + 1))).length)).toArray 57 (0, 0)) := by rw [hW1]; exact setRow_heap W.drew g cur _ _ _ HG.out.1
  have hs1 : (cur.toList.take (k * 2) ++ cellsP (xs.drop (k + 1)) ++ cur.toList.drop (k * 2 + (cellsP (xs.drop (k + 1))).length)).toArray.size = cap * 2 := by
    simp only [List.size_toArray, List.length_append, List.length_take, List.length_drop, Array.length_toList, hdl]; omega
  have hdn : (dropL xs k).length = N1 := by unfold dropL; simp; omega
  have M1 := Lib.hid (show Own W1 B 57 (.slice (some ⟨g, 0, none⟩) (dropL xs k).length cap) (dropL xs k) from by
    refine ⟨cellsP_len _, .inr ⟨g, cap, _, rfl, HG.out.2, hX1, by omega, hc2, hs1, ?_⟩⟩
    have e1 : cur.toList.take (k * 2) = cellsP (xs.take k) := by
      rw [cellsP_take, ← htk, List.take_take, Nat.min_eq_left (by omega)]
    rw [List.take_append_of_le_length (by rw [List.length_append, e1, cellsP_len, List.length_take, hdl, hdn]; omega), e1, ← cellsP_app]
    exact List.take_of_length_le (by rw [cellsP_len]; exact Nat.le_refl _))
  have HG1 := Lib.hid (show W.grownBy W1 (some g) from by
    rw [hW1]
    exact ⟨rfl, rfl, rfl, by simp [World.setRow], fun j hj hne => setRow_other W.drew g j _ (fun e => hne (by rw [e]))⟩)
  have HW1 := Lib.hid hW1; clear hW1
  have k0 : (W1.cell? ⟨g, N1 * 2, none⟩).isSome = true := by rw [cell_of_cells hX1, Array.getElem?_eq_getElem (by rw [hs1]; omega)]; rfl
  have k1 : (W1.cell? ⟨g, N1 * 2 + 1, none⟩).isSome = true := by rw [cell_of_cells hX1, Array.getElem?_eq_getElem (by rw [hs1]; omega)]; rfl
  have f0 : W1.frozen? ⟨g, N1 * 2, none⟩ = false := BlkN.frozen ⟨_, hX1, rfl⟩ _
  have f1 : W1.frozen? ⟨g, N1 * 2 + 1, none⟩ = false := BlkN.frozen ⟨_, hX1, rfl⟩ _
  have hcl : ∀ ty, (Builtin.clear_ #[36] ty #[.slice (some ⟨g, N1 * 2, none⟩) 1 (cap - N1)]).run Try.prog W1 = .ok (.tuple #[]) ((W1.setCell ⟨g, N1 * 2, none⟩ (.int .i64 0)).setCell ⟨g, N1 * 2 + 1, none⟩ (.int .i64 0)) := fun ty =>
    run_clear_pair W1 _ _ ty Try.underlying36 HF.out.1 HF.out.2.1 g (N1 * 2) _ k0 k1 f0 f1
  have HKN := Lib.hid (show k + (xs.length - (k + 1)) = N1 by omega)
  have S1 := Lib.hid hdl
  have S4 := Lib.hid (show k * 2 + (cellsP (xs.drop (k + 1))).length ≤ cur.size by rw [hdl, hcs]; omega)
  have HDN := Lib.hid hdn
  have MZ := Lib.hid (show Own ((W1.setCell ⟨g, N1 * 2, none⟩ (.int .i64 0)).setCell ⟨g, N1 * 2 + 1, none⟩ (.int .i64 0)) B 57 (.slice (some ⟨g, 0, none⟩) (dropL xs k).length cap) (dropL xs k) from by
    have h1 := (World.ownsRow.stored M1.out (N1 * 2) (.int .i64 0)).1
    rw [List.set_eq_of_length_le (by rw [cellsP_len, hdn]; omega)] at h1
    have h2 := (World.ownsRow.stored h1 (N1 * 2 + 1) (.int .i64 0)).1
    rw [List.set_eq_of_length_le (by rw [cellsP_len, hdn]; omega)] at h2
    exact h2)
  have HGZ := Lib.hid (show W.grownBy ((W1.setCell ⟨g, N1 * 2, none⟩ (.int .i64 0)).setCell ⟨g, N1 * 2 + 1, none⟩ (.int .i64 0)) (some g) from grown_set (grown_set HG1.out))
  have HN1 := Lib.hid hN1
  have q4 : (0 : Int) ≤ (N1 : Int) := by omega
  have q5 : (N1 : Int) ≤ (xs.length : Int) := by omega
  have hnc2 : N1 ≤ xs.length := by omega
  have hne : ¬ cap = N1 := by omega
  clear hN1 k0 k1 f0 f1 hX1 hs1 hdn hdl hcs htk
  unfold maxLen at hc2
  clear h
  obtain ⟨A, hA, hsrc⟩ : ∃ A : Addr, (if cap = k + 1 then some (⟨g, 0, none⟩ : Addr) else some ⟨g, (k + 1) * 2, none⟩) = some A ∧ Hid (∀ j u, (cellsP (xs.drop (k + 1)))[j]? = some u → W.drew.cell? (A.add j) = some u) := by
    by_cases hcap : cap = k + 1
    · refine ⟨⟨g, 0, none⟩, by simp [hcap], fun j u hu => ?_⟩
      rw [List.drop_of_length_le (by omega)] at hu
      simp [cellsP] at hu
    · refine ⟨⟨g, (k + 1) * 2, none⟩, by simp [hcap], fun j u hu => ?_⟩
      rw [cellsP_drop, List.getElem?_drop] at hu
      have := World.ownsRow.cells HO.out (g := g) rfl _ _ hu
      rw [Addr.add_lit] at this ⊢
      rw [Nat.zero_add] at this
      exact this
  have q0 : (0 : Int) ≤ (k : Int) := by omega
  have q1 : (k : Int) + 1 ≤ (xs.length : Int) := by omega
  have q2 : (xs.length : Int) ≤ (cap : Int) := by omega
  go_enter Try.func86, Try.ntmps86
  go_wp2_with fail
  have q3 : (0 : Int) ≤ (k : Int) + 1 := by omega
  have hic : k ≤ cap := by omega
  have hjc : k + 1 ≤ cap := by omega
  have hnc : k + 1 ≤ xs.length := by omega
  go_region_law ((refine step_append_row rfl _ _ _ (by rfl) 57 i1 Try.underlying36 HF.out.1 HF.out.2.2.1 g k cap cur HG.out.1 (by simp [Act.eval, Act.put]) A (xs.length - (k + 1)) (cap - (k + 1)) (cellsP (xs.drop (k + 1))) (by simp [Act.eval, Act.put]) S1.out hsrc.out (cellsP_one _) (by omega) S4.out ?_; rw [← HW1.out, HKN.out]))
  have hn1 : xs.length - N1 = 1 := by have := HN1.out; omega
  go_wp2_with fail
  go_ret
  have e : xs.length - 1 = N1 := by have := HN1.out; omega
  rw [e]
  refine ⟨rfl, ?_, HGZ.out⟩
  have := MZ.out
  rw [HDN.out] at this
  exact this
end Go.Proofs.Ytkkjcdilpbofmaa
