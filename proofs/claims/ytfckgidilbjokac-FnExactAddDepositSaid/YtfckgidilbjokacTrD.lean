/-
  Copies of slices of triples, and slices.Delete of one.
-/
import Derived.Test.YtfckgidilbjokacTrL
import Derived.Test.YtfckgidilbjokacCopyP
import Derived.WalkSpells
import Derived.Deep.RegionLaw
import Derived.Laws.IdiomCopy
namespace Go.Proofs.Ytfckgidilbjokac
open Go.RowKit
set_option linter.unusedVariables false
set_option linter.unusedSimpArgs false

theorem flT_one : ∀ xs : List Tr, ∀ u ∈ flT xs, u.oneCell' = true
  | [], u, h => by simp [flT] at h
  | t :: r, u, h => by
    simp only [flT, List.mem_cons] at h
    rcases h with rfl | rfl | rfl | h
    · rfl
    · rfl
    · rfl
    · exact flT_one r u h
theorem trs_news {w : World} {A : Addr} {c : Nat} {xs : List Tr} (h : Trs w (.slice (some A) xs.length c) xs) (h0 : 0 < xs.length) : ∀ j u, (flT xs)[j]? = some u → w.cell? (A.add j) = some u := by
  obtain ⟨A', c', he, _, _, hx⟩ := h
  obtain ⟨b, o, hA, _, hcs⟩ := hx h0
  injection he with e1 _ _
  rw [← e1] at hA
  injection hA with hA
  subst hA
  intro j u hu
  have hj : j < xs.length * 3 := by
    rw [← flT_len]
    exact (List.getElem?_eq_some_iff.1 hu).1
  obtain ⟨k, q, hk, hq, rfl⟩ : ∃ k q, k < xs.length ∧ q < 3 ∧ j = k * 3 + q := ⟨j / 3, j % 3, by omega, by omega, by omega⟩
  obtain ⟨g0, g1, g2⟩ := flT_get xs k hk
  obtain ⟨c0, c1, c2⟩ := hcs k hk
  rw [Go.WideShapes.add_plain]
  have hq3 : q = 0 ∨ q = 1 ∨ q = 2 := by omega
  rcases hq3 with rfl | rfl | rfl
  · rw [Nat.add_zero] at hu ⊢
    rw [g0] at hu; injection hu with hu; subst hu; exact c0
  · rw [g1] at hu; injection hu with hu; subst hu; rw [← Nat.add_assoc]; exact c1
  · rw [g2] at hu; injection hu with hu; subst hu; rw [← Nat.add_assoc]; exact c2
theorem frozen_of {b : Nat} {cs : Array Value} {T : TypeId} {W : World} (h : W.heap[b]? = some (.cells cs T (0, 0))) (o : Nat) : W.frozen? ⟨b, o, none⟩ = false := by
  simp [World.frozen?, h]
section
variable {P : Program}
theorem run_append_emptyT {w : World} {B g : Nat} {t ty e : TypeId} {i : TypeInfo} {z v : Value} {xs : List Tr} (ht : P.underlying t = some (.slice e)) (hi : P.info? e = some i) (hz : i.zero = some z)
    (hsize : i.size = 3) (hby : i.bytes = 24) (hzs : z.cells.size = 3) (hg : w.heap[g]? = some (.cells #[] e (0, 0))) (hB : B ≤ g) (hv : Trs w v xs) (hlen : xs.length ≤ 1048576) :
    ∃ v' w', (Builtin.append_ #[t, t] ty #[.slice (some ⟨g, 0, none⟩) 0 0, v]).run P w = .ok v' w' ∧ Tps w' B e v' xs ∧ Below w.heap.size w w' := by
  have hgl := lt_of_block hg
  have hown : w.ownsRow B e 3 (.slice (some ⟨g, 0, none⟩) 0 0) 0 [] := ⟨by simp, .inr ⟨g, 0, #[], rfl, hB, hg, Nat.le_refl _, Nat.zero_le _, rfl, rfl⟩⟩
  have HV := hv
  obtain ⟨A, c, rfl, hl, hc, hx⟩ := hv
  by_cases h0 : xs.length = 0
  · obtain rfl : xs = [] := List.eq_nil_of_length_eq_zero h0
    cases A with
    | none =>
      refine ⟨_, w, ?_, hown, Below.refl _ _⟩
      simp [Builtin.append_, run_underlying ht, sizeOf, typeInfo, hi, Builtin.lenOf, Builtin.firstCells, storeCells]
    | some a =>
      have hr := run_append_room (P := P) w t ty e i ht hi g 0 0 #[] hg a 0 c [] (by simp) (fun j u h => by simp at h) (fun u h => by simp at h) (Nat.le_refl _) (by simp)
      simp only [Nat.zero_mul, Nat.add_zero] at hr
      refine ⟨_, _, hr, ?_, ⟨rfl, rfl, rfl, by simp [World.setRow], fun k hk => ?_⟩⟩
      · exact ⟨by simp [flT], .inr ⟨g, 0, _, rfl, hB, setRow_heap w g #[] _ e _ hg, Nat.le_refl _, Nat.zero_le _, rfl, by simp [flT]⟩⟩
      · by_cases hkg : k = g
        · subst hkg; rw [setRow_heap w k #[] _ e _ hg, hg]; rfl
        · exact setRow_other w g k _ hkg
  · obtain ⟨b, o, rfl, hbl, hcs⟩ := hx (by omega)
    have hn := trs_news HV (by omega)
    have hr := run_append_grow (P := P) w t ty e i z ht hi hz ⟨g, 0, none⟩ 0 0 [] (by simp) (fun j u h => by simp at h) ⟨b, o, none⟩ xs.length c (flT xs) (by rw [flT_len, hsize]) hn (by omega) (by omega)
      (by rw [Nat.zero_add, nextslicecap_zero (by omega), hby]; omega)
    refine ⟨_, _, hr, ?_, (Below.refl _ _).drew.alloc (by simp) _⟩
    have hge := grownCap_ge w (0 + xs.length) 0 e
    have hcm := grownCap_le_maxLen w (0 + xs.length) 0 e (by unfold maxLen; omega)
    unfold Tps
    refine ⟨flT_len _, .inr ⟨w.heap.size, _, _, by rw [Nat.zero_add], by omega, heap_alloc_new w.drew _, ?_, ?_, ?_, ?_⟩⟩
    · simpa using hge
    · simpa using hcm
    · simp only [Array.size_append, List.size_toArray, size_zeroCells, hzs, List.length_nil, flT_len, Nat.zero_add] at hge ⊢
      omega
    · rw [← flT_len]
      simp
end

set_option maxRecDepth 100000 in
theorem cloneStains (xs : List Tr) (v : Value) (w : World) (hv : Trs w v xs) (hlen : xs.length ≤ 1048576) :
    Calls Try.prog 92 #[v] w (TpsNew 51 xs w) := by
  obtain ⟨i0, hi0, hz0, hz1, hz2⟩ := info_parts infoStain
  have HA := Lib.hid (fun w2 v2 (h : Trs w2 v2 xs) (g : Nat) (hg : w2.heap[g]? = some (.cells #[] 51 (0, 0))) (hB : w.heap.size ≤ g) => run_append_emptyT (P := Try.prog) (ty := 47) Try.underlying47 hi0 hz0 hz1 hz2 rfl hg hB h hlen)
  clear hi0 hz0 hz1 hz2
  have HV := Lib.hid hv
  obtain ⟨A, c, rfl⟩ := hv.form2
  clear hv
  have hnil := fun w => Lib.run_eql_slice_nil (P := Try.prog) w 47 51 A xs.length c 0 0 Try.underlying47
  cases A with
  | none =>
    have h0 : xs = [] := by
      obtain ⟨A', c', e, _, _, hx⟩ := HV.out
      injection e with e1 _ _
      by_cases hl : xs.length = 0
      · exact List.eq_nil_of_length_eq_zero hl
      · obtain ⟨b, o, hA, _⟩ := hx (by omega)
        rw [← e1] at hA; cases hA
    subst h0
    simp only [Option.isNone_none, List.length_nil] at hnil
    go_enter Try.func92, Try.ntmps92
    go_wp2_with fail
    go_ret
    exact ⟨_, rfl, Tps.nil _ _ _, Below.refl _ _⟩
  | some a =>
    simp only [Option.isNone_some] at hnil
    obtain ⟨v', w', hr, ho, hb⟩ := HA.out _ _ (HV.out.step (Below.refl _ _ |>.alloc (Nat.le_refl _) (.cells #[] 51))) w.heap.size (heap_alloc_new w _) (Nat.le_refl _)
    have HO := Lib.hid ho
    have HB := Lib.hid ((Below.refl _ _ |>.alloc (Nat.le_refl _) (.cells #[] 51)).trans (hb.mono (by simp)))
    clear ho hb
    go_enter Try.func92, Try.ntmps92
    go_wp2_with (at_builtin; refine wpList_append_run rfl _ _ 47 rfl v' w' hr ?_)
    go_wp2_with fail
    go_ret
    exact ⟨_, rfl, HO.out, HB.out⟩


set_option maxRecDepth 100000 in
theorem cloneDeposits (xs : List Tr) (v : Value) (w : World) (hv : Trs w v xs) (hlen : xs.length ≤ 1048576) :
    Calls Try.prog 102 #[v] w (TpsNew 80 xs w) := by
  obtain ⟨i0, hi0, hz0, hz1, hz2⟩ := info_parts infoDeposit
  have HA := Lib.hid (fun w2 v2 (h : Trs w2 v2 xs) (g : Nat) (hg : w2.heap[g]? = some (.cells #[] 80 (0, 0))) (hB : w.heap.size ≤ g) => run_append_emptyT (P := Try.prog) (ty := 72) Try.underlying72 hi0 hz0 hz1 hz2 rfl hg hB h hlen)
  clear hi0 hz0 hz1 hz2
  have HV := Lib.hid hv
  obtain ⟨A, c, rfl⟩ := hv.form2
  clear hv
  have hnil := fun w => Lib.run_eql_slice_nil (P := Try.prog) w 72 80 A xs.length c 0 0 Try.underlying72
  cases A with
  | none =>
    have h0 : xs = [] := by
      obtain ⟨A', c', e, _, _, hx⟩ := HV.out
      injection e with e1 _ _
      by_cases hl : xs.length = 0
      · exact List.eq_nil_of_length_eq_zero hl
      · obtain ⟨b, o, hA, _⟩ := hx (by omega)
        rw [← e1] at hA; cases hA
    subst h0
    simp only [Option.isNone_none, List.length_nil] at hnil
    go_enter Try.func102, Try.ntmps102
    go_wp2_with fail
    go_ret
    exact ⟨_, rfl, Tps.nil _ _ _, Below.refl _ _⟩
  | some a =>
    simp only [Option.isNone_some] at hnil
    obtain ⟨v', w', hr, ho, hb⟩ := HA.out _ _ (HV.out.step (Below.refl _ _ |>.alloc (Nat.le_refl _) (.cells #[] 80))) w.heap.size (heap_alloc_new w _) (Nat.le_refl _)
    have HO := Lib.hid ho
    have HB := Lib.hid ((Below.refl _ _ |>.alloc (Nat.le_refl _) (.cells #[] 80)).trans (hb.mono (by simp)))
    clear ho hb
    go_enter Try.func102, Try.ntmps102
    go_wp2_with (at_builtin; refine wpList_append_run rfl _ _ 72 rfl v' w' hr ?_)
    go_wp2_with fail
    go_ret
    exact ⟨_, rfl, HO.out, HB.out⟩

theorem run_clear_tri {P : Program} (W : World) (t e ty : TypeId) {i : TypeInfo} (ht : P.underlying t = some (.slice e)) (hi : P.info? e = some i) (hz : i.zero = some (.agg #[.int .i64 0, .int .i64 0, .int .i64 0])) (g o c : Nat)
    (h0 : (W.cell? ⟨g, o, none⟩).isSome = true) (h1 : (W.cell? ⟨g, o + 1, none⟩).isSome = true) (h2 : (W.cell? ⟨g, o + 2, none⟩).isSome = true) (f0 : W.frozen? ⟨g, o, none⟩ = false) (f1 : W.frozen? ⟨g, o + 1, none⟩ = false) (f2 : W.frozen? ⟨g, o + 2, none⟩ = false) :
    (Builtin.clear_ #[t] ty #[.slice (some ⟨g, o, none⟩) 1 c]).run P W = .ok (.tuple #[]) (((W.setCell ⟨g, o, none⟩ (.int .i64 0)).setCell ⟨g, o + 1, none⟩ (.int .i64 0)).setCell ⟨g, o + 2, none⟩ (.int .i64 0)) := by
  have hst := run_storeCells_cells (P := P) g o [.int .i64 0, .int .i64 0, .int .i64 0] 0 W (fun j hj => by match j, hj with | 0, _ => exact h0 | 1, _ => exact h1 | 2, _ => exact h2) (fun j hj => by match j, hj with | 0, _ => exact f0 | 1, _ => exact f1 | 2, _ => exact f2) (by simp [Value.oneCell'])
  simp only [Nat.add_zero] at hst
  have hzc : (Builtin.zeroCells (Value.agg #[.int .i64 0, .int .i64 0, .int .i64 0]).cells 1).toList = [.int .i64 0, .int .i64 0, .int .i64 0] := by simp [Builtin.zeroCells, Value.cells, List.range_succ]
  simp [Builtin.clear_, run_underlying ht, zeroValue, typeInfo, hi, hz, hzc, hst]
  rfl
theorem step_append_rowT {P : Program} {ops : Array Oper} {o : Oper} {a : Act} {w : World} {K : Act → World → Prop} {Q : Exit → Act → World → Prop} {E : Prop}
    (hg : o.guard = none) (s x : Operand) (t : TypeId) (hop : o.op = Op.call { callee := Callee.builtin Builtin.append, args := #[s, x], argTypes := #[t, t] })
    (e : TypeId) (i : TypeInfo) (h1 : P.underlying t = some (.slice e)) (h2 : P.info? e = some i) (h4 : i.size = 3)
    (g n cap : Nat) (cur : Array Value) (hgc : w.heap[g]? = some (.cells cur e (0, 0))) (hs : a.eval s = .slice (some ⟨g, 0, none⟩) n cap)
    (ad : Addr) (m c : Nat) (news : List Value) (hx : a.eval x = .slice (some ad) m c) (hn : news.length = m * 3) (hc : ∀ j u, news[j]? = some u → w.cell? (ad.add j) = some u) (h1c : ∀ u ∈ news, u.oneCell' = true)
    (hroom : n + m ≤ cap) (hfit : n * 3 + news.length ≤ cur.size)
    (hK : K (a.put o.dst (.slice (some ⟨g, 0, none⟩) (n + m) cap)) (w.setRow g (cur.toList.take (n * 3) ++ news ++ cur.toList.drop (n * 3 + news.length)).toArray)) :
    if Region.wanted o (yielded ops a.tmps) = true then Oper.wp P o a w K Q else E := by
  have hw : Region.wanted o (yielded ops a.tmps) = true := by simp [Region.wanted, hg]
  rw [if_pos hw]
  have hrun := run_append_room (P := P) (w := w) t o.type e i h1 h2 g n cap cur hgc ad m c news (by rw [h4]; exact hn) hc h1c hroom (by rw [h4]; exact hfit)
  rw [h4] at hrun
  unfold Oper.wp execOp
  simp only [hop, resolve, invoke, builtin, Sem.run_bind, Sem.run_pure, Result.andThen_ok, List.map_toArray, List.map_cons, List.map_nil, hs, hx]
  rw [hrun]
  exact hK
theorem flT_drop : ∀ (m : Nat) (xs : List Tr), flT (xs.drop m) = (flT xs).drop (m * 3)
  | 0, xs => by simp
  | m + 1, [] => by simp [flT]
  | m + 1, x :: xs => by
    have e : (m + 1) * 3 = m * 3 + 1 + 1 + 1 := by omega
    rw [e, List.drop_succ_cons, flT_drop m xs]
    simp [flT]
theorem flT_take : ∀ (m : Nat) (xs : List Tr), flT (xs.take m) = (flT xs).take (m * 3)
  | 0, xs => by simp [flT]
  | m + 1, [] => by simp [flT]
  | m + 1, x :: xs => by
    have e : (m + 1) * 3 = m * 3 + 1 + 1 + 1 := by omega
    rw [e, List.take_succ_cons]
    simp [flT, flT_take m xs]
def dropT (xs : List Tr) (k : Nat) : List Tr := xs.take k ++ xs.drop (k + 1)

set_option maxRecDepth 100000 in
set_option maxHeartbeats 1000000 in
theorem deleteDeposit {W : World} {B g cap : Nat} {xs : List Tr} (k : Nat) (h : Tps W B 80 (.slice (some ⟨g, 0, none⟩) xs.length cap) xs) (hk : k < xs.length) (hlen : xs.length ≤ 1048576) :
    Calls Try.prog 105 #[.slice (some ⟨g, 0, none⟩) xs.length cap, .int .i64 k, .int .i64 ((k : Int) + 1)] W fun e w' =>
      e = .returned (.slice (some ⟨g, 0, none⟩) (xs.length - 1) cap) ∧ Tps w' B 80 (.slice (some ⟨g, 0, none⟩) (xs.length - 1) cap) (dropT xs k) ∧ W.grownBy w' (some g) := by
  obtain ⟨i1, hi0, hz0, hz1, hz2⟩ := info_parts infoDeposit
  have HF := Lib.hid (And.intro hi0 (And.intro hz0 (And.intro hz1 hz2))); clear hi0 hz0 hz1 hz2
  have HO := Lib.hid h
  have hcc : xs.length ≤ cap ∧ cap ≤ maxLen := by
    obtain ⟨_, _, e, h1, h2, _⟩ := h.form
    injection e with _ _ e
    subst e
    exact ⟨h1, h2⟩
  obtain ⟨hc1, hc2⟩ := hcc
  obtain ⟨cur, HG, hcs, htk⟩ : ∃ cur, Hid (W.heap[g]? = some (.cells cur 80 (0, 0)) ∧ B ≤ g) ∧ cur.size = cap * 3 ∧ cur.toList.take (xs.length * 3) = flT xs := by
    rcases h.2 with ⟨hv, _⟩ | ⟨g', cap', cur, hv, hBg, hg, _, _, hs, ht⟩
    · cases hv
    · injection hv with e1 _ e3
      injection e1 with e1
      injection e1 with e1
      subst e1; subst e3
      exact ⟨cur, ⟨hg, hBg⟩, hs, ht⟩
  obtain ⟨N1, hN1⟩ : ∃ N1, xs.length = N1 + 1 := ⟨xs.length - 1, by omega⟩
  have hdl : (flT (xs.drop (k + 1))).length = (xs.length - (k + 1)) * 3 := by rw [flT_len, List.length_drop]
  obtain ⟨W1, hW1⟩ : ∃ W1, W1 = W.drew.setRow g (cur.toList.take (k * 3) ++ flT (xs.drop (k + 1)) ++ cur.toList.drop (k * 3 + (flT (xs.drop (k + 1))).length)).toArray := ⟨_, rfl⟩
  have hX1 : W1.heap[g]? = some (.cells (cur.toList.take (k * 3) ++ flT (xs.drop (k + 1)) ++ cur.toList.drop (k * 3 + (flT (xs.drop (k + 1))).length)).toArray 80 (0, 0)) := by rw [hW1]; exact setRow_heap W.drew g cur _ _ _ HG.out.1
  have hs1 : (cur.toList.take (k * 3) ++ flT (xs.drop (k + 1)) ++ cur.toList.drop (k * 3 + (flT (xs.drop (k + 1))).length)).toArray.size = cap * 3 := by
    simp only [List.size_toArray, List.length_append, List.length_take, List.length_drop, Array.length_toList, hdl]; omega
  have hdn : (dropT xs k).length = N1 := by unfold dropT; simp; omega
  have M1 := Lib.hid (show Tps W1 B 80 (.slice (some ⟨g, 0, none⟩) (dropT xs k).length cap) (dropT xs k) from by
    refine ⟨flT_len _, .inr ⟨g, cap, _, rfl, HG.out.2, hX1, by omega, hc2, hs1, ?_⟩⟩
    have e1 : cur.toList.take (k * 3) = flT (xs.take k) := by
      rw [flT_take, ← htk, List.take_take, Nat.min_eq_left (by omega)]
    rw [List.take_append_of_le_length (by rw [List.length_append, e1, flT_len, List.length_take, hdl, hdn]; omega), e1, ← flT_app]
    exact List.take_of_length_le (by rw [flT_len]; exact Nat.le_refl _))
  have HG1 := Lib.hid (show W.grownBy W1 (some g) from by
    rw [hW1]
    exact ⟨rfl, rfl, rfl, by simp [World.setRow], fun j hj hne => setRow_other W.drew g j _ (fun e => hne (by rw [e]))⟩)
  have HW1 := Lib.hid hW1; clear hW1
  have k0 : (W1.cell? ⟨g, N1 * 3, none⟩).isSome = true := by rw [cell_of_cells hX1, Array.getElem?_eq_getElem (by rw [hs1]; omega)]; rfl
  have k1 : (W1.cell? ⟨g, N1 * 3 + 1, none⟩).isSome = true := by rw [cell_of_cells hX1, Array.getElem?_eq_getElem (by rw [hs1]; omega)]; rfl
  have k2 : (W1.cell? ⟨g, N1 * 3 + 2, none⟩).isSome = true := by rw [cell_of_cells hX1, Array.getElem?_eq_getElem (by rw [hs1]; omega)]; rfl
  have f2 : W1.frozen? ⟨g, N1 * 3 + 2, none⟩ = false := frozen_of hX1 _
  have f0 : W1.frozen? ⟨g, N1 * 3, none⟩ = false := frozen_of hX1 _
  have f1 : W1.frozen? ⟨g, N1 * 3 + 1, none⟩ = false := frozen_of hX1 _
  have hcl : ∀ ty, (Builtin.clear_ #[72] ty #[.slice (some ⟨g, N1 * 3, none⟩) 1 (cap - N1)]).run Try.prog W1 = .ok (.tuple #[]) (((W1.setCell ⟨g, N1 * 3, none⟩ (.int .i64 0)).setCell ⟨g, N1 * 3 + 1, none⟩ (.int .i64 0)).setCell ⟨g, N1 * 3 + 2, none⟩ (.int .i64 0)) := fun ty =>
    run_clear_tri W1 _ _ ty Try.underlying72 HF.out.1 HF.out.2.1 g (N1 * 3) _ k0 k1 k2 f0 f1 f2
  have HKN := Lib.hid (show k + (xs.length - (k + 1)) = N1 by omega)
  have S1 := Lib.hid hdl
  have S4 := Lib.hid (show k * 3 + (flT (xs.drop (k + 1))).length ≤ cur.size by rw [hdl, hcs]; omega)
  have HDN := Lib.hid hdn
  have MZ := Lib.hid (show Tps (((W1.setCell ⟨g, N1 * 3, none⟩ (.int .i64 0)).setCell ⟨g, N1 * 3 + 1, none⟩ (.int .i64 0)).setCell ⟨g, N1 * 3 + 2, none⟩ (.int .i64 0)) B 80 (.slice (some ⟨g, 0, none⟩) (dropT xs k).length cap) (dropT xs k) from by
    have h1 := (World.ownsRow.stored M1.out (N1 * 3) (.int .i64 0)).1
    rw [List.set_eq_of_length_le (by rw [flT_len, hdn]; omega)] at h1
    have h2 := (World.ownsRow.stored h1 (N1 * 3 + 1) (.int .i64 0)).1
    rw [List.set_eq_of_length_le (by rw [flT_len, hdn]; omega)] at h2
    have h3 := (World.ownsRow.stored h2 (N1 * 3 + 2) (.int .i64 0)).1
    rw [List.set_eq_of_length_le (by rw [flT_len, hdn]; omega)] at h3
    exact h3)
  have HGZ := Lib.hid (show W.grownBy (((W1.setCell ⟨g, N1 * 3, none⟩ (.int .i64 0)).setCell ⟨g, N1 * 3 + 1, none⟩ (.int .i64 0)).setCell ⟨g, N1 * 3 + 2, none⟩ (.int .i64 0)) (some g) from grown_setT (grown_setT (grown_setT HG1.out)))
  have HN1 := Lib.hid hN1
  have q4 : (0 : Int) ≤ (N1 : Int) := by omega
  have q5 : (N1 : Int) ≤ (xs.length : Int) := by omega
  have hnc2 : N1 ≤ xs.length := by omega
  have hne : ¬ cap = N1 := by omega
  clear hN1 k0 k1 k2 f0 f1 f2 hX1 hs1 hdn hdl hcs htk
  unfold maxLen at hc2
  clear h
  obtain ⟨A, hA, hsrc⟩ : ∃ A : Addr, (if cap = k + 1 then some (⟨g, 0, none⟩ : Addr) else some ⟨g, (k + 1) * 3, none⟩) = some A ∧ Hid (∀ j u, (flT (xs.drop (k + 1)))[j]? = some u → W.drew.cell? (A.add j) = some u) := by
    by_cases hcap : cap = k + 1
    · refine ⟨⟨g, 0, none⟩, by simp [hcap], fun j u hu => ?_⟩
      rw [List.drop_of_length_le (by omega)] at hu
      simp [flT] at hu
    · refine ⟨⟨g, (k + 1) * 3, none⟩, by simp [hcap], fun j u hu => ?_⟩
      rw [flT_drop, List.getElem?_drop] at hu
      have := World.ownsRow.cells HO.out (g := g) rfl _ _ hu
      rw [Addr.add_lit] at this ⊢
      rw [Nat.zero_add] at this
      exact this
  have q0 : (0 : Int) ≤ (k : Int) := by omega
  have q1 : (k : Int) + 1 ≤ (xs.length : Int) := by omega
  have q2 : (xs.length : Int) ≤ (cap : Int) := by omega
  go_enter Try.func105, Try.ntmps105
  go_wp2_with fail
  have q3 : (0 : Int) ≤ (k : Int) + 1 := by omega
  have hic : k ≤ cap := by omega
  have hjc : k + 1 ≤ cap := by omega
  have hnc : k + 1 ≤ xs.length := by omega
  go_region_law ((refine step_append_rowT rfl _ _ _ (by rfl) 80 i1 Try.underlying72 HF.out.1 HF.out.2.2.1 g k cap cur HG.out.1 (by simp [Act.eval, Act.put]) A (xs.length - (k + 1)) (cap - (k + 1)) (flT (xs.drop (k + 1))) (by simp [Act.eval, Act.put]) S1.out hsrc.out (flT_one _) (by omega) S4.out ?_; rw [← HW1.out, HKN.out]))
  have hn1 : xs.length - N1 = 1 := by have := HN1.out; omega
  go_wp2_with fail
  go_ret
  have e : xs.length - 1 = N1 := by have := HN1.out; omega
  rw [e]
  refine ⟨rfl, ?_, HGZ.out⟩
  have := MZ.out
  rw [HDN.out] at this
  exact this
end Go.Proofs.Ytfckgidilbjokac
