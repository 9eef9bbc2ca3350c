/-
  Several texts in one: a claim has at most 60 files.
-/
import Derived.Test.YtepacoacalhdcaaGreatG4
import Derived.Test.YtepacoacalhdcaaGreatG1
import Derived.Test.YtepacoacalhdcaaGreatG25
import Derived.WalkSpells
import Derived.Laws.AppendOwn
import Derived.Laws.OwnMore

namespace Go.Proofs.YtepacoacalhdcaaGreat
open Go.RowKit
set_option linter.unusedVariables false
set_option linter.unusedSimpArgs false

/-- n pairs of marks from k on. -/
def marksP (k n : Nat) : List Nd := (List.range n).map fun i => ⟨((k + 2 * i : Nat) : Int), ((k + 2 * i + 1 : Nat) : Int)⟩

theorem marksP_length (k n : Nat) : (marksP k n).length = n := by simp [marksP]

theorem marksP_set (k0 k : Nat) (xs : List Nd) (h : k < xs.length) : (marksP k0 k ++ xs.drop k).set k ⟨((k0 + 2 * k : Nat) : Int), ((k0 + 2 * k + 1 : Nat) : Int)⟩ = marksP k0 (k + 1) ++ xs.drop (k + 1) := by
  rw [List.set_append_right _ _ (by rw [marksP_length]; exact Nat.le_refl _), marksP_length, Nat.sub_self, List.drop_eq_getElem_cons h, List.set_cons_zero]
  simp [marksP, List.range_succ]

theorem marksP_at (k0 n j : Nat) (h : j < n) : atN (marksP k0 n) j = ⟨((k0 + 2 * j : Nat) : Int), ((k0 + 2 * j + 1 : Nat) : Int)⟩ := by
  unfold atN marksP
  simp [List.getD, List.getElem?_map, List.getElem?_range, h]

theorem half_len (k0 k : Nat) (xs : List Nd) (hk : k ≤ xs.length) : (marksP k0 k ++ xs.drop k).length = xs.length := by
  rw [List.length_append, marksP_length, List.length_drop]; omega

theorem Own.set_ {w : World} {B g c : Nat} {T : TypeId} {xs : List Nd} (h : Own w B T (.slice (some ⟨g, 0, none⟩) xs.length c) xs) (k : Nat) (hk : k < xs.length) (a b : Int) :
    Own ((w.setCell ⟨g, k * 2, none⟩ (.int .i64 a)).setCell ⟨g, k * 2 + 1, none⟩ (.int .i64 b)) B T (.slice (some ⟨g, 0, none⟩) xs.length c) (xs.set k ⟨a, b⟩) := by
  have h1 := (h.stored (k * 2) (.int .i64 a)).1
  have h2 := (World.ownsRow.stored h1 (k * 2 + 1) (.int .i64 b)).1
  rw [cellsP_set xs k a b hk] at h2
  unfold Own
  rw [List.length_set]
  exact h2

set_option maxRecDepth 100000 in
theorem markNodeS_own {B : Nat} {T : TypeId} {w : World} {v : Value} {xs : List Nd} (k0 : Nat) (h : Own w B T v xs) (hlen : xs.length ≤ 1048576) (hk0 : k0 ≤ 4000000) :
    Calls Tryz.prog 67 #[v, .int .i64 k0] w fun e w' => e = .returned (.int .i64 ((k0 + 2 * xs.length : Nat) : Int)) ∧ Own w' B T v (marksP k0 xs.length) ∧ w.grownBy w' v.ownBlock := by
  have HO := Lib.hid h
  obtain ⟨A, c, rfl, hl, hc, hx⟩ := h.form
  clear h
  rcases hx with ⟨rfl, rfl⟩ | ⟨g, rfl, hB, hg, _⟩
  · go_enter Tryz.func67, Tryz.ntmps67
    go_wp2_with fail
    go_loopw [1, 5] (fun v i wr => i = .int .i64 0 ∧ v = .int .i64 k0 ∧ wr = w) (fun _ _ _ => 0)
    case atStart => exact ⟨rfl, rfl, rfl⟩
    case round =>
      obtain ⟨rfl, rfl, rfl⟩ := hrel
      go_wp2_with fail
      go_ret
      exact ⟨by simp, HO.out, ⟨rfl, rfl, rfl, Nat.le_refl _, fun _ _ _ => rfl⟩⟩
  · unfold maxLen at hc
    go_enter Tryz.func67, Tryz.ntmps67
    go_wp2_with fail
    go_loopw [1, 5] (fun v i wr => ∃ k : Nat, k ≤ xs.length ∧ i = .int .i64 k ∧ v = .int .i64 ((k0 : Int) + 2 * k) ∧ Own wr B T (.slice (some ⟨g, 0, none⟩) xs.length c) (marksP k0 k ++ xs.drop k) ∧ w.grownBy wr (some g)) (fun _ i _ => xs.length - (intOf i).toNat)
    case atStart => exact ⟨0, Nat.zero_le _, rfl, by go_num, by simpa [marksP] using HO.out, ⟨rfl, rfl, rfl, Nat.le_refl _, fun _ _ _ => rfl⟩⟩
    case round =>
      clear HO
      obtain ⟨k, hk, rfl, rfl, how, hgr⟩ := hrel
      have HGR := Lib.hid hgr; clear hgr
      have hll := half_len k0 k xs hk
      by_cases hlt : k < xs.length
      · obtain ⟨_, _, he, _, _, hxx⟩ := how.form
        have HOW := Lib.hid how; clear how
        rcases hxx with ⟨_, h0⟩ | ⟨g', hA, _, _, hcs⟩
        · rw [h0] at hll; simp at hll; omega
        injection he with e1 e2 e3
        rw [← e1] at hA
        injection hA with hA
        injection hA with hA
        subst hA
        obtain ⟨g0, g1, f0, f1⟩ := hcs k (by omega)
        clear e1 e2 e3 hcs
        have HS := Lib.hid (marksP_set k0 k xs hlt)
        have hset := fun wr' (a b : Int) (h : Own wr' B T (.slice (some ⟨g, 0, none⟩) xs.length c) (marksP k0 k ++ xs.drop k)) => Own.set_ (hll.symm ▸ h) k (by omega) a b
        have HSET := Lib.hid hset; clear hset
        generalize atN (marksP k0 k ++ xs.drop k) k = n at *
        obtain ⟨p, q⟩ := n
        simp only at g0 g1
        rw [hll] at HSET
        go_wp2_with fail
        refine ⟨⟨k + 1, by omega, by go_num, by go_num, ?_, grown_set (grown_set HGR.out)⟩, by simp [intOf]; omega⟩
        rw [← HS.out]
        exact HSET.out _ _ _ HOW.out
      · have ek : k = xs.length := by omega
        have EK := Lib.hid ek; clear ek
        have HOW := Lib.hid how; clear how
        go_wp2_with fail
        go_ret
        refine ⟨ret_int (by rw [EK.out]; omega), ?_, HGR.out⟩
        have := HOW.out
        rw [EK.out] at this
        simpa using this

set_option maxRecDepth 100000 in
theorem markLeadS_own {B : Nat} {T : TypeId} {w : World} {v : Value} {xs : List Nd} (k0 : Nat) (h : Own w B T v xs) (hlen : xs.length ≤ 1048576) (hk0 : k0 ≤ 4000000) :
    Calls Tryz.prog 68 #[v, .int .i64 k0] w fun e w' => e = .returned (.int .i64 ((k0 + 2 * xs.length : Nat) : Int)) ∧ Own w' B T v (marksP k0 xs.length) ∧ w.grownBy w' v.ownBlock := by
  have HO := Lib.hid h
  obtain ⟨A, c, rfl, hl, hc, hx⟩ := h.form
  clear h
  rcases hx with ⟨rfl, rfl⟩ | ⟨g, rfl, hB, hg, _⟩
  · go_enter Tryz.func68, Tryz.ntmps68
    go_wp2_with fail
    go_loopw [1, 5] (fun v i wr => i = .int .i64 0 ∧ v = .int .i64 k0 ∧ wr = w) (fun _ _ _ => 0)
    case atStart => exact ⟨rfl, rfl, rfl⟩
    case round =>
      obtain ⟨rfl, rfl, rfl⟩ := hrel
      go_wp2_with fail
      go_ret
      exact ⟨by simp, HO.out, ⟨rfl, rfl, rfl, Nat.le_refl _, fun _ _ _ => rfl⟩⟩
  · unfold maxLen at hc
    go_enter Tryz.func68, Tryz.ntmps68
    go_wp2_with fail
    go_loopw [1, 5] (fun v i wr => ∃ k : Nat, k ≤ xs.length ∧ i = .int .i64 k ∧ v = .int .i64 ((k0 : Int) + 2 * k) ∧ Own wr B T (.slice (some ⟨g, 0, none⟩) xs.length c) (marksP k0 k ++ xs.drop k) ∧ w.grownBy wr (some g)) (fun _ i _ => xs.length - (intOf i).toNat)
    case atStart => exact ⟨0, Nat.zero_le _, rfl, by go_num, by simpa [marksP] using HO.out, ⟨rfl, rfl, rfl, Nat.le_refl _, fun _ _ _ => rfl⟩⟩
    case round =>
      clear HO
      obtain ⟨k, hk, rfl, rfl, how, hgr⟩ := hrel
      have HGR := Lib.hid hgr; clear hgr
      have hll := half_len k0 k xs hk
      by_cases hlt : k < xs.length
      · obtain ⟨_, _, he, _, _, hxx⟩ := how.form
        have HOW := Lib.hid how; clear how
        rcases hxx with ⟨_, h0⟩ | ⟨g', hA, _, _, hcs⟩
        · rw [h0] at hll; simp at hll; omega
        injection he with e1 e2 e3
        rw [← e1] at hA
        injection hA with hA
        injection hA with hA
        subst hA
        obtain ⟨g0, g1, f0, f1⟩ := hcs k (by omega)
        clear e1 e2 e3 hcs
        have HS := Lib.hid (marksP_set k0 k xs hlt)
        have hset := fun wr' (a b : Int) (h : Own wr' B T (.slice (some ⟨g, 0, none⟩) xs.length c) (marksP k0 k ++ xs.drop k)) => Own.set_ (hll.symm ▸ h) k (by omega) a b
        have HSET := Lib.hid hset; clear hset
        generalize atN (marksP k0 k ++ xs.drop k) k = n at *
        obtain ⟨p, q⟩ := n
        simp only at g0 g1
        rw [hll] at HSET
        go_wp2_with fail
        refine ⟨⟨k + 1, by omega, by go_num, by go_num, ?_, grown_set (grown_set HGR.out)⟩, by simp [intOf]; omega⟩
        rw [← HS.out]
        exact HSET.out _ _ _ HOW.out
      · have ek : k = xs.length := by omega
        have EK := Lib.hid ek; clear ek
        have HOW := Lib.hid how; clear how
        go_wp2_with fail
        go_ret
        refine ⟨ret_int (by rw [EK.out]; omega), ?_, HGR.out⟩
        have := HOW.out
        rw [EK.out] at this
        simpa using this

/-- A window whose two lists lie in blocks of its own, from Lo on. -/
def WinO (w : World) (Lo : Nat) (v1 v2 : Value) (ns ls : List Nd) : Prop := Own w Lo 115 v1 ns ∧ Own w Lo 151 v2 ls

theorem WinO.step {w w' : World} {Lo : Nat} {v1 v2 : Value} {ns ls : List Nd} (h : WinO w Lo v1 v2 ns ls) (hb : Below w.heap.size w w') : WinO w' Lo v1 v2 ns ls := ⟨h.1.step hb, h.2.step hb⟩

theorem stable_winO (Lo : Nat) (v1 v2 : Value) (ns ls : List Nd) : Stable fun W => WinO W Lo v1 v2 ns ls := fun _ _ h hb => h.step hb

theorem WinO.at_ {w : World} {Lo : Nat} {v1 v2 : Value} {ns ls : List Nd} (h : WinO w Lo v1 v2 ns ls) : WinAt w (.agg #[v1, v2]) ns ls := WinAt.mk h.1.prs h.2.prs

theorem WinO.mono {w : World} {Lo Lo' : Nat} {v1 v2 : Value} {ns ls : List Nd} (h : WinO w Lo v1 v2 ns ls) (hl : Lo' ≤ Lo) : WinO w Lo' v1 v2 ns ls := ⟨h.1.mono hl, h.2.mono hl⟩

theorem Own.turn {Lo Hi B : Nat} {w w' : World} {T : TypeId} {v : Value} {xs : List Nd} (h : Own w B T v xs) (t : Turn Lo Hi w w') (hk : ∀ k, v.ownBlock = some k → k < Lo ∨ Hi ≤ k) : Own w' B T v xs :=
  h.keep fun k e => t.block k (h.own k e).2 (hk k e)

theorem WinO.turn {Lo Hi B : Nat} {w w' : World} {v1 v2 : Value} {ns ls : List Nd} (h : WinO w B v1 v2 ns ls) (t : Turn Lo Hi w w') (hk : ∀ k, (v1.ownBlock = some k ∨ v2.ownBlock = some k) → k < Lo ∨ Hi ≤ k) : WinO w' B v1 v2 ns ls :=
  ⟨h.1.turn t fun k e => hk k (.inl e), h.2.turn t fun k e => hk k (.inr e)⟩

theorem WinO.own {w : World} {B : Nat} {v1 v2 : Value} {ns ls : List Nd} (h : WinO w B v1 v2 ns ls) : ∀ k, (v1.ownBlock = some k ∨ v2.ownBlock = some k) → B ≤ k ∧ k < w.heap.size := fun k hk => hk.elim (h.1.own k) (h.2.own k)

theorem node_lead : (115 : TypeId) ≠ 151 := by decide

set_option maxRecDepth 100000 in
theorem markWindow_own {w : World} {Lo L1 L2 : Nat} {v1 v2 : Value} {ns ls : List Nd} (k0 : Nat) (h : WinO w Lo v1 v2 ns ls) (hO : ∀ k, (v1.ownBlock = some k ∨ v2.ownBlock = some k) → L1 ≤ k ∧ k < L2) (h1 : ns.length ≤ 1048576) (h2 : ls.length ≤ 1048576) (hk : k0 ≤ 1000) :
    Calls Tryz.prog 22 #[.agg #[v1, v2], .int .i64 k0] w fun e w' => e = .returned (.int .i64 ((k0 + 2 * ns.length + 2 * ls.length : Nat) : Int)) ∧
      WinO w' Lo v1 v2 (marksP k0 ns.length) (marksP (k0 + 2 * ns.length) ls.length) ∧ Turn L1 L2 w w' := by
  have b0 : Below w.heap.size w (w.alloc (.cells #[v1, v2] 32)) := (Below.refl _ _).alloc (Nat.le_refl _) _
  have M0 := Lib.hid (h.step b0)
  have OB := Lib.hid h.own
  have AP := Lib.hid (h.1.apart h.2 node_lead)
  have T0 := Lib.hid (Turn.of_below (Lo := L1) (Hi := L2) b0)
  have HOO := Lib.hid hO; clear hO
  have X0 := Lib.hid (heap_alloc_new w (.cells #[v1, v2] 32))
  clear h b0
  obtain ⟨A1, c1, rfl, _⟩ := M0.out.1.form
  obtain ⟨A2, c2, rfl, _⟩ := M0.out.2.form
  go_enter Tryz.func22, Tryz.ntmps22
  go_wp2_with fail
  refine (markNodeS_own k0 M0.out.1 h1 (by omega)).mono ?_
  rintro e w1 ⟨rfl, hm, hg⟩
  have M2 := Lib.hid (M0.out.2.keep fun k e => hg.block k (M0.out.2.own k e).2 (fun e2 => AP.out k e2.symm e))
  have M1 := Lib.hid hm
  have T1 := Lib.hid (T0.out.trans (Turn.of_grown hg fun g e => HOO.out g (.inl e)))
  have X1 := (hg.block w.heap.size (by simp) (fun e => by have := OB.out _ (.inl e.symm); omega)).trans X0.out
  have x1 : w1.cell? ⟨w.heap.size, 1, none⟩ = some (.slice A2 ls.length c2) := by rw [cell_of_cells X1]; rfl
  clear hg hm X1
  go_wp2_with fail
  refine (markLeadS_own (k0 + 2 * ns.length) M2.out h2 (by omega)).mono ?_
  rintro e w2 ⟨rfl, hm, hg⟩
  have M3 := Lib.hid (M1.out.keep fun k e => hg.block k (M1.out.own k e).2 (fun e2 => AP.out k e e2.symm))
  have M4 := Lib.hid hm
  have T2 := Lib.hid (T1.out.trans (Turn.of_grown hg fun g e => HOO.out g (.inr e)))
  clear hg hm
  go_wp2_with fail
  go_ret
  exact ⟨rfl, ⟨M3.out, M4.out⟩, T2.out⟩

theorem markWindow_o1 {w : World} {Lo L1 L2 : Nat} {v1 v2 : Value} {ns ls : List Nd} (h : WinO w Lo v1 v2 ns ls) (hO : ∀ k, (v1.ownBlock = some k ∨ v2.ownBlock = some k) → L1 ≤ k ∧ k < L2) (h1 : ns.length ≤ 1048576) (h2 : ls.length ≤ 1048576) :
    Calls Tryz.prog 22 #[.agg #[v1, v2], .int .i64 1] w fun e w' => e = .returned (.int .i64 ((1 + 2 * ns.length + 2 * ls.length : Nat) : Int)) ∧
      WinO w' Lo v1 v2 (marksP 1 ns.length) (marksP (1 + 2 * ns.length) ls.length) ∧ Turn L1 L2 w w' := by
  have := markWindow_own 1 h hO h1 h2 (by omega)
  rw [show ((1 : Nat) : Int) = 1 from rfl] at this
  exact this

end Go.Proofs.YtepacoacalhdcaaGreat

namespace Go.Proofs.YtepacoacalhdcaaGreat
open Go.RowKit
set_option linter.unusedVariables false
set_option linter.unusedSimpArgs false

def CopyIs (ns ls : List Nd) (w : World) (e : Ending) (w' : World) : Prop := ∃ v1 v2, e = .returned (.agg #[v1, v2]) ∧ WinO w' w.heap.size v1 v2 ns ls ∧ Below w.heap.size w w'

theorem win_node : (115 : TypeId) ≠ 32 := by decide

theorem win_lead : (151 : TypeId) ≠ 32 := by decide

theorem hz2 (w : World) (o o2 : Obj) : ((w.alloc o).alloc o2).heap[w.heap.size + 1]? = some o2 := by
  have := heap_alloc_new (w.alloc o) o2
  simpa using this

theorem NewE.setRow {W : World} {B b n : Nat} {T U : TypeId} {v : Value} (h : NewE B T v W) (hb : BlkN b U n W) (hne : T ≠ U) (cs : Array Value) : NewE B T v (W.setRow b cs) := by
  obtain ⟨g, hv, hB, hg⟩ := h
  refine ⟨g, hv, hB, (setRow_other W b g cs fun e => ?_).trans hg⟩
  obtain ⟨cs', hc, _⟩ := hb
  rw [e] at hg
  rw [hg] at hc
  injection hc with hc
  injection hc with _ hc _
  exact hne hc

end Go.Proofs.YtepacoacalhdcaaGreat

namespace Go.Proofs.YtepacoacalhdcaaGreat
open Go.RowKit
set_option linter.unusedVariables false
set_option linter.unusedSimpArgs false

section

variable {P : Program}

theorem app_keep {w : World} {B : Nat} {t ty e : TypeId} {i : TypeInfo} {z v : Value} {xs : List Nd} (ht : P.underlying t = some (.slice e)) (hi : P.info? e = some i) (hz : i.zero = some z) (hsize : i.size = 2) (hby : i.bytes = 16) (hzs : z.cells.size = 2)
    (hown : Own w B e v xs) {ad : Addr} {c : Nat} {x : Nd} (hx : ∀ j u, (cellsP [x])[j]? = some u → w.cell? (ad.add j) = some u) (hn : xs.length ≤ 1048576) (hB : B ≤ w.heap.size) :
    ∃ v' w', (Builtin.append_ #[t, t] ty #[v, .slice (some ad) 1 c]).run P w = .ok v' w' ∧ Own w' B e v' (xs ++ [x]) ∧ Own w' B e v xs ∧ w.grownBy w' v.ownBlock ∧ (v'.ownBlock = v.ownBlock ∨ v'.ownBlock = some w.heap.size) := by
  obtain ⟨v', w', hr, h2, h3, -⟩ := run_append_own (P := P) w B t ty e i z 2 16 ht hi hz hsize hby hzs (by decide) v xs.length (cellsP xs) hown ad 1 c (cellsP [x]) rfl hx (cellsP_one _) (by unfold maxLen; omega) (by omega) hB
  have h2' : Own w' B e v' (xs ++ [x]) := Own.more (ys := [x]) h2
  refine ⟨v', w', hr, h2', ?_, h3, ?_⟩
  · rcases hown.2 with ⟨rfl, h0⟩ | ⟨g, cap, cur, hv, hBg, hg, hc, hm, hs, htk⟩
    · exact ⟨hown.1, .inl ⟨rfl, h0⟩⟩
    · subst hv
      by_cases hroom : xs.length + 1 ≤ cap
      · have := run_append_room (P := P) (w := w) t ty e i ht hi g xs.length cap cur hg ad 1 c (cellsP [x]) (by rw [hsize]; rfl) hx (cellsP_one _) hroom (by rw [hsize]; simp [cellsP]; omega)
        rw [hr] at this
        injection this with e1 _
        rcases h2.2 with ⟨hv, _⟩ | ⟨g', cap', cur', hv, hBg', hg', hc', hm', hs', htk'⟩
        · rw [hv] at e1; cases e1
        · rw [hv] at e1
          injection e1 with e1 _ e3
          injection e1 with e1
          injection e1 with e1
          subst e1; subst e3
          refine ⟨hown.1, .inr ⟨g', cap', cur', rfl, hBg', hg', by omega, hm', hs', ?_⟩⟩
          have := congrArg (fun l => l.take (xs.length * 2)) htk'
          simp only [List.take_take] at this
          rw [Nat.min_eq_left (by omega), List.take_append_of_le_length (by rw [cellsP_len]; exact Nat.le_refl _), List.take_of_length_le (l := cellsP xs) (by rw [cellsP_len]; exact Nat.le_refl _)] at this
          exact this
      · have := run_append_grow (P := P) w t ty e i z ht hi hz ⟨g, 0, none⟩ xs.length cap (cellsP xs) (by rw [hsize]; exact hown.1) (World.ownsRow.cells hown (g := g) rfl) ad 1 c (cellsP [x]) (by rw [hsize]; rfl) hx (by omega) (by omega)
          (growslice_fits (by omega) (by rw [hby]; omega))
        rw [hr] at this
        injection this with _ e2
        subst e2
        exact World.ownsRow.alloc (World.ownsRow.drew hown) _
  · rcases hown.2 with ⟨rfl, h0⟩ | ⟨g, cap, cur, hv, hBg, hg, hc, hm, hs, htk⟩
    · have := run_append_nil (P := P) w t ty e i z ht hi hz ad 1 c (cellsP [x]) (by rw [hsize]; rfl) hx (by omega) (by omega) (by rw [hby]; omega)
      rw [hr] at this
      injection this with e1 _
      subst e1
      exact .inr rfl
    · subst hv
      by_cases hroom : xs.length + 1 ≤ cap
      · have := run_append_room (P := P) (w := w) t ty e i ht hi g xs.length cap cur hg ad 1 c (cellsP [x]) (by rw [hsize]; rfl) hx (cellsP_one _) hroom (by rw [hsize]; simp [cellsP]; omega)
        rw [hr] at this
        injection this with e1 _
        subst e1
        exact .inl rfl
      · have := run_append_grow (P := P) w t ty e i z ht hi hz ⟨g, 0, none⟩ xs.length cap (cellsP xs) (by rw [hsize]; exact hown.1) (World.ownsRow.cells hown (g := g) rfl) ad 1 c (cellsP [x]) (by rw [hsize]; rfl) hx (by omega) (by omega)
          (growslice_fits (by omega) (by rw [hby]; omega))
        rw [hr] at this
        injection this with e1 _
        subst e1
        exact .inr rfl

theorem wpList_append_pair {ops : Array Oper} {rest : List Oper} {o : Oper} {a : Act} {w : World} {Q : Exit → Act → World → Prop} (hgd : o.guard = none) (s x : Operand) (t : TypeId)
    (ho : o.op = .call { callee := .builtin .append, args := #[s, x], argTypes := #[t, t] }) {B : Nat} {e : TypeId} {i : TypeInfo} {z : Value} (ht : P.underlying t = some (.slice e)) (hi : P.info? e = some i) (hz : i.zero = some z) (hsize : i.size = 2) (hby : i.bytes = 16) (hzs : z.cells.size = 2)
    {v : Value} {xs : List Nd} (hown : Own w B e v xs) (hs : a.eval s = v) {ad : Addr} {c : Nat} {y : Nd} (hx : a.eval x = .slice (some ad) 1 c) (hy : ∀ j u, (cellsP [y])[j]? = some u → w.cell? (ad.add j) = some u) (hn : xs.length ≤ 1048576) (hB : B ≤ w.heap.size)
    (h : ∀ v' w', Own w' B e v' (xs ++ [y]) → w.grownBy w' v.ownBlock → (v'.ownBlock = v.ownBlock ∨ v'.ownBlock = some w.heap.size) → wpList P ops Q rest (a.put o.dst v') w') :
    wpList P ops Q (o :: rest) a w := by
  obtain ⟨v', w', hr, h2, _, h3, hf⟩ := app_keep (P := P) (ty := o.type) ht hi hz hsize hby hzs hown hy hn hB
  refine wpList_plain hgd fun _ hK => ?_
  unfold Oper.wp execOp
  simp only [ho, resolve, invoke, builtin, Sem.run_bind, Sem.run_pure, Result.andThen_ok, List.map_toArray, List.map_cons, List.map_nil, hs, hx, hr]
  rw [hr]
  exact hK _ _ (h v' w' h2 h3 hf)

end

/-- Two cells of one block in view. -/
theorem pair_news {w : World} {b : Nat} {y : Nd} (h0 : w.cell? ⟨b, 0, none⟩ = some (.int .i64 y.x)) (h1 : w.cell? ⟨b, 1, none⟩ = some (.int .i64 y.y)) : ∀ j u, (cellsP [y])[j]? = some u → w.cell? ((⟨b, 0, none⟩ : Addr).add j) = some u := by
  intro j u h
  match j, h with
  | 0, h =>
    have e : (⟨b, 0, none⟩ : Addr).add 0 = ⟨b, 0, none⟩ := by unfold Addr.add; split <;> simp_all
    rw [e, h0]; simpa [cellsP] using h
  | 1, h =>
    have e : (⟨b, 0, none⟩ : Addr).add 1 = ⟨b, 1, none⟩ := by unfold Addr.add; split <;> simp_all
    rw [e, h1]; simpa [cellsP] using h
  | j + 2, h => simp [cellsP] at h

def Nrow (row : Option Nat) : List (Nat × Nat × Value) → Prop
  | [] => True
  | (b, _, _) :: fs => row ≠ some b ∧ Nrow row fs

theorem Cs.grown {W W' : World} {row : Option Nat} {n : Nat} (hn : n ≤ W.heap.size) (hg : W.grownBy W' row) : ∀ {fs : List (Nat × Nat × Value)}, Bs n fs → Nrow row fs → Cs W fs → Cs W' fs
  | [], _, _, _ => trivial
  | (b, _, _) :: _, hb, hr, hc => ⟨(World.cell?_of_block (hg.block b (Nat.lt_of_lt_of_le hb.1 hn) (fun e => hr.1 e.symm))).trans hc.1, Cs.grown hn hg hb.2 hr.2 hc.2⟩

/-- A row of the call's own grows; the cells in view lie elsewhere. -/
theorem Held.grown {w W W' : World} {fs : List (Nat × Nat × Value)} {row : Option Nat} (h : Held w W fs) (hg : W.grownBy W' row) (hr : Nrow row fs) (hB : ∀ k, row = some k → w.heap.size ≤ k) : Held w W' fs :=
  ⟨h.1.grown (Nat.le_refl _) hg h.2.1 hr, h.2.1.mono hg.size, h.2.2.trans ⟨hg.os, hg.tape, hg.output, hg.size, fun k hk => hg.block k (Nat.lt_of_lt_of_le hk h.2.2.size) (fun e => by have := hB k e.symm; omega)⟩⟩

def Nblk (b : Nat) : List (Nat × Nat × Value) → Prop
  | [] => True
  | (b', _, _) :: fs => b' ≠ b ∧ Nblk b fs

theorem Cs.setFar {W : World} {b o : Nat} {x : Value} : ∀ {fs : List (Nat × Nat × Value)}, Nblk b fs → Cs W fs → Cs (W.setCell ⟨b, o, none⟩ x) fs
  | [], _, _ => trivial
  | (b', o', _) :: _, hb, hc => ⟨(World.cell?_setCell_other W _ _ x (fun e => hb.1 (by injection e with e _ _; exact e.symm))).trans hc.1, Cs.setFar hb.2 hc.2⟩

theorem below_setCell {w W : World} {p : Addr} {x : Value} (h : Below w.heap.size w W) (hp : w.heap.size ≤ p.block) : Below w.heap.size w (W.setCell p x) :=
  Below.setCell h hp x

/-- The second cell of a pair in view is written. -/
theorem Held.put1 {w W : World} {fs : List (Nat × Nat × Value)} {b : Nat} {x y z : Value} (h : Held w W ((b, 0, x) :: (b, 1, y) :: fs)) (hn : Nblk b fs) (hb : w.heap.size ≤ b) : Held w (W.setCell ⟨b, 1, none⟩ z) ((b, 0, x) :: (b, 1, z) :: fs) :=
  ⟨⟨(World.cell?_setCell_other W _ _ z (fun e => by injection e with _ e _; cases e)).trans h.1.1, World.cell?_setCell_same W _ z h.1.2.1, h.1.2.2.setFar hn⟩, by rw [heap_setCell_size]; exact h.2.1, below_setCell h.2.2 hb⟩

/-- Both cells of a pair in view are written. -/
theorem Held.put2 {w W : World} {fs : List (Nat × Nat × Value)} {b : Nat} {x y x' z : Value} (h : Held w W ((b, 0, x) :: (b, 1, y) :: fs)) (hn : Nblk b fs) (hb : w.heap.size ≤ b) : Held w ((W.setCell ⟨b, 0, none⟩ x').setCell ⟨b, 1, none⟩ z) ((b, 0, x') :: (b, 1, z) :: fs) := by
  have h1 : Held w (W.setCell ⟨b, 0, none⟩ x') ((b, 0, x') :: (b, 1, y) :: fs) :=
    ⟨⟨World.cell?_setCell_same W _ x' h.1.1, (World.cell?_setCell_other W _ _ x' (fun e => by injection e with _ e _; cases e)).trans h.1.2.1, h.1.2.2.setFar hn⟩, by rw [heap_setCell_size]; exact h.2.1, below_setCell h.2.2 hb⟩
  exact h1.put1 hn hb

theorem Own.setFar {w : World} {B b o : Nat} {T : TypeId} {v x : Value} {xs : List Nd} (h : Own w B T v xs) (hb : v.ownBlock ≠ some b) : Own (w.setCell ⟨b, o, none⟩ x) B T v xs :=
  h.keep fun k hk => Below.heap_setCell w _ x k (fun e => hb (by rw [hk, e]))

theorem WinO.setFar {w : World} {B b o : Nat} {v1 v2 x : Value} {ns ls : List Nd} (h : WinO w B v1 v2 ns ls) (h1 : v1.ownBlock ≠ some b) (h2 : v2.ownBlock ≠ some b) : WinO (w.setCell ⟨b, o, none⟩ x) B v1 v2 ns ls := ⟨h.1.setFar h1, h.2.setFar h2⟩
end Go.Proofs.YtepacoacalhdcaaGreat
