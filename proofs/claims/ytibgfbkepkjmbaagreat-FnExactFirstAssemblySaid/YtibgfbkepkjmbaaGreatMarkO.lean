/-
  The laws' helpers over windows in memory of a call's own: markWindow writes marks, heldWindow reads them, eqWindow.
-/
import Derived.Test.YtibgfbkepkjmbaaGreatG4
import Derived.Test.YtibgfbkepkjmbaaGreatG1
namespace Go.Proofs.YtibgfbkepkjmbaaGreat
open Go.RowKit
set_option linter.unusedVariables false
set_option linter.unusedSimpArgs false

/-- n pairs of marks from k on. -/
def marksP (k n : Nat) : List Nd := (List.range n).map fun i => ⟨((k + 2 * i : Nat) : Int), ((k + 2 * i + 1 : Nat) : Int)⟩

theorem marksP_length (k n : Nat) : (marksP k n).length = n := by simp [marksP]

theorem marksP_set (k0 k : Nat) (xs : List Nd) (h : k < xs.length) : (marksP k0 k ++ xs.drop k).set k ⟨((k0 + 2 * k : Nat) : Int), ((k0 + 2 * k + 1 : Nat) : Int)⟩ = marksP k0 (k + 1) ++ xs.drop (k + 1) := by
  rw [List.set_append_right _ _ (by rw [marksP_length]; exact Nat.le_refl _), marksP_length, Nat.sub_self, List.drop_eq_getElem_cons h, List.set_cons_zero]
  simp [marksP, List.range_succ]

theorem marksP_at (k0 n j : Nat) (h : j < n) : atN (marksP k0 n) j = ⟨((k0 + 2 * j : Nat) : Int), ((k0 + 2 * j + 1 : Nat) : Int)⟩ := by
  unfold atN marksP
  simp [List.getD, List.getElem?_map, List.getElem?_range, h]

theorem half_len (k0 k : Nat) (xs : List Nd) (hk : k ≤ xs.length) : (marksP k0 k ++ xs.drop k).length = xs.length := by
  rw [List.length_append, marksP_length, List.length_drop]; omega

theorem Own.set_ {w : World} {B g c : Nat} {T : TypeId} {xs : List Nd} (h : Own w B T (.slice (some ⟨g, 0, none⟩) xs.length c) xs) (k : Nat) (hk : k < xs.length) (a b : Int) :
    Own ((w.setCell ⟨g, k * 2, none⟩ (.int .i64 a)).setCell ⟨g, k * 2 + 1, none⟩ (.int .i64 b)) B T (.slice (some ⟨g, 0, none⟩) xs.length c) (xs.set k ⟨a, b⟩) := by
  have h1 := (h.stored (k * 2) (.int .i64 a)).1
  have h2 := (World.ownsRow.stored h1 (k * 2 + 1) (.int .i64 b)).1
  rw [cellsP_set xs k a b hk] at h2
  unfold Own
  rw [List.length_set]
  exact h2

set_option maxRecDepth 100000 in
theorem markNodeS_own {B : Nat} {T : TypeId} {w : World} {v : Value} {xs : List Nd} (k0 : Nat) (h : Own w B T v xs) (hlen : xs.length ≤ 1048576) (hk0 : k0 ≤ 4000000) :
    Calls Tryz.prog 50 #[v, .int .i64 k0] w fun e w' => e = .returned (.int .i64 ((k0 + 2 * xs.length : Nat) : Int)) ∧ Own w' B T v (marksP k0 xs.length) ∧ w.grownBy w' v.ownBlock := by
  have HO := Lib.hid h
  obtain ⟨A, c, rfl, hl, hc, hx⟩ := h.form
  clear h
  rcases hx with ⟨rfl, rfl⟩ | ⟨g, rfl, hB, hg, _⟩
  · go_enter Tryz.func50, Tryz.ntmps50
    go_wp2_with fail
    go_loopw [1, 5] (fun v i wr => i = .int .i64 0 ∧ v = .int .i64 k0 ∧ wr = w) (fun _ _ _ => 0)
    case atStart => exact ⟨rfl, rfl, rfl⟩
    case round =>
      obtain ⟨rfl, rfl, rfl⟩ := hrel
      go_wp2_with fail
      go_ret
      exact ⟨by simp, HO.out, ⟨rfl, rfl, rfl, Nat.le_refl _, fun _ _ _ => rfl⟩⟩
  · unfold maxLen at hc
    go_enter Tryz.func50, Tryz.ntmps50
    go_wp2_with fail
    go_loopw [1, 5] (fun v i wr => ∃ k : Nat, k ≤ xs.length ∧ i = .int .i64 k ∧ v = .int .i64 ((k0 : Int) + 2 * k) ∧ Own wr B T (.slice (some ⟨g, 0, none⟩) xs.length c) (marksP k0 k ++ xs.drop k) ∧ w.grownBy wr (some g)) (fun _ i _ => xs.length - (intOf i).toNat)
    case atStart => exact ⟨0, Nat.zero_le _, rfl, by go_num, by simpa [marksP] using HO.out, ⟨rfl, rfl, rfl, Nat.le_refl _, fun _ _ _ => rfl⟩⟩
    case round =>
      clear HO
      obtain ⟨k, hk, rfl, rfl, how, hgr⟩ := hrel
      have HGR := Lib.hid hgr; clear hgr
      have hll := half_len k0 k xs hk
      by_cases hlt : k < xs.length
      · obtain ⟨_, _, he, _, _, hxx⟩ := how.form
        have HOW := Lib.hid how; clear how
        rcases hxx with ⟨_, h0⟩ | ⟨g', hA, _, _, hcs⟩
        · rw [h0] at hll; simp at hll; omega
        injection he with e1 e2 e3
        rw [← e1] at hA
        injection hA with hA
        injection hA with hA
        subst hA
        obtain ⟨g0, g1, f0, f1⟩ := hcs k (by omega)
        clear e1 e2 e3 hcs
        have HS := Lib.hid (marksP_set k0 k xs hlt)
        have hset := fun wr' (a b : Int) (h : Own wr' B T (.slice (some ⟨g, 0, none⟩) xs.length c) (marksP k0 k ++ xs.drop k)) => Own.set_ (hll.symm ▸ h) k (by omega) a b
        have HSET := Lib.hid hset; clear hset
        generalize atN (marksP k0 k ++ xs.drop k) k = n at *
        obtain ⟨p, q⟩ := n
        simp only at g0 g1
        rw [hll] at HSET
        go_wp2_with fail
        refine ⟨⟨k + 1, by omega, by go_num, by go_num, ?_, grown_set (grown_set HGR.out)⟩, by simp [intOf]; omega⟩
        rw [← HS.out]
        exact HSET.out _ _ _ HOW.out
      · have ek : k = xs.length := by omega
        have EK := Lib.hid ek; clear ek
        have HOW := Lib.hid how; clear how
        go_wp2_with fail
        go_ret
        refine ⟨ret_int (by rw [EK.out]; omega), ?_, HGR.out⟩
        have := HOW.out
        rw [EK.out] at this
        simpa using this

set_option maxRecDepth 100000 in
theorem markLeadS_own {B : Nat} {T : TypeId} {w : World} {v : Value} {xs : List Nd} (k0 : Nat) (h : Own w B T v xs) (hlen : xs.length ≤ 1048576) (hk0 : k0 ≤ 4000000) :
    Calls Tryz.prog 51 #[v, .int .i64 k0] w fun e w' => e = .returned (.int .i64 ((k0 + 2 * xs.length : Nat) : Int)) ∧ Own w' B T v (marksP k0 xs.length) ∧ w.grownBy w' v.ownBlock := by
  have HO := Lib.hid h
  obtain ⟨A, c, rfl, hl, hc, hx⟩ := h.form
  clear h
  rcases hx with ⟨rfl, rfl⟩ | ⟨g, rfl, hB, hg, _⟩
  · go_enter Tryz.func51, Tryz.ntmps51
    go_wp2_with fail
    go_loopw [1, 5] (fun v i wr => i = .int .i64 0 ∧ v = .int .i64 k0 ∧ wr = w) (fun _ _ _ => 0)
    case atStart => exact ⟨rfl, rfl, rfl⟩
    case round =>
      obtain ⟨rfl, rfl, rfl⟩ := hrel
      go_wp2_with fail
      go_ret
      exact ⟨by simp, HO.out, ⟨rfl, rfl, rfl, Nat.le_refl _, fun _ _ _ => rfl⟩⟩
  · unfold maxLen at hc
    go_enter Tryz.func51, Tryz.ntmps51
    go_wp2_with fail
    go_loopw [1, 5] (fun v i wr => ∃ k : Nat, k ≤ xs.length ∧ i = .int .i64 k ∧ v = .int .i64 ((k0 : Int) + 2 * k) ∧ Own wr B T (.slice (some ⟨g, 0, none⟩) xs.length c) (marksP k0 k ++ xs.drop k) ∧ w.grownBy wr (some g)) (fun _ i _ => xs.length - (intOf i).toNat)
    case atStart => exact ⟨0, Nat.zero_le _, rfl, by go_num, by simpa [marksP] using HO.out, ⟨rfl, rfl, rfl, Nat.le_refl _, fun _ _ _ => rfl⟩⟩
    case round =>
      clear HO
      obtain ⟨k, hk, rfl, rfl, how, hgr⟩ := hrel
      have HGR := Lib.hid hgr; clear hgr
      have hll := half_len k0 k xs hk
      by_cases hlt : k < xs.length
      · obtain ⟨_, _, he, _, _, hxx⟩ := how.form
        have HOW := Lib.hid how; clear how
        rcases hxx with ⟨_, h0⟩ | ⟨g', hA, _, _, hcs⟩
        · rw [h0] at hll; simp at hll; omega
        injection he with e1 e2 e3
        rw [← e1] at hA
        injection hA with hA
        injection hA with hA
        subst hA
        obtain ⟨g0, g1, f0, f1⟩ := hcs k (by omega)
        clear e1 e2 e3 hcs
        have HS := Lib.hid (marksP_set k0 k xs hlt)
        have hset := fun wr' (a b : Int) (h : Own wr' B T (.slice (some ⟨g, 0, none⟩) xs.length c) (marksP k0 k ++ xs.drop k)) => Own.set_ (hll.symm ▸ h) k (by omega) a b
        have HSET := Lib.hid hset; clear hset
        generalize atN (marksP k0 k ++ xs.drop k) k = n at *
        obtain ⟨p, q⟩ := n
        simp only at g0 g1
        rw [hll] at HSET
        go_wp2_with fail
        refine ⟨⟨k + 1, by omega, by go_num, by go_num, ?_, grown_set (grown_set HGR.out)⟩, by simp [intOf]; omega⟩
        rw [← HS.out]
        exact HSET.out _ _ _ HOW.out
      · have ek : k = xs.length := by omega
        have EK := Lib.hid ek; clear ek
        have HOW := Lib.hid how; clear how
        go_wp2_with fail
        go_ret
        refine ⟨ret_int (by rw [EK.out]; omega), ?_, HGR.out⟩
        have := HOW.out
        rw [EK.out] at this
        simpa using this

set_option maxRecDepth 100000 in
theorem heldNodeS_own {B : Nat} {T : TypeId} {w : World} {v : Value} (k0 n : Nat) (h : Own w B T v (marksP k0 n)) (hlen : n ≤ 1048576) (hk0 : k0 ≤ 4000000) :
    Calls Tryz.prog 52 #[v, .int .i64 k0] w fun e w' => e = .returned (.int .i64 ((k0 + 2 * n : Nat) : Int)) ∧ ∃ m, w' = w.drewN m := by
  obtain ⟨A, c, rfl, hl, hc, hx⟩ := h.form
  rw [marksP_length] at *
  clear h
  go_enter Tryz.func52, Tryz.ntmps52
  go_wp2_with fail
  go_loopw [1, 5] (fun v i wr => ∃ k m : Nat, k ≤ n ∧ i = .int .i64 k ∧ v = .int .i64 ((k0 : Int) + 2 * k) ∧ wr = w.drewN m) (fun _ i _ => n - (intOf i).toNat)
  case atStart => exact ⟨0, 0, Nat.zero_le _, rfl, by go_num, rfl⟩
  case round =>
    obtain ⟨k, m, hk, rfl, rfl, rfl⟩ := hrel
    by_cases hlt : k < n
    · rcases hx with ⟨_, h0⟩ | ⟨g, rfl, _, hg, hcs⟩
      · have := congrArg List.length h0; rw [marksP_length] at this; simp at this; omega
      obtain ⟨c0, c1, _, _⟩ := hcs k hlt
      rw [marksP_at k0 n k hlt] at c0 c1
      simp only at c0 c1
      have q0 : (0 : Int) ≤ (k : Int) := by omega
      have q1 : (k : Int) < (n : Int) := by omega
      rw [show ((k0 + 2 * k : Nat) : Int) = (k0 : Int) + 2 * k by omega] at c0
      rw [show ((k0 + 2 * k + 1 : Nat) : Int) = (k0 : Int) + 2 * k + 1 by omega] at c1
      clear hcs
      go_wp2_with fail
      refine ⟨⟨k + 1, _, by omega, by go_num, by go_num, rfl⟩, by simp [intOf]; omega⟩
    · have ek : k = n := by omega
      have EK := Lib.hid ek; clear ek
      go_wp2_with fail
      go_ret
      exact ⟨ret_int (by rw [EK.out]; omega), m, rfl⟩

set_option maxRecDepth 100000 in
theorem heldLeadS_own {B : Nat} {T : TypeId} {w : World} {v : Value} (k0 n : Nat) (h : Own w B T v (marksP k0 n)) (hlen : n ≤ 1048576) (hk0 : k0 ≤ 4000000) :
    Calls Tryz.prog 53 #[v, .int .i64 k0] w fun e w' => e = .returned (.int .i64 ((k0 + 2 * n : Nat) : Int)) ∧ ∃ m, w' = w.drewN m := by
  obtain ⟨A, c, rfl, hl, hc, hx⟩ := h.form
  rw [marksP_length] at *
  clear h
  go_enter Tryz.func53, Tryz.ntmps53
  go_wp2_with fail
  go_loopw [1, 5] (fun v i wr => ∃ k m : Nat, k ≤ n ∧ i = .int .i64 k ∧ v = .int .i64 ((k0 : Int) + 2 * k) ∧ wr = w.drewN m) (fun _ i _ => n - (intOf i).toNat)
  case atStart => exact ⟨0, 0, Nat.zero_le _, rfl, by go_num, rfl⟩
  case round =>
    obtain ⟨k, m, hk, rfl, rfl, rfl⟩ := hrel
    by_cases hlt : k < n
    · rcases hx with ⟨_, h0⟩ | ⟨g, rfl, _, hg, hcs⟩
      · have := congrArg List.length h0; rw [marksP_length] at this; simp at this; omega
      obtain ⟨c0, c1, _, _⟩ := hcs k hlt
      rw [marksP_at k0 n k hlt] at c0 c1
      simp only at c0 c1
      have q0 : (0 : Int) ≤ (k : Int) := by omega
      have q1 : (k : Int) < (n : Int) := by omega
      rw [show ((k0 + 2 * k : Nat) : Int) = (k0 : Int) + 2 * k by omega] at c0
      rw [show ((k0 + 2 * k + 1 : Nat) : Int) = (k0 : Int) + 2 * k + 1 by omega] at c1
      clear hcs
      go_wp2_with fail
      refine ⟨⟨k + 1, _, by omega, by go_num, by go_num, rfl⟩, by simp [intOf]; omega⟩
    · have ek : k = n := by omega
      have EK := Lib.hid ek; clear ek
      go_wp2_with fail
      go_ret
      exact ⟨ret_int (by rw [EK.out]; omega), m, rfl⟩

/-- A window whose two lists lie in blocks of its own, from Lo on. -/
def WinO (w : World) (Lo : Nat) (v1 v2 : Value) (ns ls : List Nd) : Prop := Own w Lo 106 v1 ns ∧ Own w Lo 104 v2 ls

theorem WinO.step {w w' : World} {Lo : Nat} {v1 v2 : Value} {ns ls : List Nd} (h : WinO w Lo v1 v2 ns ls) (hb : Below w.heap.size w w') : WinO w' Lo v1 v2 ns ls := ⟨h.1.step hb, h.2.step hb⟩

theorem stable_winO (Lo : Nat) (v1 v2 : Value) (ns ls : List Nd) : Stable fun W => WinO W Lo v1 v2 ns ls := fun _ _ h hb => h.step hb

theorem WinO.at_ {w : World} {Lo : Nat} {v1 v2 : Value} {ns ls : List Nd} (h : WinO w Lo v1 v2 ns ls) : WinAt w (.agg #[v1, v2]) ns ls := WinAt.mk h.1.prs h.2.prs

theorem WinO.mono {w : World} {Lo Lo' : Nat} {v1 v2 : Value} {ns ls : List Nd} (h : WinO w Lo v1 v2 ns ls) (hl : Lo' ≤ Lo) : WinO w Lo' v1 v2 ns ls := ⟨h.1.mono hl, h.2.mono hl⟩

theorem Own.turn {Lo Hi B : Nat} {w w' : World} {T : TypeId} {v : Value} {xs : List Nd} (h : Own w B T v xs) (t : Turn Lo Hi w w') (hk : ∀ k, v.ownBlock = some k → k < Lo ∨ Hi ≤ k) : Own w' B T v xs :=
  h.keep fun k e => t.block k (h.own k e).2 (hk k e)

theorem WinO.turn {Lo Hi B : Nat} {w w' : World} {v1 v2 : Value} {ns ls : List Nd} (h : WinO w B v1 v2 ns ls) (t : Turn Lo Hi w w') (hk : ∀ k, (v1.ownBlock = some k ∨ v2.ownBlock = some k) → k < Lo ∨ Hi ≤ k) : WinO w' B v1 v2 ns ls :=
  ⟨h.1.turn t fun k e => hk k (.inl e), h.2.turn t fun k e => hk k (.inr e)⟩

theorem WinO.own {w : World} {B : Nat} {v1 v2 : Value} {ns ls : List Nd} (h : WinO w B v1 v2 ns ls) : ∀ k, (v1.ownBlock = some k ∨ v2.ownBlock = some k) → B ≤ k ∧ k < w.heap.size := fun k hk => hk.elim (h.1.own k) (h.2.own k)

theorem node_lead : (106 : TypeId) ≠ 104 := by decide

set_option maxRecDepth 100000 in
theorem markWindow_own {w : World} {Lo L1 L2 : Nat} {v1 v2 : Value} {ns ls : List Nd} (k0 : Nat) (h : WinO w Lo v1 v2 ns ls) (hO : ∀ k, (v1.ownBlock = some k ∨ v2.ownBlock = some k) → L1 ≤ k ∧ k < L2) (h1 : ns.length ≤ 1048576) (h2 : ls.length ≤ 1048576) (hk : k0 ≤ 1000) :
    Calls Tryz.prog 16 #[.agg #[v1, v2], .int .i64 k0] w fun e w' => e = .returned (.int .i64 ((k0 + 2 * ns.length + 2 * ls.length : Nat) : Int)) ∧
      WinO w' Lo v1 v2 (marksP k0 ns.length) (marksP (k0 + 2 * ns.length) ls.length) ∧ Turn L1 L2 w w' := by
  have b0 : Below w.heap.size w (w.alloc (.cells #[v1, v2] 30)) := (Below.refl _ _).alloc (Nat.le_refl _) _
  have M0 := Lib.hid (h.step b0)
  have OB := Lib.hid h.own
  have AP := Lib.hid (h.1.apart h.2 node_lead)
  have T0 := Lib.hid (Turn.of_below (Lo := L1) (Hi := L2) b0)
  have HOO := Lib.hid hO; clear hO
  have X0 := Lib.hid (heap_alloc_new w (.cells #[v1, v2] 30))
  clear h b0
  obtain ⟨A1, c1, rfl, _⟩ := M0.out.1.form
  obtain ⟨A2, c2, rfl, _⟩ := M0.out.2.form
  go_enter Tryz.func16, Tryz.ntmps16
  go_wp2_with fail
  refine (markNodeS_own k0 M0.out.1 h1 (by omega)).mono ?_
  rintro e w1 ⟨rfl, hm, hg⟩
  have M2 := Lib.hid (M0.out.2.keep fun k e => hg.block k (M0.out.2.own k e).2 (fun e2 => AP.out k e2.symm e))
  have M1 := Lib.hid hm
  have T1 := Lib.hid (T0.out.trans (Turn.of_grown hg fun g e => HOO.out g (.inl e)))
  have X1 := (hg.block w.heap.size (by simp) (fun e => by have := OB.out _ (.inl e.symm); omega)).trans X0.out
  have x1 : w1.cell? ⟨w.heap.size, 1, none⟩ = some (.slice A2 ls.length c2) := by rw [cell_of_cells X1]; rfl
  clear hg hm X1
  go_wp2_with fail
  refine (markLeadS_own (k0 + 2 * ns.length) M2.out h2 (by omega)).mono ?_
  rintro e w2 ⟨rfl, hm, hg⟩
  have M3 := Lib.hid (M1.out.keep fun k e => hg.block k (M1.out.own k e).2 (fun e2 => AP.out k e e2.symm))
  have M4 := Lib.hid hm
  have T2 := Lib.hid (T1.out.trans (Turn.of_grown hg fun g e => HOO.out g (.inr e)))
  clear hg hm
  go_wp2_with fail
  go_ret
  exact ⟨rfl, ⟨M3.out, M4.out⟩, T2.out⟩

theorem markWindow_o1 {w : World} {Lo L1 L2 : Nat} {v1 v2 : Value} {ns ls : List Nd} (h : WinO w Lo v1 v2 ns ls) (hO : ∀ k, (v1.ownBlock = some k ∨ v2.ownBlock = some k) → L1 ≤ k ∧ k < L2) (h1 : ns.length ≤ 1048576) (h2 : ls.length ≤ 1048576) :
    Calls Tryz.prog 16 #[.agg #[v1, v2], .int .i64 1] w fun e w' => e = .returned (.int .i64 ((1 + 2 * ns.length + 2 * ls.length : Nat) : Int)) ∧
      WinO w' Lo v1 v2 (marksP 1 ns.length) (marksP (1 + 2 * ns.length) ls.length) ∧ Turn L1 L2 w w' := by
  have := markWindow_own 1 h hO h1 h2 (by omega)
  rw [show ((1 : Nat) : Int) = 1 from rfl] at this
  exact this

set_option maxRecDepth 100000 in
theorem heldWindow_own {w : World} {Lo n m : Nat} {v1 v2 : Value} (k0 : Nat) (h : WinO w Lo v1 v2 (marksP k0 n) (marksP (k0 + 2 * n) m)) (h1 : n ≤ 1048576) (h2 : m ≤ 1048576) (hk : k0 ≤ 1000) :
    Calls Tryz.prog 17 #[.agg #[v1, v2], .int .i64 k0] w fun e w' => e = .returned (.int .i64 ((k0 + 2 * n + 2 * m : Nat) : Int)) ∧ Below w.heap.size w w' := by
  have H0 := Lib.hid ((Held.none_ w).new2 w.heap.size rfl [v1, v2] 30)
  have M0 := Lib.hid (h.step H0.out.below)
  clear h
  obtain ⟨x, hx⟩ : ∃ x : Int, ((k0 + 2 * n : Nat) : Int) = x := ⟨_, rfl⟩
  obtain ⟨y, hy⟩ : ∃ y : Int, ((k0 + 2 * n + 2 * m : Nat) : Int) = y := ⟨_, rfl⟩
  have HA := Lib.hid (fun W (h : WinO W Lo v1 v2 (marksP k0 n) (marksP (k0 + 2 * n) m)) => hx ▸ heldNodeS_own k0 n h.1 h1 (by omega))
  have HB := Lib.hid (fun W (h : WinO W Lo v1 v2 (marksP k0 n) (marksP (k0 + 2 * n) m)) => hx ▸ hy ▸ heldLeadS_own (k0 + 2 * n) m h.2 h2 (by omega))
  have hx0 : 0 ≤ x := by omega
  have hy0 : 0 ≤ y := by omega
  rw [hy]
  have g1 : ¬ x < 0 := by omega
  have g2 : ¬ y < 0 := by omega
  clear hx hy
  go_enter Tryz.func17, Tryz.ntmps17
  go_wp2_with fail
  refine (HA.out _ M0.out).mono ?_
  rintro e w1' ⟨rfl, n1, rfl⟩
  have H1 := Lib.hid (H0.out.drewN n1)
  have M1 := Lib.hid (M0.out.step (below_drewN (Below.refl _ _) n1))
  obtain ⟨x0, x1, _⟩ := H1.out.1
  go_wp2_with fail
  refine (HB.out _ M1.out).mono ?_
  rintro e w2' ⟨rfl, n2, rfl⟩
  go_wp2_with fail
  go_ret
  exact ⟨rfl, (H0.out.drewN (n1 + n2)).below⟩

theorem heldWindow_o1 {w : World} {Lo n m : Nat} {v1 v2 : Value} (h : WinO w Lo v1 v2 (marksP 1 n) (marksP (1 + 2 * n) m)) (h1 : n ≤ 1048576) (h2 : m ≤ 1048576) :
    Calls Tryz.prog 17 #[.agg #[v1, v2], .int .i64 1] w fun e w' => e = .returned (.int .i64 ((1 + 2 * n + 2 * m : Nat) : Int)) ∧ Below w.heap.size w w' := by
  have := heldWindow_own 1 h h1 h2 (by omega)
  rw [show ((1 : Nat) : Int) = 1 from rfl] at this
  exact this
end Go.Proofs.YtibgfbkepkjmbaaGreat
