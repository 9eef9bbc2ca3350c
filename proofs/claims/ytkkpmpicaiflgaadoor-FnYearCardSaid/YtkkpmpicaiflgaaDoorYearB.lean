/-
  The year, of the program: the best month, the months above.
-/
import Derived.Test.YtkkpmpicaiflgaaDoorYearI
import Derived.Maps.AppendAt
namespace Go.Proofs.YtkkpmpicaiflgaaDoor
open Go.RowKit
set_option linter.unusedVariables false
set_option linter.unusedSimpArgs false

def bestB (t : Int) : Nat → Int
  | 0 => -1
  | n + 1 => (bst t n : Nat)
def mostM (t : Int) : Nat → Int
  | 0 => -1
  | n + 1 => clearI (bst t n : Nat) t
theorem best_yes {t : Int} {n : Nat} (h : mostM t n < clearI n t) : bestB t (n + 1) = n ∧ mostM t (n + 1) = clearI n t := by
  cases n with
  | zero => exact ⟨rfl, rfl⟩
  | succ k =>
    have : bst t (k + 1) = k + 1 := by
      rw [show bst t (k + 1) = if clearI (bst t k : Nat) t < clearI ((k + 1 : Nat) : Int) t then k + 1 else bst t k from rfl]
      exact if_pos h
    constructor
    · show ((bst t (k + 1) : Nat) : Int) = _; rw [this]
    · show clearI (bst t (k + 1) : Nat) t = _; rw [this]
theorem best_no {t : Int} {n : Nat} (hb : inB t 0 60 = true) (h : ¬ mostM t n < clearI n t) : bestB t (n + 1) = bestB t n ∧ mostM t (n + 1) = mostM t n := by
  cases n with
  | zero => exact absurd (by have := clear_nat (m := 0) (by omega) hb; show (-1 : Int) < _; omega) h
  | succ k =>
    have : bst t (k + 1) = bst t k := by
      rw [show bst t (k + 1) = if clearI (bst t k : Nat) t < clearI ((k + 1 : Nat) : Int) t then k + 1 else bst t k from rfl]
      exact if_neg h
    constructor
    · show ((bst t (k + 1) : Nat) : Int) = (bst t k : Nat); rw [this]
    · show clearI (bst t (k + 1) : Nat) t = clearI (bst t k : Nat) t; rw [this]

theorem ints_cells {W : World} {B n c : Nat} {A : Option Addr} {L : List Int} (h : Ints W B (.slice A n c) L) : ∀ k, k < L.length → ∃ b o, A = some ⟨b, o, none⟩ ∧ b < W.heap.size ∧ W.cell? ⟨b, o + k, none⟩ = some (.int .i64 (atZ L k)) := by
  obtain ⟨A', c', e, _, _, hcs⟩ := h.seq.form
  injection e with e1 _ _
  rw [e1]; exact hcs
/-- What lies in blocks of its own stays where another one's own block grows. -/
theorem ints_other {W w2 : World} {o : Obj} {B : Nat} {v vL : Value} {L : List Int} (h : Ints W B vL L) (hg : (W.alloc o).grownBy w2 v.ownBlock) (hne : ∀ k k0, vL.ownBlock = some k → v.ownBlock = some k0 → k ≠ k0) : Ints w2 B vL L := by
  have hLa := h.step ((Below.refl _ W).alloc (Nat.le_refl _) o)
  cases hv : v.ownBlock with
  | none => rw [hv] at hg; exact hLa.turn (Turn.of_grown (Lo := 0) (Hi := 0) hg (fun g e => by cases e)) (fun k _ => .inr (Nat.zero_le _))
  | some k0 =>
    rw [hv] at hg
    refine hLa.turn (Turn.of_grown (Lo := k0) (Hi := k0 + 1) hg (fun g e => by injection e with e; omega)) (fun k e => ?_)
    have := hne k k0 e hv
    omega

set_option maxRecDepth 100000 in
theorem implBest (t : Int) (w : World) (ht : Tab w) :
    Calls Tryd.prog 7 #[.int .i64 t] w (IntIs (bestI t) w) := by
  have HA := Lib.hid (implMn t w ht)
  unfold IntsNew at HA
  have HR := Lib.hid (show bestI t = if inB t 0 60 then bestB t 12 else -1 from rfl)
  have HM := Lib.hid (show mnI t = if inB t 0 60 then mnL t 12 else [] from rfl)
  have HAT := Lib.hid (mnL_at t 12)
  have HLN := Lib.hid (mnL_len t 12)
  have HZ := Lib.hid (show bestB t 0 = -1 from rfl)
  have HZ2 := Lib.hid (show mostM t 0 = -1 from rfl)
  have HY := Lib.hid (fun n => best_yes (t := t) (n := n))
  have HNO := Lib.hid (fun n hb => best_no (t := t) (n := n) hb)
  clear ht
  generalize bestI t = r at *
  generalize mnI t = L at *
  generalize mnL t 12 = M at *
  generalize inB t 0 60 = b at *
  generalize bestB t = B at *
  generalize mostM t = M2 at *
  cases b
  · obtain rfl : L = [] := by rw [HM.out]; rfl
    go_enter Tryd.func7, Tryd.ntmps7
    go_wp2_with fail
    refine HA.out.mono ?_
    rintro e w1 ⟨v, rfl, hm, hb⟩
    have HB1 := Lib.hid hb; clear hb
    obtain ⟨A, c, rfl, _, _, _⟩ := hm.seq.form
    clear hm
    go_wp2_with fail
    refine wp_loop_rounds 1 ?_
    rw [rounds_succ]
    go_wp2_with fail
    go_ret
    exact ⟨ret_int (by rw [HR.out]; rfl), HB1.out⟩
  · obtain rfl : L = M := by rw [HM.out]; rfl
    have HNO2 := Lib.hid (fun n => HNO.out n rfl); clear HNO
    have HR2 := Lib.hid (show r = B 12 from HR.out); clear HR HM
    go_enter Tryd.func7, Tryd.ntmps7
    go_wp2_with fail
    refine HA.out.mono ?_
    rintro e w1 ⟨v, rfl, hm, hb⟩
    have HB1 := Lib.hid hb; clear hb
    obtain ⟨A, c, rfl, _, _, hcs⟩ := hm.seq.form
    have HCS := Lib.hid hcs; clear hcs hm
    have hl := HLN.out
    rw [hl] at HCS ⊢
    go_wp2_with fail
    go_loopw [3, 4, 10] (fun s q i wr => ∃ m : Nat, m ≤ 12 ∧ i = .int .i64 m ∧ s = .int .i64 (B m) ∧ q = .int .i64 (M2 m) ∧ wr = w1) (fun _ _ i _ => 12 - (intOf i).toNat)
    case atStart => exact ⟨0, by omega, rfl, by rw [HZ.out], by rw [HZ2.out], rfl⟩
    case round =>
      obtain ⟨m, hm, hi, hs, hq, rfl⟩ := hrel
      obtain rfl := hi
      by_cases hlt : m < 12
      · have HYm := Lib.hid (HY.out m)
        have HNm := Lib.hid (HNO2.out m)
        obtain ⟨bb, o, rfl, hbl, hc⟩ := HCS.out m hlt
        rw [HAT.out m hlt] at hc
        have hz1 : (m : Int) < 12 := by omega
        have hz2 : (0 : Int) ≤ m := by omega
        generalize clearI m t = c at *
        generalize B m = sv at *
        generalize M2 m = qv at *
        subst hs
        subst hq
        by_cases hy : qv < c
        · have HN := Lib.hid (HYm.out hy)
          clear HYm HNm
          go_wp2_with fail
          exact ⟨⟨m + 1, by omega, by go_num, by rw [HN.out.1], by rw [HN.out.2], trivial⟩, by simp [intOf]; omega⟩
        · have HN := Lib.hid (HNm.out (by omega))
          clear HYm HNm
          go_wp2_with fail
          exact ⟨⟨m + 1, by omega, by go_num, by rw [HN.out.1], by rw [HN.out.2], trivial⟩, by simp [intOf]; omega⟩
      · obtain rfl : m = 12 := by omega
        generalize B 12 = sv at *
        generalize M2 12 = qv at *
        subst hs
        subst hq
        go_wp2_with fail
        go_ret
        exact ⟨ret_int (by rw [HR2.out]), HB1.out⟩

set_option maxRecDepth 100000 in
theorem implAbove (t y : Int) (w : World) (ht : Tab w) :
    Calls Tryd.prog 10 #[.int .i64 t, .int .i64 y] w (IntsNew (aboveI t y) w) := by
  have HTB := Lib.hid ht
  have HTL := Lib.hid (tab_lt ht); clear ht
  have HA := Lib.hid (fun w h => implMn t w h)
  unfold IntsNew at HA
  have HR := Lib.hid (show aboveI t y = if inB t 0 60 then aboveL t y 12 else [] from rfl)
  have HM := Lib.hid (show mnI t = if inB t 0 60 then mnL t 12 else [] from rfl)
  have HAT := Lib.hid (mnL_at t 12)
  have HLM := Lib.hid (mnL_len t 12)
  have HST := Lib.hid (fun n => (show aboveL t y (n + 1) = if y ≤ clearI n t then aboveL t y n ++ [(n : Int)] else aboveL t y n from rfl))
  have HZ := Lib.hid (show aboveL t y 0 = [] from rfl)
  have HLN := Lib.hid (aboveL_len t y)
  obtain ⟨i0, hi, hz0, hz1, hz2⟩ := info_parts infoInt
  have HI := Lib.hid (And.intro hi (And.intro hz0 (And.intro hz1 hz2))); clear hi hz0 hz1 hz2
  generalize aboveI t y = r at *
  generalize mnI t = L at *
  generalize mnL t 12 = M at *
  generalize inB t 0 60 = b at *
  generalize aboveL t y = S at *
  have HB0 := Lib.hid ((Below.refl w.heap.size w).alloc (Nat.le_refl _) (.cells #[] 3))
  have HO0 := Lib.hid (show Ints (w.alloc (.cells #[] 3)) w.heap.size (.slice (some ⟨w.heap.size, 0, none⟩) 0 0) [] from World.ownsRow_made _ _ _ (Nat.le_refl _) (by unfold maxLen; omega) rfl)
  cases b
  · obtain rfl : L = [] := by rw [HM.out]; rfl
    have HR2 := Lib.hid (show r = [] from HR.out); clear HR
    go_enter Tryd.func10, Tryd.ntmps10
    go_wp2_with fail
    refine (HA.out _ (tab_below HTB.out HB0.out HTL.out)).mono ?_
    rintro e w1 ⟨v, rfl, hm, hb⟩
    have HO1 := Lib.hid (HO0.out.step hb)
    have HB1 := Lib.hid (HB0.out.trans (hb.mono (by simp))); clear hb
    obtain ⟨A, c, rfl, _, _, _⟩ := hm.seq.form
    clear hm
    go_wp2_with fail
    refine wp_loop_rounds 1 ?_
    rw [rounds_succ]
    go_wp2_with fail
    go_ret
    exact ⟨_, rfl, by rw [HR2.out]; exact HO1.out, HB1.out⟩
  · obtain rfl : L = M := by rw [HM.out]; rfl
    have HR2 := Lib.hid (show S 12 = r from HR.out.symm); clear HR HM
    go_enter Tryd.func10, Tryd.ntmps10
    go_wp2_with fail
    refine (HA.out _ (tab_below HTB.out HB0.out HTL.out)).mono ?_
    rintro e w1 ⟨v, rfl, hm, hb⟩
    have HO1 := Lib.hid (HO0.out.step hb)
    have HB1 := Lib.hid (HB0.out.trans (hb.mono (by simp))); clear hb
    have HMI := Lib.hid hm
    obtain ⟨A, c, rfl, _, _, _⟩ := hm.seq.form
    clear hm
    have hl := HLM.out
    have HHI := Lib.hid (HMI.out.own)
    rw [hl] at HMI HHI ⊢
    go_wp2_with fail
    have HS1 := Lib.hid (show w.heap.size + 1 ≤ w1.heap.size from by have := HB1.out.size; have := HHI; have h3 := (HO1.out.own w.heap.size rfl).2; omega)
    go_loopw [5, 12] (fun v i wr => ∃ m : Nat, m ≤ 12 ∧ i = .int .i64 m ∧ Ints wr w.heap.size v (S m) ∧ Below w.heap.size w wr ∧ Ints wr (w.alloc (.cells #[] 3)).heap.size (.slice A 12 c) L ∧ (∀ k, v.ownBlock = some k → k = w.heap.size ∨ w1.heap.size ≤ k) ∧ w1.heap.size ≤ wr.heap.size) (fun _ i _ => 12 - (intOf i).toNat)
    case atStart => exact ⟨0, by omega, rfl, by rw [HZ.out]; exact HO1.out, HB1.out, HMI.out, fun k e => .inl (by injection e with e; exact e.symm), Nat.le_refl _⟩
    case round =>
      clear HB0 HO0 HO1 HB1 HMI
      obtain ⟨m, hm, rfl, hown, hb, hL, ho, hsw⟩ := hrel
      have HOWN := Lib.hid hown; clear hown
      have HB := Lib.hid hb; clear hb
      have HL := Lib.hid hL; clear hL
      have HO := Lib.hid ho; clear ho
      have hsz := HB.out.size
      by_cases hlt : m < 12
      · have HS := Lib.hid (HST.out m)
        have hll := HLN.out m
        obtain ⟨bb, o, hA, hbl, hc⟩ := ints_cells HL.out m (by omega)
        rw [HAT.out m hlt] at hc
        subst hA
        have hz1 : (m : Int) < 12 := by omega
        have hz2 : (0 : Int) ≤ m := by omega
        generalize clearI m t = cc at *
        by_cases hy : y ≤ cc
        · have HY := Lib.hid hy
          obtain ⟨hi, hz0, hzz1, hzz2⟩ := HI.out
          go_wp2_with (at_builtin; refine wpList_append_own_at _ rfl _ _ 27 rfl w.heap.size 3 i0 (.int .i64 0) 1 8 Tryd.underlying27 hi hz0 hzz1 hzz2 rfl (by decide) _ _ _ rfl (World.ownsRow.alloc HOWN.out _) ⟨_, 0, none⟩ 1 1 [.int .i64 m] rfl rfl ?c1 ?c2 ?c3 ?c4 ?c5 ?_)
          case c1 => exact cell_one_new _ _ _
          case c2 => simp [Value.oneCell']
          case c3 => unfold maxLen; omega
          case c4 => omega
          case c5 => simp; omega
          intro v' w2 hown hgrow _ hob
          have HB2 := Lib.hid (HB.out.trans (grown_below HOWN.out hsz hgrow))
          have HL2 := Lib.hid (ints_other HL.out hgrow fun k k0 e e0 => by
            have h1 := HHI.out k e
            have h2 := HO.out k0 e0
            simp at h1
            omega)
          have HO2 := Lib.hid (Ints.more hown)
          have HOB := Lib.hid (show ∀ k, v'.ownBlock = some k → k = w.heap.size ∨ w1.heap.size ≤ k from fun k e => by
            rcases hob with h | h
            · exact HO.out k (h ▸ e)
            · rw [h] at e; injection e with e; right; try simp at e
              omega)
          have hs2 : w1.heap.size ≤ w2.heap.size := by have := hgrow.size; simp at this; omega
          clear hown hgrow hob
          go_wp2_with fail
          exact ⟨⟨m + 1, by omega, by go_num, by rw [HS.out, if_pos HY.out]; exact HO2.out, HB2.out, HL2.out, HOB.out, hs2⟩, by simp [intOf]; omega⟩
        · have HY := Lib.hid hy
          go_wp2_with fail
          exact ⟨⟨m + 1, by omega, by go_num, by rw [HS.out, if_neg (by have := HY.out; omega)]; exact HOWN.out, HB.out, HL.out, HO.out, hsw⟩, by simp [intOf]; omega⟩
      · obtain rfl : m = 12 := by omega
        go_wp2_with fail
        go_ret
        exact ⟨_, rfl, by rw [← HR2.out]; exact HOWN.out, HB.out⟩
end Go.Proofs.YtkkpmpicaiflgaaDoor
