/-
  The colors that no face beside has, of the program.
-/
import Derived.Test.YtibgfbkepkjmbaaGreatG21
import Derived.WalkMore
namespace Go.Proofs.YtibgfbkepkjmbaaGreat
open Go.RowKit
set_option linter.unusedVariables false
set_option linter.unusedSimpArgs false

theorem heldC (w : World) (v1 v2 v3 : Value) (T : TypeId) : Held w (w.alloc (.cells #[v1, v2, v3] T)) [(w.heap.size, 0, v1), (w.heap.size, 1, v2), (w.heap.size, 2, v3)] := (Held.none_ w).new2 w.heap.size rfl [v1, v2, v3] T

set_option maxRecDepth 100000 in
set_option maxHeartbeats 4000000 in
theorem implChoices (vb vc : Value) (us : List Value) (rs : List (List Int)) (xs : List Int) (n f B B2 : Nat) (w : World) (hb : FaceV w B vb us rs) (hc : Ints w B2 vc xs) (hf : f < rs.length) (hr : ∀ j, j < (atR rs f).length → ∃ q : Nat, atZ (atR rs f) j = q ∧ q < xs.length) (hn : n ≤ 40) (hrl : (atR rs f).length ≤ 40) (hxl : xs.length ≤ 40) (hfl : rs.length ≤ 40) :
    Calls Tryz.prog 68 #[.agg #[vb, vc, .int .i64 n], .int .i64 f] w (IntsNew (chL (atR rs f) xs n) w) := by
  obtain ⟨gb, cb, rfl⟩ := hb.some_ (by omega)
  obtain ⟨hcell, hgb⟩ := hb.cellAt hf
  have HROW := Lib.hid (hb.each f hf)
  have HHIT := Lib.hid (fun c j => freeJ_hit (row := atR rs f) (xs := xs) (c := c) (j := j))
  have HNON := Lib.hid (fun c => freeJ_none (row := atR rs f) (xs := xs) (c := c))
  unfold chL
  have HR := Lib.hid hr; clear hr
  obtain ⟨ar, cr, hvr, -⟩ := HROW.out.form
  rw [hvr] at hcell HROW
  clear hvr
  generalize atR rs f = row at *
  obtain ⟨ac, cc, rfl, -⟩ := hc.form
  have HC := Lib.hid hc; clear hc
  have HU := Lib.hid (fltN_succ (freeJ row xs))
  have HLN := Lib.hid (fltN_len (freeJ row xs))
  have HZ := Lib.hid (show fltN (freeJ row xs) 0 = [] from rfl)
  generalize hp : freeJ row xs = p at *
  generalize hX : fltN p = X at *
  clear hp hX
  have H0 := Lib.hid (heldC w (.slice (some ⟨gb, 0, none⟩) rs.length cb) (.slice ac xs.length cc) (.int .i64 n) 83)
  have q1 : (0 : Int) ≤ f := by omega
  have q2 : (f : Int) < (rs.length : Int) := by omega
  obtain ⟨i0, hi, hz0, hz1, hz2⟩ := info_parts infoInt
  have HI := Lib.hid (And.intro hi (And.intro hz0 (And.intro hz1 hz2))); clear hi hz0 hz1 hz2
  have HCL := Lib.hid (And.intro hcell hgb); clear hcell hgb
  clear hb
  go_enter Tryz.func68, Tryz.ntmps68
  obtain ⟨x0, x1, x2, _⟩ := H0.out.1
  go_wp2_with fail
  go_step3
  go_wp2_with fail
  go_step3
  go_wp2_with fail
  clear x0 x1 x2
  go_loopw [5, 12] (fun u i wr => ∃ k : Nat, k ≤ n ∧ i = .int .i64 k ∧ Ints wr (w.heap.size + 1) u (X k) ∧ Held w wr [(w.heap.size, 0, .slice (some ⟨gb, 0, none⟩) rs.length cb), (w.heap.size, 1, .slice ac xs.length cc), (w.heap.size, 2, .int .i64 n)]) (fun _ i _ => n - (intOf i).toNat)
  case atStart => exact ⟨0, Nat.zero_le _, rfl, by rw [HZ.out]; exact Ints.made _ _ _ (by simp) (Nat.le_refl _), H0.out.alloc _⟩
  case round =>
    clear H0
    obtain ⟨k, hk, rfl, hown, hh⟩ := hrel
    have HO := Lib.hid hown; clear hown
    have H1 := Lib.hid hh; clear hh
    obtain ⟨x0, x1, x2, _⟩ := H1.out.1
    by_cases hlt : k < n
    · have q3 : (0 : Int) ≤ k := by omega
      have q4 : (k : Int) < (n : Int) := by omega
      have hln := HLN.out k
      have c0 := (H1.out.below.cell (p := ⟨gb, f, none⟩) HCL.out.2).trans HCL.out.1
      have HUK := Lib.hid (HU.out k)
      have HHK := Lib.hid (HHIT.out k)
      have HNK := Lib.hid (HNON.out k)
      generalize hpk : p k = b at *
      clear hpk
      go_wp2_with fail
      go_loopw [21] (fun i wq => ∃ j : Nat, j ≤ row.length ∧ i = .int .i64 j ∧ (∀ j', j' < j → atZ xs (atZ row j').toNat ≠ (k : Int)) ∧ wq = wr) (fun i _ => row.length - (intOf i).toNat)
      case atStart => exact ⟨0, Nat.zero_le _, rfl, fun j' hj => by omega, rfl⟩
      case round =>
        obtain ⟨j, hj, rfl, hno, rfl⟩ := hrel
        have HNO := Lib.hid hno; clear hno
        by_cases hjr : j < row.length
        · have HR1 := Lib.hid (HROW.out.step H1.out.below)
          obtain ⟨gr, cr2, hvr⟩ := HR1.out.some_ (by omega)
          simp only [Value.slice.injEq] at hvr
          obtain ⟨rfl, -, rfl⟩ := hvr
          obtain ⟨y0, -, y1, -, -⟩ := HR1.out.at_ hjr
          obtain ⟨q, hq, hqx⟩ := HR.out j hjr
          have HC1 := Lib.hid (HC.out.step H1.out.below)
          obtain ⟨gc, cc2, hvc⟩ := HC1.out.some_ (by omega)
          simp only [Value.slice.injEq] at hvc
          obtain ⟨rfl, -, rfl⟩ := hvc
          obtain ⟨z0, -, z1, -, -⟩ := HC1.out.at_ hqx
          rw [hq] at y0
          have HNX := Lib.hid (fun (h : atZ xs q ≠ (k : Int)) j' (hj' : j' < j + 1) => (show atZ xs (atZ row j').toNat ≠ (k : Int) from by
            by_cases e : j' = j
            · subst e; rw [hq]; exact h
            · exact HNO.out j' (by omega)))
          have HHT := Lib.hid (fun (h : atZ xs q = (k : Int)) => HHK.out j hjr (by rw [hq]; exact h))
          have p1 : (0 : Int) ≤ j := by omega
          have p2 : (j : Int) < (row.length : Int) := by omega
          have p3 : (0 : Int) ≤ q := by omega
          have p4 : (q : Int) < (xs.length : Int) := by omega
          clear hq
          by_cases hx : atZ xs q = (k : Int)
          · have hbf := HHT.out hx
            rw [hx] at z0
            subst hbf
            go_wp2_with fail
            exact ⟨⟨k + 1, by omega, by go_num, by rw [HUK.out]; exact HO.out, H1.out⟩, by simp [intOf]; omega⟩
          · have HN2 := Lib.hid (HNX.out hx)
            have e1 : (atZ xs q == (k : Int)) = false := by rw [beq_eq_false_iff_ne]; exact hx
            have e2 : decide (atZ xs q = (k : Int)) = false := by simp [hx]
            go_wp2_with fail
            exact ⟨⟨j + 1, by omega, by go_num, HN2.out, by first | rfl | trivial⟩, by simp [intOf]; omega⟩
        · obtain rfl : j = row.length := by omega
          have hbt : b = true := HNK.out HNO.out
          subst hbt
          obtain ⟨hi, hz0, hz1, hz2⟩ := HI.out
          have hsz1 := H1.out.2.1.1
          go_wp2_with (at_builtin; refine wpList_append_own _ rfl _ _ 37 rfl (w.heap.size + 1) 3 i0 (.int .i64 0) 1 8 Tryz.underlying37 hi hz0 hz1 hz2 rfl (by decide) _ _ _ rfl (World.ownsRow.alloc HO.out _) ⟨_, 0, none⟩ 1 1 [.int .i64 k] rfl rfl ?c1 ?c2 ?c3 ?c4 ?c5 ?_)
          try (case c1 => exact cell_one_new _ _ _)
          case c2 => simp [Value.oneCell']
          case c3 => unfold maxLen; omega
          case c4 => omega
          case c5 => first | omega | (simp <;> omega)
          intro v' w5 hown hgrow _
          have H5 := Lib.hid (H1.out.stepB (B := w.heap.size + 1) ⟨Nat.lt_succ_self _, Nat.lt_succ_self _, Nat.lt_succ_self _, trivial⟩ (grown_below HO.out hsz1 hgrow) (Nat.le_succ _))
          have HO5 := Lib.hid (Ints.more hown); clear hown hgrow
          go_wp2_with fail
          exact ⟨⟨k + 1, by omega, by go_num, by rw [HUK.out]; exact HO5.out, H5.out⟩, by simp [intOf]; omega⟩
    · obtain rfl : k = n := by omega
      go_wp2_with fail
      go_ret
      exact ⟨_, rfl, HO.out.mono (Nat.le_succ _), H1.out.below⟩
end Go.Proofs.YtibgfbkepkjmbaaGreat
