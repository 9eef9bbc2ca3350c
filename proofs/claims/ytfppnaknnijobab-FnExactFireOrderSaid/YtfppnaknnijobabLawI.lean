/-
  What the laws' helpers eqIntS, markIntS, heldIntS return.
-/
import Derived.Test.YtfppnaknnijobabInts
import Derived.LoopTactic
import Derived.Outline
import Derived.Deep.QuietTactic
import Derived.BigQuiet
import Derived.Deep.Draws
namespace Go.Proofs.Ytfppnaknnijobab
open Go.RowKit
set_option linter.unusedVariables false
set_option linter.unusedSimpArgs false

/-- The n marks from k on. -/
def marksI (k n : Nat) : List Int := (List.range n).map fun i => ((k + i : Nat) : Int)
theorem marksI_length (k n : Nat) : (marksI k n).length = n := by simp [marksI]
theorem marksI_set (k0 k : Nat) (fs : List Int) (h : k < fs.length) : (marksI k0 k ++ fs.drop k).set k ((k0 + k : Nat) : Int) = marksI k0 (k + 1) ++ fs.drop (k + 1) := by
  rw [List.set_append_right _ _ (by rw [marksI_length]; exact Nat.le_refl _), marksI_length, Nat.sub_self, List.drop_eq_getElem_cons h, List.set_cons_zero]
  simp [marksI, List.range_succ]
theorem marksI_get (k0 n j : Nat) (h : j < n) : (marksI k0 n)[j]'(by rw [marksI_length]; exact h) = ((k0 + j : Nat) : Int) := by simp [marksI]

theorem eqIntS_yes {b1 b2 : Nat} {w : World} {v1 v2 : Value} {fs : List Int} (h1 : Ints w b1 v1 fs) (h2 : Ints w b2 v2 fs) :
    Calls Try.prog 26 #[v1, v2] w fun e w' => e = .returned (.bool true) ∧ ∃ n, w' = w.drewN n := by
  obtain ⟨a, ca, rfl, hmax, ha⟩ := h1.form
  unfold maxLen at hmax
  obtain ⟨b, cb, rfl, _, hb⟩ := h2.form
  have HA := Lib.hid ha; clear ha
  have HB := Lib.hid hb; clear hb
  clear h1 h2
  go_enter Try.func26, Try.ntmps26
  go_wp2_with fail
  go_loopw [5] (fun i wr => ∃ (k n : Nat), k ≤ fs.length ∧ i = .int .i64 k ∧ wr = w.drewN n) (fun i _ => fs.length - (intOf i).toNat)
  case atStart => exact ⟨0, 0, Nat.zero_le _, rfl, rfl⟩
  case round =>
    obtain ⟨k, n, hk, rfl, rfl⟩ := hrel
    by_cases hlt : k < fs.length
    · obtain ⟨g, rfl, _, _, hc, _⟩ := HA.out k hlt
      obtain ⟨g', rfl, _, _, hc', _⟩ := HB.out k hlt
      go_wp2_with fail
      go_quiet (fail)
      go_wp2_with fail
      refine ⟨⟨k + 1, _, by omega, by go_num, rfl⟩, by simp [intOf]; omega⟩
    · go_wp2_with fail
      go_ret
      exact ⟨rfl, n, rfl⟩

theorem markIntS_any {base : Nat} {w : World} {v : Value} {fs : List Int} (k0 : Nat) (h : Ints w base v fs) (h0 : 0 < k0) (h1 : ((k0 + fs.length : Nat) : Int) ≤ 9223372036854775807) :
    Calls Try.prog 65 #[v, .int .i64 k0] w fun e w' => e = .returned (.int .i64 ((k0 + fs.length : Nat) : Int)) ∧ Ints w' base v (marksI k0 fs.length) ∧ w.grownBy w' v.ownBlock := by
  have H := Lib.hid h
  unfold Ints at h
  rcases h.2 with ⟨rfl, hz⟩ | ⟨g, cap, cur, rfl, hbase, hg, hnc, hcm, hcs, ht⟩
  · obtain rfl : fs = [] := List.eq_nil_of_length_eq_zero hz
    clear h
    go_enter Try.func65, Try.ntmps65
    go_wp2_with fail
    go_loop [1, 5] (fun v i => i = .int .i64 0 ∧ v = .int .i64 k0) (fun _ _ => 0)
    case atStart => exact ⟨rfl, rfl⟩
    case round =>
      obtain ⟨rfl, rfl⟩ := hrel
      go_wp2_with fail
      go_ret
      exact ⟨by simp, Ints.nil _ _, ⟨rfl, rfl, rfl, Nat.le_refl _, fun _ _ _ => rfl⟩⟩
  · clear h hg hcs ht cur
    have hfm : fs.length ≤ 9223372036854775807 := by omega
    go_enter Try.func65, Try.ntmps65
    go_wp2_with fail
    go_loopw [1, 5] (fun v i wr => ∃ (k : Nat), k ≤ fs.length ∧ i = .int .i64 k ∧ v = .int .i64 ((k0 : Int) + k) ∧ wr.ownsRow base 3 1 (.slice (some ⟨g, 0, none⟩) fs.length cap) fs.length ((marksI k0 k ++ fs.drop k).map fun x => .int .i64 x) ∧ w.grownBy wr (some g)) (fun _ i _ => fs.length - (intOf i).toNat)
    case atStart => exact ⟨0, Nat.zero_le _, rfl, by go_num, by have := H.out; unfold Ints at this; simpa [marksI] using this, ⟨rfl, rfl, rfl, Nat.le_refl _, fun _ _ _ => rfl⟩⟩
    case round =>
      obtain ⟨k, hk, rfl, rfl, hown, hgr⟩ := hrel
      have HOWN := Lib.hid hown; clear hown
      have HGR := Lib.hid hgr; clear hgr
      have hsz := HGR.out.size
      by_cases hlt : k < fs.length
      · have ek : (k0 : Int) + (k : Int) = ((k0 + k : Nat) : Int) := by omega
        rw [ek]
        clear ek
        have hst := HOWN.out.stored k (.int .i64 ((k0 + k : Nat) : Int))
        have hc : wr.cell? ⟨g, k, none⟩ = some (.int .i64 fs[k]) := by
          rw [HOWN.out.cellAt k (by omega), List.getElem?_map, List.getElem?_append_right (by rw [marksI_length]; exact Nat.le_refl _), marksI_length, Nat.sub_self]
          simp [List.getElem?_drop, hlt]
        have hf : wr.frozen? ⟨g, k, none⟩ = false := HOWN.out.frozenAt k
        have hgr1 : w.grownBy (wr.setCell ⟨g, k, none⟩ (.int .i64 ((k0 + k : Nat) : Int))) (some g) := by
          have a := HGR.out
          refine ⟨a.os, a.tape, a.output, ?_, fun i hi hne => ?_⟩
          · rw [heap_setCell_size]; exact a.size
          · rw [Below.heap_setCell _ _ _ _ (fun e => hne (by rw [e])), a.block i hi hne]
        have HST := Lib.hid hst.1; clear hst
        have HGR1 := Lib.hid hgr1; clear hgr1
        go_wp2_with fail
        refine ⟨⟨k + 1, by omega, by go_num, by go_num, ?_, HGR1.out⟩, by simp [intOf]; omega⟩
        rw [← marksI_set k0 k fs hlt, List.map_set]
        exact HST.out
      · have ek : k = fs.length := by omega
        have EK := Lib.hid ek; clear ek
        go_wp2_with fail
        go_ret
        refine ⟨ret_int (by rw [EK.out]; omega), ?_, HGR.out⟩
        have e1 : fs.drop k = [] := List.drop_eq_nil_of_le (by rw [EK.out]; exact Nat.le_refl _)
        have := HOWN.out
        rw [e1, List.append_nil, EK.out] at this
        unfold Ints
        rw [marksI_length]
        exact this

theorem heldIntS_any {base : Nat} {w : World} {v : Value} (k0 n : Nat) (h : Ints w base v (marksI k0 n)) (h0 : 0 < k0) (h1 : ((k0 + n : Nat) : Int) ≤ 9223372036854775807) :
    Calls Try.prog 66 #[v, .int .i64 k0] w fun e w' => e = .returned (.int .i64 ((k0 + n : Nat) : Int)) ∧ ∃ m, w' = w.drewN m := by
  obtain ⟨a, cap, rfl, hmax, ha⟩ := h.form
  rw [marksI_length] at *
  have HA := Lib.hid ha; clear ha
  clear h
  go_enter Try.func66, Try.ntmps66
  go_wp2_with fail
  go_loopw [1, 5] (fun v i wr => ∃ (k m : Nat), k ≤ n ∧ i = .int .i64 k ∧ v = .int .i64 ((k0 : Int) + k) ∧ wr = w.drewN m) (fun _ i _ => n - (intOf i).toNat)
  case atStart => exact ⟨0, 0, Nat.zero_le _, rfl, by go_num, rfl⟩
  case round =>
    obtain ⟨k, m, hk, rfl, rfl, rfl⟩ := hrel
    by_cases hlt : k < n
    · obtain ⟨g, rfl, _, hgl, hc, _⟩ := HA.out k (by rw [marksI_length]; exact hlt)
      rw [marksI_get k0 n k hlt, show ((k0 + k : Nat) : Int) = (k0 : Int) + k by omega] at hc
      have q0 : (0 : Int) ≤ (k : Int) := by omega
      have q1 : (k : Int) < (n : Int) := by omega
      go_wp2_with fail
      refine ⟨⟨k + 1, _, by omega, by go_num, by go_num, rfl⟩, by simp [intOf]; omega⟩
    · have ek : k = n := by omega
      have EK := Lib.hid ek; clear ek
      go_wp2_with fail
      go_ret
      exact ⟨ret_int (by rw [EK.out]; omega), m, rfl⟩
end Go.Proofs.Ytfppnaknnijobab
