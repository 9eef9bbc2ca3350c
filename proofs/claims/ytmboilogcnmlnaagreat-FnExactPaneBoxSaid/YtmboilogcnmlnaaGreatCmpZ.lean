/-
  cmp.Compare and cmp.Or of three ints, of the library.
-/
import Derived.Test.YtmboilogcnmlnaaGreatG2
import Derived.Test.YtmboilogcnmlnaaGreatG1
import Derived.BigQuiet
namespace Go.Proofs.YtmboilogcnmlnaaGreat
open Go.RowKit
set_option linter.unusedVariables false
set_option linter.unusedSimpArgs false

def cmpZ (a b : Int) : Int := if a < b then -1 else if b < a then 1 else 0

def orZ (a b c : Int) : Int := if a ≠ 0 then a else if b ≠ 0 then b else c

theorem isNaN_Z (a : Int) (w : World) : Calls Tryz.prog 126 #[.int .i64 a] w (BoolIs false w) := by
  go_enter Tryz.func126, Tryz.ntmps126
  go_wp2_with fail
  go_ret
  exact ⟨by simp, Below.refl _ _⟩

set_option maxRecDepth 100000 in
theorem cmpZ_int (a b : Int) (w : World) : Calls Tryz.prog 100 #[.int .i64 a, .int .i64 b] w (IntIs (cmpZ a b) w) := by
  have HN := Lib.hid (fun a w => isNaN_Z a w)
  unfold BoolIs at HN
  have H0 := Lib.hid (Held.none_ w)
  by_cases h1 : a < b
  · have HR := Lib.hid (show cmpZ a b = -1 from by unfold cmpZ; rw [if_pos h1])
    generalize cmpZ a b = r at *
    go_enter Tryz.func100, Tryz.ntmps100
    go_wp2_with fail
    refine (HN.out _ _).mono ?_
    rintro e wH1 ⟨rfl, hb⟩
    have H1 := Lib.hid ((H0.out).step hb); clear hb
    go_wp2_with fail
    refine (HN.out _ _).mono ?_
    rintro e wH2 ⟨rfl, hb⟩
    have H2 := Lib.hid ((H1.out).step hb); clear hb
    go_wp2_with fail
    go_ret
    exact ⟨ret_int HR.out.symm, H2.out.below⟩
  by_cases h2 : b < a
  · have HR := Lib.hid (show cmpZ a b = 1 from by unfold cmpZ; rw [if_neg h1, if_pos h2])
    generalize cmpZ a b = r at *
    go_enter Tryz.func100, Tryz.ntmps100
    go_wp2_with fail
    refine (HN.out _ _).mono ?_
    rintro e wH1 ⟨rfl, hb⟩
    have H1 := Lib.hid ((H0.out).step hb); clear hb
    go_wp2_with fail
    refine (HN.out _ _).mono ?_
    rintro e wH2 ⟨rfl, hb⟩
    have H2 := Lib.hid ((H1.out).step hb); clear hb
    go_wp2_with fail
    go_ret
    exact ⟨ret_int HR.out.symm, H2.out.below⟩
  · have HR := Lib.hid (show cmpZ a b = 0 from by unfold cmpZ; rw [if_neg h1, if_neg h2])
    generalize cmpZ a b = r at *
    go_enter Tryz.func100, Tryz.ntmps100
    go_wp2_with fail
    refine (HN.out _ _).mono ?_
    rintro e wH1 ⟨rfl, hb⟩
    have H1 := Lib.hid ((H0.out).step hb); clear hb
    go_wp2_with fail
    refine (HN.out _ _).mono ?_
    rintro e wH2 ⟨rfl, hb⟩
    have H2 := Lib.hid ((H1.out).step hb); clear hb
    go_wp2_with fail
    go_ret
    exact ⟨ret_int HR.out.symm, H2.out.below⟩

set_option maxRecDepth 100000 in
theorem orZ_int (a b c : Int) (v : Value) (w : World) (hv : Seq w v [a, b, c]) : Calls Tryz.prog 99 #[v] w (IntIs (orZ a b c) w) := by
  have HV := Lib.hid hv
  obtain ⟨A, cp, rfl⟩ := seq_form2 hv
  clear hv
  have HR := Lib.hid (show ∀ j, j < 3 → (∀ i, i < j → atZ [a, b, c] i = 0) → atZ [a, b, c] j ≠ 0 → orZ a b c = atZ [a, b, c] j from fun j hj h0 h1 => by
    unfold orZ
    match j, hj with
    | 0, _ => exact if_pos h1
    | 1, _ =>
      have a0 : a = 0 := h0 0 (by omega)
      exact (if_neg (by simp [a0])).trans (if_pos h1)
    | 2, _ =>
      have a0 : a = 0 := h0 0 (by omega)
      have b0 : b = 0 := h0 1 (by omega)
      exact (if_neg (by simp [a0])).trans (if_neg (by simp [b0])))
  have HZ := Lib.hid (show (∀ i, i < 3 → atZ [a, b, c] i = 0) → orZ a b c = 0 from fun h0 => by
    have a0 : a = 0 := h0 0 (by omega)
    have b0 : b = 0 := h0 1 (by omega)
    have c0 : c = 0 := h0 2 (by omega)
    unfold orZ
    rw [if_neg (by simp [a0]), if_neg (by simp [b0]), c0])
  generalize orZ a b c = r at *
  have hl : [a, b, c].length = 3 := rfl
  generalize [a, b, c] = L at *
  rw [hl]
  go_enter Tryz.func99, Tryz.ntmps99
  go_wp2_with fail
  go_loopw [8] (fun i wr => ∃ m : Nat, m ≤ 3 ∧ i = .int .i64 m ∧ (∀ j, j < m → atZ L j = 0) ∧ Held w wr []) (fun i _ => 3 - (intOf i).toNat)
  case atStart => exact ⟨0, Nat.zero_le _, rfl, fun j hj => by omega, Held.none_ w⟩
  case round =>
    obtain ⟨m, hm, rfl, ha, hh⟩ := hrel
    have HA := Lib.hid ha; clear ha
    have H1 := Lib.hid hh; clear hh
    by_cases hlt : m < 3
    · obtain ⟨A6', c6', e6, -, -, hcs⟩ := (HV.out.step H1.out.below).form
      simp only [Value.slice.injEq] at e6
      obtain ⟨rfl, -, -⟩ := e6
      obtain ⟨bb, oo, rfl, -, k0⟩ := hcs m (by omega)
      clear hcs
      have q1 : (0 : Int) ≤ m := by omega
      have q2 : (m : Int) < 3 := by omega
      have HRM := Lib.hid (fun h => HR.out m hlt HA.out h)
      have HAM := Lib.hid (fun (h : atZ L m = 0) => (fun j (hj : j < m + 1) => (if e : j = m then e ▸ h else HA.out j (by omega)) : ∀ j, j < m + 1 → atZ L j = 0))
      generalize atZ L m = z at *
      by_cases hz : z = 0
      · have HAM := Lib.hid (HAM.out hz)
        have hzb : (z != 0) = false := by simp [hz]
        clear hz
        go_wp2_with fail
        exact ⟨⟨m + 1, by omega, by go_num, HAM.out, H1.out⟩, by simp [intOf]; omega⟩
      · have HRM := Lib.hid (HRM.out hz)
        have hzb : (z != 0) = true := by simp [hz]
        clear hz
        go_wp2_with fail
        go_ret
        exact ⟨ret_int HRM.out.symm, H1.out.below⟩
    · obtain rfl : m = 3 := by omega
      have HZZ := Lib.hid (HZ.out HA.out)
      go_wp2_with fail
      go_ret
      exact ⟨ret_int HZZ.out.symm, H1.out.below⟩

theorem freeR_threeZ {w : World} {r : Result Next} {a b c : Int} (h : r = .ok (.value (.slice (some ⟨w.heap.size, 0, none⟩) 3 3)) (w.alloc (.cells #[.int .i64 a, .int .i64 b, .int .i64 c] 3))) :
    FreeR Tryz.prog (fun v W => Seq W v [a, b, c]) w r := by
  subst h
  refine ⟨⟨_, _, rfl, Nat.le_refl _, by unfold maxLen; decide, fun _ => ⟨w.heap.size, 0, rfl, by simp, fun k hk => ?_⟩⟩, (Below.refl _ _).alloc (Nat.le_refl _) _⟩
  have hb := heap_alloc_new w (.cells #[.int .i64 a, .int .i64 b, .int .i64 c] 3)
  match k, hk with
  | 0, _ => exact (cell_of_cells (k := 0) hb).trans rfl
  | 1, _ => exact (cell_of_cells (k := 1) hb).trans rfl
  | 2, _ => exact (cell_of_cells (k := 2) hb).trans rfl
  | k + 3, hk => exact absurd hk (by simp)
end Go.Proofs.YtmboilogcnmlnaaGreat
