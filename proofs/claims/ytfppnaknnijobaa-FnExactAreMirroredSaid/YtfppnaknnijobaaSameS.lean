/-
  Whether two lists of nodes are the same, of the model and of the program.
-/
import Derived.Test.YtfppnaknnijobaaPairs
import Derived.Test.YtfppnaknnijobaaNodeB
import Derived.Test.YtfppnaknnijobaaLeadP
import Derived.Test.YtfppnaknnijobaaHeld
import Derived.LoopTactic
import Derived.BigQuiet
namespace Go.Proofs.Ytfppnaknnijobaa
open Go.RowKit
set_option linter.unusedVariables false
set_option linter.unusedSimpArgs false

theorem list_ext_at {xs ys : List Nd} (hl : xs.length = ys.length) (h : ∀ k, k < xs.length → atN xs k = atN ys k) : xs = ys := by
  apply List.ext_getElem hl
  intro k h1 h2
  have := h k h1
  unfold atN at this
  simpa [List.getD, h1, h2] using this

set_option maxRecDepth 100000 in
theorem equalN (xs ys : List Nd) (v u : Value) (w : World) (hv : Prs w v xs) (hu : Prs w u ys) :
    Calls Try.prog 119 #[v, u] w (BoolIs (decide (xs = ys)) w) := by
  have hlx := hv.len
  have hly := hu.len
  have HV := Lib.hid hv
  have HU := Lib.hid hu
  obtain ⟨A, c, rfl⟩ := prs_form2 hv
  obtain ⟨A2, c2, rfl⟩ := prs_form2 hu
  clear hv hu
  have HR := Lib.hid (show decide (xs = ys) = true ↔ xs = ys from by simp)
  generalize decide (xs = ys) = r at *
  by_cases hl : xs.length = ys.length
  case neg =>
    have HL := Lib.hid hl
    have g : ((xs.length : Int) == (ys.length : Int)) = false := by rw [beq_eq_false_iff_ne]; omega
    have gb : ((xs.length : Int) != (ys.length : Int)) = true := by simp [bne, g]
    clear hl
    go_enter Try.func119, Try.ntmps119
    go_wp2_with fail
    go_ret
    exact ⟨ret_bool (by by_cases hr : r = true; (· have h1 := HR.out.1 hr; exact absurd (by rw [h1]) HL.out); (· simpa using hr)), Below.refl _ _⟩
  · have HL := Lib.hid hl
    have g : ((xs.length : Int) == (ys.length : Int)) = true := by simp [hl]
    have gb : ((xs.length : Int) != (ys.length : Int)) = false := by simp [bne, g]
    clear hl
    go_enter Try.func119, Try.ntmps119
    go_wp2_with fail
    go_loopw [13] (fun i wr => ∃ m n : Nat, m ≤ xs.length ∧ i = .int .i64 m ∧ (∀ k, k < m → atN xs k = atN ys k) ∧ wr = w.drewN n) (fun i _ => xs.length - (intOf i).toNat)
    case atStart => exact ⟨0, 0, Nat.zero_le _, rfl, fun k h => absurd h (by omega), rfl⟩
    case round =>
      obtain ⟨m, n, hm, rfl, ha, rfl⟩ := hrel
      have HA := Lib.hid ha; clear ha
      by_cases hlt : m < xs.length
      · obtain ⟨bb, o, c', he, hbl, hcs⟩ := prs_at2 HV.out hlt
        injection he with he1 he2 he3
        subst he1
        clear he2 he3
        obtain ⟨b2, o2, c3, he, hbl2, hcs2⟩ := prs_at2 HU.out (show m < ys.length by have := HL.out; omega)
        injection he with he1 he2 he3
        subst he1
        clear he2 he3
        obtain ⟨p0, p1⟩ := hcs m hlt
        obtain ⟨q0, q1⟩ := hcs2 m (by have := HL.out; omega)
        clear hcs hcs2
        have q := eqNd (atN xs m) (atN ys m)
        have HD := Lib.hid (show decide (atN xs m = atN ys m) = true ↔ atN xs m = atN ys m from by simp)
        have HZ := Lib.hid (show ∀ k, k < m + 1 → k < m ∨ k = m from fun k h => by omega)
        have hz1 : (m : Int) < (xs.length : Int) := by omega
        have hz2 : (0 : Int) ≤ m := by omega
        have hz3 : (m : Int) < (ys.length : Int) := by have := HL.out; omega
        generalize decide (atN xs m = atN ys m) = d at *
        generalize (atN xs m).x = x1 at *
        generalize (atN xs m).y = y1 at *
        generalize (atN ys m).x = x2 at *
        generalize (atN ys m).y = y2 at *
        cases d
        · go_wp2_with fail
          go_quiet (fail)
          go_wp2_with fail
          go_ret
          exact ⟨ret_bool (by by_cases hr : r = true; (· have h1 := HR.out.1 hr; have h2 := HD.out.2 (by rw [h1]); cases h2); (· simpa using hr)), below_drewN (below_drewN (Below.refl _ _) _) _⟩
        · go_wp2_with fail
          go_quiet (fail)
          go_wp2_with fail
          exact ⟨⟨m + 1, _, by omega, by go_num, fun k h => by rcases HZ.out k h with h | rfl; exact HA.out k h; exact HD.out.1 trivial, rfl⟩, by simp [intOf]; omega⟩
      · obtain rfl : m = xs.length := by omega
        go_wp2_with fail
        go_ret
        exact ⟨ret_bool (HR.out.2 (list_ext_at HL.out HA.out)).symm, below_drewN (Below.refl _ _) _⟩

def sameB (xs ys : List Nd) : Bool := decide (xs = ys) && decide (0 < xs.length)

set_option maxRecDepth 100000 in
theorem specSameS (xs ys : List Nd) (v u : Value) (w : World) (hv : Prs w v xs) (hu : Prs w u ys) :
    Calls Try.prog 93 #[v, u] w (BoolIs (sameB xs ys) w) := by
  have hlx := hv.len
  have hly := hu.len
  have HV := Lib.hid hv
  have HU := Lib.hid hu
  obtain ⟨A, c, rfl⟩ := prs_form2 hv
  obtain ⟨A2, c2, rfl⟩ := prs_form2 hu
  clear hv hu
  have HR := Lib.hid (show sameB xs ys = true ↔ (xs = ys ∧ 0 < xs.length) from by unfold sameB; simp)
  generalize sameB xs ys = r at *
  by_cases hl : xs.length = ys.length
  case neg =>
    have HL := Lib.hid hl
    have g : ((xs.length : Int) == (ys.length : Int)) = false := by rw [beq_eq_false_iff_ne]; omega
    have gb : ((xs.length : Int) != (ys.length : Int)) = true := by simp [bne, g]
    clear hl
    go_enter Try.func93, Try.ntmps93
    go_wp2_with fail
    go_ret
    exact ⟨ret_bool (by by_cases hr : r = true; (· have h1 := (HR.out.1 hr).1; exact absurd (by rw [h1]) HL.out); (· simpa using hr)), Below.refl _ _⟩
  by_cases h0 : xs.length = 0
  · have H0 := Lib.hid h0
    have g : ((xs.length : Int) == (ys.length : Int)) = true := by simp [hl]
    have gb : ((xs.length : Int) != (ys.length : Int)) = false := by simp [bne, g]
    have g2 : ((xs.length : Int) == 0) = true := by simp [h0]
    clear hl h0
    go_enter Try.func93, Try.ntmps93
    go_wp2_with fail
    go_ret
    exact ⟨ret_bool (by by_cases hr : r = true; (· have h1 := (HR.out.1 hr).2; have := H0.out; omega); (· simpa using hr)), Below.refl _ _⟩
  · have HL := Lib.hid hl
    have H0 := Lib.hid h0
    have g : ((xs.length : Int) == (ys.length : Int)) = true := by simp [hl]
    have gb : ((xs.length : Int) != (ys.length : Int)) = false := by simp [bne, g]
    have g2 : ((xs.length : Int) == 0) = false := by rw [beq_eq_false_iff_ne]; omega
    clear hl h0
    go_enter Try.func93, Try.ntmps93
    go_wp2_with fail
    go_loopw [5] (fun i wr => ∃ m n : Nat, m ≤ xs.length ∧ i = .int .i64 m ∧ (∀ k, k < m → atN xs k = atN ys k) ∧ wr = w.drewN n) (fun i _ => xs.length - (intOf i).toNat)
    case atStart => exact ⟨0, 0, Nat.zero_le _, rfl, fun k h => absurd h (by omega), rfl⟩
    case round =>
      obtain ⟨m, n, hm, rfl, ha, rfl⟩ := hrel
      have HA := Lib.hid ha; clear ha
      by_cases hlt : m < xs.length
      · obtain ⟨bb, o, c', he, hbl, hcs⟩ := prs_at2 HV.out hlt
        injection he with he1 he2 he3
        subst he1
        clear he2 he3
        obtain ⟨b2, o2, c3, he, hbl2, hcs2⟩ := prs_at2 HU.out (show m < ys.length by have := HL.out; omega)
        injection he with he1 he2 he3
        subst he1
        clear he2 he3
        obtain ⟨p0, p1⟩ := hcs m hlt
        obtain ⟨q0, q1⟩ := hcs2 m (by have := HL.out; omega)
        clear hcs hcs2
        have q := eqNd (atN xs m) (atN ys m)
        have HD := Lib.hid (show decide (atN xs m = atN ys m) = true ↔ atN xs m = atN ys m from by simp)
        have HZ := Lib.hid (show ∀ k, k < m + 1 → k < m ∨ k = m from fun k h => by omega)
        have hz1 : (m : Int) < (xs.length : Int) := by omega
        have hz2 : (0 : Int) ≤ m := by omega
        have hz3 : (m : Int) < (ys.length : Int) := by have := HL.out; omega
        generalize decide (atN xs m = atN ys m) = d at *
        generalize (atN xs m).x = x1 at *
        generalize (atN xs m).y = y1 at *
        generalize (atN ys m).x = x2 at *
        generalize (atN ys m).y = y2 at *
        cases d
        · go_wp2_with fail
          go_quiet (fail)
          go_wp2_with fail
          go_ret
          exact ⟨ret_bool (by by_cases hr : r = true; (· have h1 := HR.out.1 hr; have h2 := HD.out.2 (by rw [h1.1]); cases h2); (· simpa using hr)), below_drewN (below_drewN (Below.refl _ _) _) _⟩
        · go_wp2_with fail
          go_quiet (fail)
          go_wp2_with fail
          exact ⟨⟨m + 1, _, by omega, by go_num, fun k h => by rcases HZ.out k h with h | rfl; exact HA.out k h; exact HD.out.1 trivial, rfl⟩, by simp [intOf]; omega⟩
      · obtain rfl : m = xs.length := by omega
        go_wp2_with fail
        go_ret
        exact ⟨ret_bool (HR.out.2 ⟨list_ext_at HL.out HA.out, by have := H0.out; omega⟩).symm, below_drewN (Below.refl _ _) _⟩

set_option maxRecDepth 100000 in
theorem implSameS (xs ys : List Nd) (v u : Value) (w : World) (hv : Prs w v xs) (hu : Prs w u ys) :
    Calls Try.prog 94 #[v, u] w (BoolIs (sameB xs ys) w) := by
  have HX := Lib.hid (equalN xs ys v u w hv hu)
  have hlx := hv.len
  have hly := hu.len
  have HV := Lib.hid hv
  have HU := Lib.hid hu
  obtain ⟨A, c, rfl⟩ := prs_form2 hv
  obtain ⟨A2, c2, rfl⟩ := prs_form2 hu
  clear hv hu
  have HR := Lib.hid (show sameB xs ys = (decide (xs = ys) && decide (0 < xs.length)) from rfl)
  have H0 := Lib.hid (Held.none_ w)
  generalize sameB xs ys = r at *
  generalize decide (xs = ys) = d at *
  by_cases h0 : 0 < xs.length
  · have HZ := Lib.hid h0
    have h0i : (0 : Int) < (xs.length : Int) := by omega
    go_enter Try.func94, Try.ntmps94
    go_wp2_with fail
    refine HX.out.mono ?_
    rintro e w1 ⟨rfl, hb⟩
    have HB := Lib.hid hb; clear hb
    go_wp2_with fail
    go_ret
    exact ⟨ret_bool (by rw [HR.out, decide_eq_true HZ.out]; simp), HB.out⟩
  · have h0i : ¬ (0 : Int) < (xs.length : Int) := by omega
    have HZ := Lib.hid h0
    go_enter Try.func94, Try.ntmps94
    go_wp2_with fail
    go_ret
    exact ⟨ret_bool (by rw [HR.out, decide_eq_false HZ.out]; simp), H0.out.below⟩

end Go.Proofs.Ytfppnaknnijobaa
