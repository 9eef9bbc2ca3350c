/-
  Which panes may be fired together, of the model and of the program.
-/
import Derived.Test.YtfppnaknnijobabFir
namespace Go.Proofs.Ytfppnaknnijobab
open Go.RowKit
set_option linter.unusedVariables false
set_option linter.unusedSimpArgs false

def okF (xs : List Tr) : Bool := decide (xs.length ≤ 10) && xs.all fireB
theorem atT_mem {xs : List Tr} {k : Nat} (h : k < xs.length) : atT xs k ∈ xs := by rw [← atT_get h]; exact List.getElem_mem h
theorem allF_iff (xs : List Tr) : xs.all fireB = true ↔ ∀ k, k < xs.length → fireB (atT xs k) = true := by
  rw [List.all_eq_true]
  refine ⟨fun h k hk => h _ (atT_mem hk), fun h n hn => ?_⟩
  obtain ⟨k, hk, rfl⟩ := List.getElem_of_mem hn
  rw [atT_get hk]
  exact h k hk

set_option maxRecDepth 100000 in
theorem specOkF (xs : List Tr) (v : Value) (w : World) (hv : Trs w v xs) : Calls Try.prog 98 #[v] w (BoolIs (okF xs) w) := by
  have hlen := hv.len
  have HV := Lib.hid hv
  obtain ⟨A, c, rfl⟩ := hv.form2
  clear hv
  have HF := Lib.hid (fun f w => specFiringOk f w)
  unfold BoolIs at HF
  have HR := Lib.hid (show okF xs = (decide (xs.length ≤ 10) && xs.all fireB) from rfl)
  have HYA := Lib.hid (fun h => (allF_iff xs).2 h)
  have HNA := Lib.hid (fun k (hk : k < xs.length) (h : fireB (atT xs k) = false) => (show xs.all fireB = false from by
    cases hh : xs.all fireB
    · rfl
    · have := (allF_iff xs).1 hh k hk
      rw [h] at this; cases this))
  generalize okF xs = r at *
  generalize xs.all fireB = al at *
  go_enter Try.func98, Try.ntmps98
  go_wp2_with fail
  go_loopw [3] (fun i wr => ∃ m : Nat, m ≤ xs.length ∧ i = .int .i64 m ∧ (∀ j, j < m → fireB (atT xs j) = true) ∧ Held w wr []) (fun i _ => xs.length - (intOf i).toNat)
  case atStart => exact ⟨0, Nat.zero_le _, rfl, fun j hj => by omega, Held.none_ w⟩
  case round =>
    obtain ⟨m, hm, rfl, ha, hh⟩ := hrel
    have HA := Lib.hid ha; clear ha
    have H1 := Lib.hid hh; clear hh
    by_cases hlt : m < xs.length
    · obtain ⟨A6', c6', e6, -, -, hcs⟩ := (HV.out.step H1.out.below).form
      simp only [Value.slice.injEq] at e6
      obtain ⟨rfl, -, -⟩ := e6
      obtain ⟨bb, oo, rfl, -, p0, p1, p2⟩ := hcs m hlt
      clear hcs
      have q1 : (0 : Int) ≤ m := by omega
      have q2 : (m : Int) < (xs.length : Int) := by omega
      have HNX := Lib.hid (fun (h : fireB (atT xs m) = true) => (fun j (hj : j < m + 1) => (if e : j = m then e ▸ h else HA.out j (by omega)) : ∀ j, j < m + 1 → fireB (atT xs j) = true))
      have HNO := Lib.hid (fun (h : fireB (atT xs m) = false) => HNA.out m hlt h)
      have HFM := Lib.hid (HF.out (atT xs m))
      generalize fireB (atT xs m) = d at *
      generalize atT xs m = f at *
      obtain ⟨fx, fy, fz⟩ := f
      unfold Tr.val at HFM
      simp only at HFM p0 p1 p2
      cases d
      · have HAL := Lib.hid (HNO.out (by trivial))
        go_wp2_with fail
        refine (HFM.out _).mono ?_
        rintro e wH2 ⟨rfl, hb⟩
        have H2 := Lib.hid ((H1.out).step hb); clear hb
        go_wp2_with fail
        go_ret
        exact ⟨ret_bool (by rw [HR.out, HAL.out, Bool.and_false]), H2.out.below⟩
      · go_wp2_with fail
        refine (HFM.out _).mono ?_
        rintro e wH2 ⟨rfl, hb⟩
        have H2 := Lib.hid ((H1.out).step hb); clear hb
        go_wp2_with fail
        exact ⟨⟨m + 1, by omega, by go_num, HNX.out (by trivial), H2.out⟩, by simp [intOf]; omega⟩
    · obtain rfl : m = xs.length := by omega
      have HAL := Lib.hid (HYA.out HA.out)
      by_cases h10 : xs.length ≤ 10
      · have h10i : (xs.length : Int) ≤ 10 := by omega
        have HT := Lib.hid (show r = true from by rw [HR.out, HAL.out, decide_eq_true h10]; rfl)
        go_wp2_with fail
        go_ret
        exact ⟨ret_bool (by rw [HT.out] <;> (first | rfl | (simp; omega))), H1.out.below⟩
      · have h10i : ¬ (xs.length : Int) ≤ 10 := by omega
        have HT := Lib.hid (show r = false from by rw [HR.out, decide_eq_false h10]; rfl)
        go_wp2_with fail
        go_ret
        exact ⟨ret_bool (by rw [HT.out] <;> (first | rfl | (simp; omega))), H1.out.below⟩

theorem notOk1 (f : Tr) (w : World) : Calls Try.prog 119 #[f.val] w (BoolIs (!fireB f) w) := by
  have HI := Lib.hid (implFire f)
  unfold BoolIs at HI
  have H0 := Lib.hid (heldT1 w f 130)
  obtain ⟨x, y, z⟩ := f
  generalize fireB ⟨x, y, z⟩ = r at *
  unfold Tr.val at *
  go_enter Try.func119, Try.ntmps119
  obtain ⟨x0, x1, x2, _⟩ := H0.out.1
  go_wp2_with fail
  refine (HI.out _).mono ?_
  rintro e wH1 ⟨rfl, hb⟩
  have H1 := Lib.hid ((H0.out).step hb); clear hb
  go_wp2_with fail
  go_ret
  exact ⟨rfl, H1.out.below⟩
end Go.Proofs.Ytfppnaknnijobab
