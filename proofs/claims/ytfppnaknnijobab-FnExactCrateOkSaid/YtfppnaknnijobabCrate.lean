/-
  The least number of crates by the sum of the weights, of the model and of the program.
-/
import Derived.Test.YtfppnaknnijobabTri
namespace Go.Proofs.Ytfppnaknnijobab
open Go.RowKit
set_option linter.unusedVariables false
set_option linter.unusedSimpArgs false

def sumL (xs : List Int) : Nat → Int
  | 0 => 0
  | n + 1 => sumL xs n + atZ xs n
theorem inR_at {xs : List Int} {a b : Int} (h : inR xs a b = true) {k : Nat} (hk : k < xs.length) : a ≤ atZ xs k ∧ atZ xs k ≤ b := by
  rw [← atZ_get hk]
  have := (List.all_eq_true.1 h) _ (List.getElem_mem hk)
  exact (inB_iff _ _ _).1 this
theorem sumL_bd {xs : List Int} {b : Int} (h : inR xs 0 b = true) : ∀ n, n ≤ xs.length → 0 ≤ sumL xs n ∧ sumL xs n ≤ b * n
  | 0, _ => by simp [sumL]
  | n + 1, hn => by
    have h1 := sumL_bd h n (by omega)
    have h2 := inR_at h (k := n) (by omega)
    unfold sumL
    have : b * ((n + 1 : Nat) : Int) = b * n + b := by rw [Int.natCast_add, Int.mul_add]; simp
    omega
def boundI (xs : List Int) (l : Int) : Int := if inR xs 0 10000 && inB l 1 100000 then (sumL xs xs.length + l - 1) / l else 0

set_option maxRecDepth 100000 in
theorem specOk31 (xs : List Int) (v : Value) (w : World) (hv : Seq w v xs) : Calls Try.prog 72 #[v] w (BoolIs (inR xs 0 10000) w) := by
  have hlen := hv.len
  obtain ⟨A, c, rfl, _, _, hcs⟩ := hv.form
  clear hv
  have HR := Lib.hid (show inR xs 0 10000 = xs.all fun x => inB x 0 10000 from rfl)
  have HIN := Lib.hid (fun x w => specIn x 0 10000 w)
  generalize inR xs 0 10000 = r at *
  go_enter Try.func72, Try.ntmps72
  go_wp2_with fail
  go_loopw [3] (fun i wr => ∃ m : Nat, m ≤ xs.length ∧ i = .int .i64 m ∧ ((xs.take m).all fun x => inB x 0 10000) = true ∧ wr = w) (fun i _ => xs.length - (intOf i).toNat)
  case atStart => exact ⟨0, Nat.zero_le _, rfl, by simp, rfl⟩
  case round =>
    obtain ⟨m, hm, rfl, ha, rfl⟩ := hrel
    have HA := Lib.hid ha; clear ha
    by_cases hlt : m < xs.length
    · obtain ⟨bb, o, rfl, hbl, hc⟩ := hcs m hlt
      have HT := Lib.hid (show xs.take (m + 1) = xs.take m ++ [atZ xs m] from by rw [List.take_succ_eq_append_getElem hlt, atZ_get hlt])
      have HM := Lib.hid (show atZ xs m ∈ xs from by rw [← atZ_get hlt]; exact List.getElem_mem hlt)
      have hz1 : (m : Int) < (xs.length : Int) := by omega
      have hz2 : (0 : Int) ≤ m := by omega
      have HX := Lib.hid (HIN.out (atZ xs m))
      have HBZ := Lib.hid (show inB (atZ xs m) 0 10000 = inB (atZ xs m) 0 10000 from rfl)
      generalize hz : atZ xs m = z at *
      clear hz
      by_cases hb : inB z 0 10000 = true
      · have HBT := Lib.hid hb
        rw [hb] at HX
        clear hb
        go_wp2_with fail
        refine (HX.out _).mono ?_
        rintro e w' ⟨rfl, rfl⟩
        go_wp2_with fail
        exact ⟨⟨m + 1, by omega, by go_num, by rw [HT.out, List.all_append, HA.out]; simp [HBT.out], trivial⟩, by simp [intOf]; omega⟩
      · have HBT := Lib.hid hb
        rw [Bool.not_eq_true] at hb
        rw [hb] at HX
        clear hb
        go_wp2_with fail
        refine (HX.out _).mono ?_
        rintro e w' ⟨rfl, rfl⟩
        go_wp2_with fail
        go_ret
        exact ⟨ret_bool (by rw [HR.out]; exact (List.all_eq_false.2 ⟨z, HM.out, HBT.out⟩).symm), Below.refl _ _⟩
    · obtain rfl : m = xs.length := by omega
      go_wp2_with fail
      go_ret
      exact ⟨ret_bool (by rw [HR.out, ← HA.out, List.take_length]), Below.refl _ _⟩

theorem implWeights (xs : List Int) (v : Value) (w : World) (hv : Seq w v xs) : Calls Try.prog 75 #[v] w (BoolIs (inR xs 0 10000) w) := by
  have HA := Lib.hid (fun w h => implInR xs v 0 10000 w h)
  have HV := Lib.hid hv
  have H0 := Lib.hid (Held.none_ w)
  generalize inR xs 0 10000 = r at *
  clear hv
  go_enter Try.func75, Try.ntmps75
  go_wp2_with fail
  refine (HA.out _ HV.out).mono ?_
  rintro e wH1 ⟨rfl, hb⟩
  have H1 := Lib.hid ((H0.out).step hb); clear hb
  go_wp2_with fail
  go_ret
  exact ⟨rfl, H1.out.below⟩

end Go.Proofs.Ytfppnaknnijobab
