/-
  Whether two darts lie on one walk, of the model and of the program.
-/
import Derived.Test.YtepacoacalhdcaaGreatWalkJ
import Derived.Test.YtepacoacalhdcaaGreatG3
namespace Go.Proofs.YtepacoacalhdcaaGreat
open Go.RowKit
set_option linter.unusedVariables false
set_option linter.unusedSimpArgs false

set_option maxRecDepth 100000 in
theorem specHas (xs : List Int) (v : Value) (x : Int) (w : World) (hv : Seq w v xs) : Calls Tryz.prog 97 #[v, .int .i64 x] w (BoolIs (xs.contains x) w) := by
  have hlen := hv.len
  obtain ⟨A, c, rfl, _, _, hcs⟩ := hv.form
  clear hv
  have HR := Lib.hid (show xs.contains x = true ↔ x ∈ xs from List.contains_iff_mem)
  generalize xs.contains x = r at *
  go_enter Tryz.func97, Tryz.ntmps97
  go_wp2_with fail
  go_loopw [5] (fun i wr => ∃ m : Nat, m ≤ xs.length ∧ i = .int .i64 m ∧ x ∉ xs.take m ∧ wr = w) (fun i _ => xs.length - (intOf i).toNat)
  case atStart => exact ⟨0, Nat.zero_le _, rfl, by simp, rfl⟩
  case round =>
    obtain ⟨m, hm, rfl, ha, rfl⟩ := hrel
    have HA := Lib.hid ha; clear ha
    by_cases hlt : m < xs.length
    · obtain ⟨bb, o, rfl, hbl, hc⟩ := hcs m hlt
      have HT := Lib.hid (show xs.take (m + 1) = xs.take m ++ [atZ xs m] from by rw [List.take_succ_eq_append_getElem hlt, atZ_get hlt])
      have HM := Lib.hid (show atZ xs m ∈ xs from by rw [← atZ_get hlt]; exact List.getElem_mem hlt)
      have hz1 : (m : Int) < (xs.length : Int) := by omega
      have hz2 : (0 : Int) ≤ m := by omega
      generalize atZ xs m = z at *
      by_cases hb : z = x
      · have HB := Lib.hid hb
        have g : (z == x) = true := by simpa using hb
        clear hb
        go_wp2_with fail
        go_ret
        exact ⟨ret_bool (by have h1 := HM.out; rw [HB.out] at h1; exact (HR.out.2 h1).symm), Below.refl _ _⟩
      · have HB := Lib.hid hb
        have g : (z == x) = false := by rw [beq_eq_false_iff_ne]; exact hb
        clear hb
        go_wp2_with fail
        exact ⟨⟨m + 1, by omega, by go_num, by rw [HT.out]; simp only [List.mem_append, List.mem_singleton]; exact fun h => h.elim HA.out fun h => HB.out h.symm, trivial⟩, by simp [intOf]; omega⟩
    · obtain rfl : m = xs.length := by omega
      go_wp2_with fail
      go_ret
      exact ⟨ret_bool (by have h1 := HA.out; rw [List.take_length] at h1; by_cases hr : r = true; (· exact absurd (HR.out.1 hr) h1); (· simpa using hr)), Below.refl _ _⟩

theorem indexNil (x : Int) (w : World) (A : Option Addr) (c : Nat) : Calls Tryz.prog 156 #[.slice A 0 c, .int .i64 x] w (IntIs (-1) w) := by
  go_enter Tryz.func156, Tryz.ntmps156
  go_wp2_with fail
  refine wp_loop_rounds 1 ?_
  rw [rounds_succ]
  go_wp2_with fail
  go_ret
  exact ⟨rfl, Below.refl _ _⟩

theorem containsNil (x : Int) (w : World) (A : Option Addr) (c : Nat) : Calls Tryz.prog 105 #[.slice A 0 c, .int .i64 x] w (BoolIs false w) := by
  have HX := Lib.hid (fun w => indexNil x w A c)
  have H0 := Lib.hid (Held.none_ w)
  go_enter Tryz.func105, Tryz.ntmps105
  go_wp2_with fail
  refine (HX.out _).mono ?_
  rintro e wH1 ⟨rfl, hb⟩
  have H1 := Lib.hid ((H0.out).step hb); clear hb
  go_wp2_with fail
  go_ret
  exact ⟨rfl, H1.out.below⟩

theorem containsI2 {w : World} {B : Nat} {v : Value} {xs : List Int} (x : Int) (h : Ints w B v xs) (hlen : xs.length ≤ 1048576) :
    Calls Tryz.prog 105 #[v, .int .i64 x] w (BoolIs (xs.contains x) w) := by
  have hs := h.seq.form
  obtain ⟨A, c, rfl, _, hx⟩ := h.form
  cases xs with
  | nil => exact (containsNil x w A c).mono fun e w' h => ⟨by rw [h.1]; rfl, h.2⟩
  | cons a t =>
    obtain ⟨g, rfl, _, _, _, _⟩ := hx 0 (by simp)
    exact (containsI x h hlen).mono fun e w' h => ⟨h.1, h.2 ▸ Below.refl _ _⟩

end Go.Proofs.YtepacoacalhdcaaGreat
