/-
  cmp.Compare and cmp.Or of three ints, of the library.
-/
import Derived.Test.YtepacoacalhdcaaGreatG2
import Derived.Test.YtepacoacalhdcaaGreatG1
import Derived.BigQuiet
namespace Go.Proofs.YtepacoacalhdcaaGreat
open Go.RowKit
set_option linter.unusedVariables false
set_option linter.unusedSimpArgs false

def cmpZ (a b : Int) : Int := if a < b then -1 else if b < a then 1 else 0

def orZ (a b c : Int) : Int := if a ≠ 0 then a else if b ≠ 0 then b else c

theorem isNaN_Z (a : Int) (w : World) : Calls Tryz.prog 157 #[.int .i64 a] w (BoolIs false w) := by
  go_enter Tryz.func157, Tryz.ntmps157
  go_wp2_with fail
  go_ret
  exact ⟨by simp, Below.refl _ _⟩

set_option maxRecDepth 100000 in
theorem cmpZ_int (a b : Int) (w : World) : Calls Tryz.prog 106 #[.int .i64 a, .int .i64 b] w (IntIs (cmpZ a b) w) := by
  have HN := Lib.hid (fun a w => isNaN_Z a w)
  unfold BoolIs at HN
  have H0 := Lib.hid (Held.none_ w)
  by_cases h1 : a < b
  · have HR := Lib.hid (show cmpZ a b = -1 from by unfold cmpZ; rw [if_pos h1])
    generalize cmpZ a b = r at *
    go_enter Tryz.func106, Tryz.ntmps106
    go_wp2_with fail
    refine (HN.out _ _).mono ?_
    rintro e wH1 ⟨rfl, hb⟩
    have H1 := Lib.hid ((H0.out).step hb); clear hb
    go_wp2_with fail
    refine (HN.out _ _).mono ?_
    rintro e wH2 ⟨rfl, hb⟩
    have H2 := Lib.hid ((H1.out).step hb); clear hb
    go_wp2_with fail
    go_ret
    exact ⟨ret_int HR.out.symm, H2.out.below⟩
  by_cases h2 : b < a
  · have HR := Lib.hid (show cmpZ a b = 1 from by unfold cmpZ; rw [if_neg h1, if_pos h2])
    generalize cmpZ a b = r at *
    go_enter Tryz.func106, Tryz.ntmps106
    go_wp2_with fail
    refine (HN.out _ _).mono ?_
    rintro e wH1 ⟨rfl, hb⟩
    have H1 := Lib.hid ((H0.out).step hb); clear hb
    go_wp2_with fail
    refine (HN.out _ _).mono ?_
    rintro e wH2 ⟨rfl, hb⟩
    have H2 := Lib.hid ((H1.out).step hb); clear hb
    go_wp2_with fail
    go_ret
    exact ⟨ret_int HR.out.symm, H2.out.below⟩
  · have HR := Lib.hid (show cmpZ a b = 0 from by unfold cmpZ; rw [if_neg h1, if_neg h2])
    generalize cmpZ a b = r at *
    go_enter Tryz.func106, Tryz.ntmps106
    go_wp2_with fail
    refine (HN.out _ _).mono ?_
    rintro e wH1 ⟨rfl, hb⟩
    have H1 := Lib.hid ((H0.out).step hb); clear hb
    go_wp2_with fail
    refine (HN.out _ _).mono ?_
    rintro e wH2 ⟨rfl, hb⟩
    have H2 := Lib.hid ((H1.out).step hb); clear hb
    go_wp2_with fail
    go_ret
    exact ⟨ret_int HR.out.symm, H2.out.below⟩

theorem freeR_threeZ {w : World} {r : Result Next} {a b c : Int} (h : r = .ok (.value (.slice (some ⟨w.heap.size, 0, none⟩) 3 3)) (w.alloc (.cells #[.int .i64 a, .int .i64 b, .int .i64 c] 3))) :
    FreeR Tryz.prog (fun v W => Seq W v [a, b, c]) w r := by
  subst h
  refine ⟨⟨_, _, rfl, Nat.le_refl _, by unfold maxLen; decide, fun _ => ⟨w.heap.size, 0, rfl, by simp, fun k hk => ?_⟩⟩, (Below.refl _ _).alloc (Nat.le_refl _) _⟩
  have hb := heap_alloc_new w (.cells #[.int .i64 a, .int .i64 b, .int .i64 c] 3)
  match k, hk with
  | 0, _ => exact (cell_of_cells (k := 0) hb).trans rfl
  | 1, _ => exact (cell_of_cells (k := 1) hb).trans rfl
  | 2, _ => exact (cell_of_cells (k := 2) hb).trans rfl
  | k + 3, hk => exact absurd hk (by simp)
end Go.Proofs.YtepacoacalhdcaaGreat
