/-
  What is asked of a sun, by the program.
-/
import Derived.Test.YtfckgidilbjokaaGreatG5
namespace Go.Proofs.YtfckgidilbjokaaGreat
open Go.RowKit
set_option linter.unusedVariables false
set_option linter.unusedSimpArgs false

set_option maxRecDepth 100000 in
theorem implSun (f : Tr) (w : World) :
    Calls Tryz.prog 83 #[f.val] w (BoolIs (sunB f) w) := by
  obtain ⟨x, y, z⟩ := f
  have hr : sunB ⟨x, y, z⟩ = decide ((-1000 ≤ x ∧ x ≤ 1000) ∧ (1 ≤ y ∧ y ≤ 1000) ∧ (1 ≤ z ∧ z ≤ 100)) := by rw [Bool.eq_iff_iff, sunB, triB_iff]; simp
  unfold Tr.val
  generalize sunB ⟨x, y, z⟩ = r at *
  have HR := Lib.hid hr; clear hr
  have HB := Lib.hid (((((Below.refl w.heap.size w).alloc (Nat.le_refl _) (.cells #[.int .i64 x, .int .i64 y, .int .i64 z] 55)).alloc (by simp) (.cells #[.int .i64 x, .int .i64 y, .int .i64 z] 133)).alloc (by simp; omega) (.cells #[.int .i64 (-1000), .int .i64 1, .int .i64 1] 133)).alloc (by simp; omega) (.cells #[.int .i64 1000, .int .i64 1000, .int .i64 100] 133))
  have e0 : ∀ w : World, (Instr.index 133 (.agg #[.int .i64 x, .int .i64 y, .int .i64 z]) (.int .i64 0)).run Tryz.prog w = .ok (.int .i64 x) w := fun _ => by kernel_rfl
  have e1 : ∀ w : World, (Instr.index 133 (.agg #[.int .i64 x, .int .i64 y, .int .i64 z]) (.int .i64 1)).run Tryz.prog w = .ok (.int .i64 y) w := fun _ => by kernel_rfl
  have e2 : ∀ w : World, (Instr.index 133 (.agg #[.int .i64 x, .int .i64 y, .int .i64 z]) (.int .i64 2)).run Tryz.prog w = .ok (.int .i64 z) w := fun _ => by kernel_rfl
  go_enter Tryz.func83, Tryz.ntmps83
  go_wp2
  refine wp_loop_rounds 4 ?_
  rw [rounds_succ]
  go_wp2
  all_goals try (go_ret; exact ⟨ret_bool (by rw [HR.out, Bool.eq_iff_iff]; simp; omega), HB.out⟩)
  all_goals (rw [rounds_succ]; go_wp2)
  all_goals try (go_ret; exact ⟨ret_bool (by rw [HR.out, Bool.eq_iff_iff]; simp; omega), HB.out⟩)
  all_goals (rw [rounds_succ]; go_wp2)
  all_goals try (go_ret; exact ⟨ret_bool (by rw [HR.out, Bool.eq_iff_iff]; simp; omega), HB.out⟩)
  all_goals (rw [rounds_succ]; go_wp2)
  all_goals (go_ret; exact ⟨ret_bool (by rw [HR.out, Bool.eq_iff_iff]; simp; omega), HB.out⟩)

end Go.Proofs.YtfckgidilbjokaaGreat
