/-
  Which stain is darker, of the model and of the program.
-/
import Derived.Test.YtghpbdgghliieaaTri
import Derived.Test.YtghpbdgghliieaaNodeB
namespace Go.Proofs.Ytghpbdgghliieaa
open Go.RowKit
set_option linter.unusedVariables false
set_option linter.unusedSimpArgs false

theorem eqTr (a b : Tr) (w : World) : (Op.equalIn 10000 31 (.agg #[.int .i64 a.x, .int .i64 a.y, .int .i64 a.z]) (.agg #[.int .i64 b.x, .int .i64 b.y, .int .i64 b.z])).run Try.prog w = .ok (decide (a = b)) w := by
  obtain ⟨ax, ay, az⟩ := a
  obtain ⟨bx, by', bz⟩ := b
  simp only [Tr.mk.injEq]
  by_cases h1 : ax = bx
  · subst h1
    by_cases h2 : ay = by'
    · subst h2
      by_cases h3 : az = bz
      · subst h3; go_simp
      · have h4 : (az == bz) = false := by rw [beq_eq_false_iff_ne]; exact h3
        go_simp
        try simp [h3]
    · have h4 : (ay == by') = false := by rw [beq_eq_false_iff_ne]; exact h2
      go_simp
      try simp [h2]
  · have h4 : (ax == bx) = false := by rw [beq_eq_false_iff_ne]; exact h1
    go_simp
    try simp [h1]

def darkB (s t : Tr) : Bool := stainB s && stainB t && !decide (s = t) && (decide (s.x ≤ t.x) && decide (s.y ≤ t.y) && decide (s.z ≤ t.z))

set_option maxRecDepth 100000 in
theorem specDark (s t : Tr) (w : World) :
    Calls Try.prog 13 #[s.val, t.val] w (BoolIs (darkB s t) w) := by
  have HA := Lib.hid (specStainOk s)
  have HB := Lib.hid (specStainOk t)
  have HR := Lib.hid (show darkB s t = (stainB s && stainB t && !decide (s = t) && (decide (s.x ≤ t.x) && decide (s.y ≤ t.y) && decide (s.z ≤ t.z))) from rfl)
  have q := eqTr s t
  have H0 := Lib.hid (heldT2 w s t 31 31)
  generalize darkB s t = r at *
  generalize stainB s = b1 at *
  generalize stainB t = b2 at *
  generalize decide (s = t) = b3 at *
  obtain ⟨x, y, z⟩ := s
  obtain ⟨a, b, c⟩ := t
  unfold Tr.val at *
  simp only at H0 HA HB HR q
  by_cases hb : (b1 && b2 && !b3) = true
  · obtain ⟨rfl, rfl, rfl⟩ : b1 = true ∧ b2 = true ∧ b3 = false := by simpa [Bool.and_eq_true, and_assoc] using hb
    clear hb
    all_goals
      go_enter Try.func13, Try.ntmps13
      go_wp2_with fail
      repeat' (first | ((first | (with_reducible refine (HA.out _).mono ?_) | (with_reducible refine (HB.out _).mono ?_) | fail); rintro e wn ⟨rfl, hb⟩; have H0 := Lib.hid (H0.out.step hb); clear hb; (try clear x0 x1 x2 x3 x4 x5); obtain ⟨x0, x1, x2, x3, x4, x5, _⟩ := H0.out.1; go_wp2_with fail) | fail)
      all_goals
        go_ret
        exact ⟨ret_bool (by rw [HR.out, Bool.eq_iff_iff]; simp; try omega), H0.out.below⟩
  · have HF := Lib.hid hb; clear hb
    cases b1 <;> cases b2 <;> cases b3
    all_goals first | (exact absurd (by rfl) HF.out) | skip
    all_goals
      go_enter Try.func13, Try.ntmps13
      go_wp2_with fail
      repeat' (first | ((first | (with_reducible refine (HA.out _).mono ?_) | (with_reducible refine (HB.out _).mono ?_) | fail); rintro e wn ⟨rfl, hb⟩; have H0 := Lib.hid (H0.out.step hb); clear hb; (try clear x0 x1 x2 x3 x4 x5); obtain ⟨x0, x1, x2, x3, x4, x5, _⟩ := H0.out.1; go_wp2_with fail) | fail)
      go_ret
      exact ⟨ret_bool (by rw [HR.out]; simp), H0.out.below⟩

set_option maxRecDepth 100000 in
theorem implDark (s t : Tr) (w : World) :
    Calls Try.prog 15 #[s.val, t.val] w (BoolIs (darkB s t) w) := by
  have HA := Lib.hid (implStain s)
  have HB := Lib.hid (implStain t)
  have HR := Lib.hid (show darkB s t = (stainB s && stainB t && !decide (s = t) && (decide (s.x ≤ t.x) && decide (s.y ≤ t.y) && decide (s.z ≤ t.z))) from rfl)
  have q := eqTr s t
  have H0 := Lib.hid (heldT2 w s t 31 31)
  generalize darkB s t = r at *
  generalize stainB s = b1 at *
  generalize stainB t = b2 at *
  generalize decide (s = t) = b3 at *
  obtain ⟨x, y, z⟩ := s
  obtain ⟨a, b, c⟩ := t
  unfold Tr.val at *
  simp only at H0 HA HB HR q
  by_cases hb : (b1 && b2 && !b3) = true
  · obtain ⟨rfl, rfl, rfl⟩ : b1 = true ∧ b2 = true ∧ b3 = false := by simpa [Bool.and_eq_true, and_assoc] using hb
    clear hb
    all_goals
      go_enter Try.func15, Try.ntmps15
      go_wp2_with fail
      repeat' (first | ((first | (with_reducible refine (HA.out _).mono ?_) | (with_reducible refine (HB.out _).mono ?_) | fail); rintro e wn ⟨rfl, hb⟩; have H0 := Lib.hid (H0.out.step hb); clear hb; (try clear x0 x1 x2 x3 x4 x5); obtain ⟨x0, x1, x2, x3, x4, x5, _⟩ := H0.out.1; go_wp2_with fail) | fail)
      all_goals
        go_ret
        exact ⟨ret_bool (by rw [HR.out, Bool.eq_iff_iff]; simp; try omega), H0.out.below⟩
  · have HF := Lib.hid hb; clear hb
    cases b1 <;> cases b2 <;> cases b3
    all_goals first | (exact absurd (by rfl) HF.out) | skip
    all_goals
      go_enter Try.func15, Try.ntmps15
      go_wp2_with fail
      repeat' (first | ((first | (with_reducible refine (HA.out _).mono ?_) | (with_reducible refine (HB.out _).mono ?_) | fail); rintro e wn ⟨rfl, hb⟩; have H0 := Lib.hid (H0.out.step hb); clear hb; (try clear x0 x1 x2 x3 x4 x5); obtain ⟨x0, x1, x2, x3, x4, x5, _⟩ := H0.out.1; go_wp2_with fail) | fail)
      go_ret
      exact ⟨ret_bool (by rw [HR.out]; simp), H0.out.below⟩
end Go.Proofs.Ytghpbdgghliieaa
