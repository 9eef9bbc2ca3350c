/-
  Plain laws of nodes: turns, lengths, between, directions.
-/
import Derived.Test.YtemblmcfbonjoaaNodeP
namespace Go.Proofs.Ytemblmcfbonjoaa
set_option linter.unusedVariables false
set_option linter.unusedSimpArgs false

theorem turn_swap (a b c : Nd) : turnI a b c = -turnI a c b := by unfold turnI; grind
theorem turn_round (a b c : Nd) : turnI a b c = turnI b c a := by unfold turnI; grind
theorem turn_flip (a b c : Nd) : turnI b a c = -turnI a b c := by unfold turnI; grind
theorem turnOf_swap (a b c : Nd) : turnOf a b c = -turnOf a c b := by
  unfold turnOf
  cases okB a <;> cases okB b <;> cases okB c <;> simp [turn_swap a b c]
theorem turnOf_round (a b c : Nd) : turnOf a b c = turnOf b c a := by
  unfold turnOf
  cases okB a <;> cases okB b <;> cases okB c <;> simp [turn_round a b c]
theorem sq_sym (x y : Int) : (x - y) * (x - y) = (y - x) * (y - x) := by grind
theorem len_sym (a b : Nd) : lenSq a b = lenSq b a := by
  unfold lenSq
  rw [sq_sym b.x a.x, sq_sym b.y a.y]
  cases okB a <;> cases okB b <;> rfl
theorem len_zero (a b : Nd) (ha : okB a = true) (hb : okB b = true) : lenSq a b = 0 ↔ a = b := by
  unfold lenSq
  rw [ha, hb]
  simp only [Bool.and_self, if_true]
  constructor
  · intro h
    have h1 : 0 ≤ (b.x - a.x) * (b.x - a.x) := by
      rcases Int.le_total 0 (b.x - a.x) with h | h
      · exact Int.mul_nonneg h h
      · exact Int.mul_nonneg_of_nonpos_of_nonpos h h
    have h2 : 0 ≤ (b.y - a.y) * (b.y - a.y) := by
      rcases Int.le_total 0 (b.y - a.y) with h | h
      · exact Int.mul_nonneg h h
      · exact Int.mul_nonneg_of_nonpos_of_nonpos h h
    have e1 : (b.x - a.x) * (b.x - a.x) = 0 := by omega
    have e2 : (b.y - a.y) * (b.y - a.y) = 0 := by omega
    have e3 : b.x - a.x = 0 := by rcases Int.mul_eq_zero.1 e1 with h | h <;> exact h
    have e4 : b.y - a.y = 0 := by rcases Int.mul_eq_zero.1 e2 with h | h <;> exact h
    cases a; cases b
    simp only [Nd.mk.injEq]
    simp only at e3 e4
    omega
  · rintro rfl
    simp
theorem between_iff (a b c : Nd) : betweenB a b c = true ↔ okB a = true ∧ okB b = true ∧ okB c = true ∧ a ≠ b ∧ b ≠ c ∧ a ≠ c ∧ turnI a b c = 0 ∧ (min a.x b.x ≤ c.x ∧ c.x ≤ max a.x b.x) ∧ (min a.y b.y ≤ c.y ∧ c.y ≤ max a.y b.y) := by
  unfold betweenB inB
  simp only [Bool.and_eq_true, decide_eq_true_eq]
  constructor
  · rintro ⟨⟨⟨⟨⟨⟨⟨h1, h2⟩, h3⟩, h4⟩, h5⟩, h6⟩, h7⟩, h8, h9⟩
    exact ⟨h1, h2, h3, h4, h5, h6, h7, h8, h9⟩
  · rintro ⟨h1, h2, h3, h4, h5, h6, h7, h8, h9⟩
    exact ⟨⟨⟨⟨⟨⟨⟨h1, h2⟩, h3⟩, h4⟩, h5⟩, h6⟩, h7⟩, h8, h9⟩
theorem between_turn {a b c : Nd} (h : betweenB a b c = true) : turnOf a b c = 0 := by
  obtain ⟨h1, h2, h3, _, _, _, h7, _⟩ := (between_iff a b c).1 h
  unfold turnOf
  rw [h1, h2, h3]
  simpa using h7
theorem between_sym {a b c : Nd} (h : betweenB a b c = true) : betweenB b a c = true := by
  obtain ⟨h1, h2, h3, h4, h5, h6, h7, h8, h9⟩ := (between_iff a b c).1 h
  refine (between_iff b a c).2 ⟨h2, h1, h3, fun e => h4 e.symm, h6, h5, by rw [turn_flip, h7]; rfl, ?_, ?_⟩
  · rw [Int.min_comm, Int.max_comm]; exact h8
  · rw [Int.min_comm, Int.max_comm]; exact h9
theorem between_not {a b c : Nd} (h : betweenB a b c = true) : betweenB a c b = false := by
  cases k : betweenB a c b with
  | false => rfl
  | true =>
    obtain ⟨_, _, _, _, h5, _, _, h8, h9⟩ := (between_iff a b c).1 h
    obtain ⟨_, _, _, _, _, _, _, k8, k9⟩ := (between_iff a c b).1 k
    exact absurd (by cases b; cases c; simp only [Nd.mk.injEq]; simp only at h8 h9 k8 k9; omega) h5
theorem half_ne (a b : Nd) : (halfI a b ≠ halfI b a) ↔ a ≠ b := by
  rw [nd_ne]
  unfold halfI
  split <;> split <;> omega
/-- Of two directions just one comes first, or they are the same direction. -/
theorem before_one {a b c : Nd} (ha : okB a = true) (hb : okB b = true) (hc : okB c = true) :
    ¬ (beforeB a b c = true ∧ beforeB a c b = true) ∧ ((beforeB a b c = false ∧ beforeB a c b = false) ↔ (turnI a b c = 0 ∧ halfI a b = halfI a c)) := by
  have e := turn_swap a b c
  unfold beforeB
  rw [ha, hb, hc]
  simp only [Bool.and_self, Bool.true_and]
  by_cases h : halfI a b = halfI a c
  · rw [if_pos h, if_pos h.symm]
    simp only [decide_eq_true_eq, decide_eq_false_iff_not]
    omega
  · rw [if_neg h, if_neg (fun e => h e.symm)]
    simp only [decide_eq_true_eq, decide_eq_false_iff_not]
    omega
end Go.Proofs.Ytemblmcfbonjoaa
