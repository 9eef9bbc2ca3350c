/-
  What the model's IsBetween returns.
-/
import Derived.Test.YtfppnaknnijobaaNode
import Derived.Test.YtfppnaknnijobaaHeld
import Derived.Laws.StructEq
namespace Go.Proofs.Ytfppnaknnijobaa
open Go.RowKit
set_option linter.unusedVariables false
set_option linter.unusedSimpArgs false

theorem eqNd (a b : Nd) (w : World) : (Op.equalIn 10000 49 (.agg #[.int .i64 a.x, .int .i64 a.y]) (.agg #[.int .i64 b.x, .int .i64 b.y])).run Try.prog w = .ok (decide (a = b)) w := by
  obtain ⟨ax, ay⟩ := a
  obtain ⟨bx, by'⟩ := b
  simp only [Nd.mk.injEq]
  by_cases h1 : ax = bx
  · subst h1
    by_cases h2 : ay = by'
    · subst h2; go_simp
    · have h3 : (ay == by') = false := by rw [beq_eq_false_iff_ne]; exact h2
      go_simp
  · have h3 : (ax == bx) = false := by rw [beq_eq_false_iff_ne]; exact h1
    go_simp

theorem min_if (a b : Int) : (if b < a then b else a) = min a b := by split <;> omega

theorem max_if (a b : Int) : (if a < b then b else a) = max a b := by split <;> omega

/-- Three, two, one boxed nodes. -/
def B3 (w : World) (a b c : Nd) : List (Nat × Nat × Value) := [(w.heap.size, 0, .int .i64 a.x), (w.heap.size, 1, .int .i64 a.y), (w.heap.size + 1, 0, .int .i64 b.x), (w.heap.size + 1, 1, .int .i64 b.y), (w.heap.size + 1 + 1, 0, .int .i64 c.x), (w.heap.size + 1 + 1, 1, .int .i64 c.y)]
def B2 (w : World) (a b : Nd) : List (Nat × Nat × Value) := [(w.heap.size, 0, .int .i64 a.x), (w.heap.size, 1, .int .i64 a.y), (w.heap.size + 1, 0, .int .i64 b.x), (w.heap.size + 1, 1, .int .i64 b.y)]
def B1 (w : World) (a : Nd) : List (Nat × Nat × Value) := [(w.heap.size, 0, .int .i64 a.x), (w.heap.size, 1, .int .i64 a.y)]
theorem held3 (w : World) (a b c : Nd) (T : TypeId) : Held w (((w.alloc (.cells #[.int .i64 a.x, .int .i64 a.y] T)).alloc (.cells #[.int .i64 b.x, .int .i64 b.y] T)).alloc (.cells #[.int .i64 c.x, .int .i64 c.y] T)) (B3 w a b c) := by
  refine ⟨⟨?_, ?_, ?_, ?_, ?_, ?_, trivial⟩, ⟨?_, ?_, ?_, ?_, ?_, ?_, trivial⟩, below3 w _ _ _⟩ <;> (try simp) <;> go_simp
theorem held2 (w : World) (a b : Nd) (T U : TypeId) : Held w ((w.alloc (.cells #[.int .i64 a.x, .int .i64 a.y] T)).alloc (.cells #[.int .i64 b.x, .int .i64 b.y] U)) (B2 w a b) := by
  refine ⟨⟨?_, ?_, ?_, ?_, trivial⟩, ⟨?_, ?_, ?_, ?_, trivial⟩, below2 w _ _⟩ <;> (try simp) <;> go_simp
theorem held1 (w : World) (a : Nd) (T : TypeId) : Held w (w.alloc (.cells #[.int .i64 a.x, .int .i64 a.y] T)) (B1 w a) := by
  refine ⟨⟨?_, ?_, trivial⟩, ⟨?_, ?_, trivial⟩, (Below.refl _ _).alloc (Nat.le_refl _) _⟩ <;> (try simp) <;> go_simp

theorem specBetween (a b c : Nd) (w : World) :
    Calls Try.prog 72 #[a.val, b.val, c.val] w (BoolIs (betweenB a b c) w) := by
  have hr : betweenB a b c = (okB a && okB b && okB c && decide (a ≠ b) && decide (b ≠ c) && decide (a ≠ c) && decide (turnI a b c = 0) && (inB c.x (min a.x b.x) (max a.x b.x) && inB c.y (min a.y b.y) (max a.y b.y))) := rfl
  have HR := Lib.hid hr; clear hr
  have HA := Lib.hid (specNodeOk a)
  have HB := Lib.hid (specNodeOk b)
  have HC := Lib.hid (specNodeOk c)
  have H0 := Lib.hid (held3 w a b c 49)
  have HT := Lib.hid (fun w ha hb hc => specTurn a b c w ha hb hc)
  have HX := Lib.hid (specIn c.x (min a.x b.x) (max a.x b.x))
  have HY := Lib.hid (specIn c.y (min a.y b.y) (max a.y b.y))
  have q1 := eqNd a b
  have q2 := eqNd b c
  have q3 := eqNd a c
  have e1 := min_if a.x b.x
  have e2 := max_if a.x b.x
  have e3 := min_if a.y b.y
  have e4 := max_if a.y b.y
  have g1 : decide (a ≠ b) = !decide (a = b) := by simp
  have g2 : decide (b ≠ c) = !decide (b = c) := by simp
  have g3 : decide (a ≠ c) = !decide (a = c) := by simp
  rw [g1, g2, g3] at HR
  generalize betweenB a b c = r at *
  generalize decide (a = b) = d1 at *
  generalize decide (b = c) = d2 at *
  generalize decide (a = c) = d3 at *
  generalize turnI a b c = t at *
  generalize okB a = ka at *
  generalize okB b = kb at *
  generalize okB c = kc at *
  generalize inB c.x (min a.x b.x) (max a.x b.x) = bx at *
  generalize inB c.y (min a.y b.y) (max a.y b.y) = by' at *
  clear g1 g2 g3
  obtain ⟨ax, ay⟩ := a
  obtain ⟨cx, cy⟩ := b
  obtain ⟨dx, dy⟩ := c
  simp only at H0 q1 q2 q3 HX HY e1 e2 e3 e4
  unfold Nd.val at HA HB HC HT ⊢
  simp only at HA HB HC HT
  generalize min ax cx = m1 at *
  generalize max ax cx = m2 at *
  generalize min ay cy = m3 at *
  generalize max ay cy = m4 at *
  cases ka
  · go_enter Try.func72, Try.ntmps72
    go_wp2_with fail
    refine (HA.out _).mono ?_
    rintro e wH1 ⟨rfl, hb⟩
    have H1 := Lib.hid ((H0.out).step hb); clear hb
    try clear x0 x1 x2 x3 x4 x5
    obtain ⟨x0, x1, x2, x3, x4, x5, _⟩ := H1.out.1
    go_wp2_with fail
    go_ret
    exact ⟨ret_bool (by rw [HR.out]; simp), H1.out.below⟩
  cases kb
  · go_enter Try.func72, Try.ntmps72
    go_wp2_with fail
    refine (HA.out _).mono ?_
    rintro e wH1 ⟨rfl, hb⟩
    have H1 := Lib.hid ((H0.out).step hb); clear hb
    try clear x0 x1 x2 x3 x4 x5
    obtain ⟨x0, x1, x2, x3, x4, x5, _⟩ := H1.out.1
    go_wp2_with fail
    refine (HB.out _).mono ?_
    rintro e wH2 ⟨rfl, hb⟩
    have H2 := Lib.hid ((H1.out).step hb); clear hb
    try clear x0 x1 x2 x3 x4 x5
    obtain ⟨x0, x1, x2, x3, x4, x5, _⟩ := H2.out.1
    go_wp2_with fail
    go_ret
    exact ⟨ret_bool (by rw [HR.out]; simp), H2.out.below⟩
  cases kc
  · go_enter Try.func72, Try.ntmps72
    go_wp2_with fail
    refine (HA.out _).mono ?_
    rintro e wH1 ⟨rfl, hb⟩
    have H1 := Lib.hid ((H0.out).step hb); clear hb
    try clear x0 x1 x2 x3 x4 x5
    obtain ⟨x0, x1, x2, x3, x4, x5, _⟩ := H1.out.1
    go_wp2_with fail
    refine (HB.out _).mono ?_
    rintro e wH2 ⟨rfl, hb⟩
    have H2 := Lib.hid ((H1.out).step hb); clear hb
    try clear x0 x1 x2 x3 x4 x5
    obtain ⟨x0, x1, x2, x3, x4, x5, _⟩ := H2.out.1
    go_wp2_with fail
    refine (HC.out _).mono ?_
    rintro e wH3 ⟨rfl, hb⟩
    have H3 := Lib.hid ((H2.out).step hb); clear hb
    try clear x0 x1 x2 x3 x4 x5
    obtain ⟨x0, x1, x2, x3, x4, x5, _⟩ := H3.out.1
    go_wp2_with fail
    go_ret
    exact ⟨ret_bool (by rw [HR.out]; simp), H3.out.below⟩
  cases d1
  case true =>
    go_enter Try.func72, Try.ntmps72
    go_wp2_with fail
    refine (HA.out _).mono ?_
    rintro e wH1 ⟨rfl, hb⟩
    have H1 := Lib.hid ((H0.out).step hb); clear hb
    try clear x0 x1 x2 x3 x4 x5
    obtain ⟨x0, x1, x2, x3, x4, x5, _⟩ := H1.out.1
    go_wp2_with fail
    refine (HB.out _).mono ?_
    rintro e wH2 ⟨rfl, hb⟩
    have H2 := Lib.hid ((H1.out).step hb); clear hb
    try clear x0 x1 x2 x3 x4 x5
    obtain ⟨x0, x1, x2, x3, x4, x5, _⟩ := H2.out.1
    go_wp2_with fail
    refine (HC.out _).mono ?_
    rintro e wH3 ⟨rfl, hb⟩
    have H3 := Lib.hid ((H2.out).step hb); clear hb
    try clear x0 x1 x2 x3 x4 x5
    obtain ⟨x0, x1, x2, x3, x4, x5, _⟩ := H3.out.1
    go_wp2_with fail
    go_ret
    exact ⟨ret_bool (by rw [HR.out]; simp), H3.out.below⟩
  cases d2
  case true =>
    go_enter Try.func72, Try.ntmps72
    go_wp2_with fail
    refine (HA.out _).mono ?_
    rintro e wH1 ⟨rfl, hb⟩
    have H1 := Lib.hid ((H0.out).step hb); clear hb
    try clear x0 x1 x2 x3 x4 x5
    obtain ⟨x0, x1, x2, x3, x4, x5, _⟩ := H1.out.1
    go_wp2_with fail
    refine (HB.out _).mono ?_
    rintro e wH2 ⟨rfl, hb⟩
    have H2 := Lib.hid ((H1.out).step hb); clear hb
    try clear x0 x1 x2 x3 x4 x5
    obtain ⟨x0, x1, x2, x3, x4, x5, _⟩ := H2.out.1
    go_wp2_with fail
    refine (HC.out _).mono ?_
    rintro e wH3 ⟨rfl, hb⟩
    have H3 := Lib.hid ((H2.out).step hb); clear hb
    try clear x0 x1 x2 x3 x4 x5
    obtain ⟨x0, x1, x2, x3, x4, x5, _⟩ := H3.out.1
    go_wp2_with fail
    go_ret
    exact ⟨ret_bool (by rw [HR.out]; simp), H3.out.below⟩
  cases d3
  case true =>
    go_enter Try.func72, Try.ntmps72
    go_wp2_with fail
    refine (HA.out _).mono ?_
    rintro e wH1 ⟨rfl, hb⟩
    have H1 := Lib.hid ((H0.out).step hb); clear hb
    try clear x0 x1 x2 x3 x4 x5
    obtain ⟨x0, x1, x2, x3, x4, x5, _⟩ := H1.out.1
    go_wp2_with fail
    refine (HB.out _).mono ?_
    rintro e wH2 ⟨rfl, hb⟩
    have H2 := Lib.hid ((H1.out).step hb); clear hb
    try clear x0 x1 x2 x3 x4 x5
    obtain ⟨x0, x1, x2, x3, x4, x5, _⟩ := H2.out.1
    go_wp2_with fail
    refine (HC.out _).mono ?_
    rintro e wH3 ⟨rfl, hb⟩
    have H3 := Lib.hid ((H2.out).step hb); clear hb
    try clear x0 x1 x2 x3 x4 x5
    obtain ⟨x0, x1, x2, x3, x4, x5, _⟩ := H3.out.1
    go_wp2_with fail
    go_ret
    exact ⟨ret_bool (by rw [HR.out]; simp), H3.out.below⟩
  by_cases ht0 : t = 0
  · subst ht0
    have HTT := Lib.hid (fun w => HT.out w rfl rfl rfl)
    cases bx
    · go_enter Try.func72, Try.ntmps72
      go_wp2_with fail
      refine (HA.out _).mono ?_
      rintro e wH1 ⟨rfl, hb⟩
      have H1 := Lib.hid ((H0.out).step hb); clear hb
      try clear x0 x1 x2 x3 x4 x5
      obtain ⟨x0, x1, x2, x3, x4, x5, _⟩ := H1.out.1
      go_wp2_with fail
      refine (HB.out _).mono ?_
      rintro e wH2 ⟨rfl, hb⟩
      have H2 := Lib.hid ((H1.out).step hb); clear hb
      try clear x0 x1 x2 x3 x4 x5
      obtain ⟨x0, x1, x2, x3, x4, x5, _⟩ := H2.out.1
      go_wp2_with fail
      refine (HC.out _).mono ?_
      rintro e wH3 ⟨rfl, hb⟩
      have H3 := Lib.hid ((H2.out).step hb); clear hb
      try clear x0 x1 x2 x3 x4 x5
      obtain ⟨x0, x1, x2, x3, x4, x5, _⟩ := H3.out.1
      go_wp2_with fail
      refine (HTT.out _).mono ?_
      rintro e wH4 ⟨rfl, hb⟩
      have H4 := Lib.hid ((H3.out).step hb); clear hb
      try clear x0 x1 x2 x3 x4 x5
      obtain ⟨x0, x1, x2, x3, x4, x5, _⟩ := H4.out.1
      go_wp2_with fail
      refine (HX.out _).mono ?_
      rintro e w' ⟨rfl, rfl⟩
      go_wp2_with fail
      go_ret
      exact ⟨ret_bool (by rw [HR.out]; simp), H4.out.below⟩
    · go_enter Try.func72, Try.ntmps72
      go_wp2_with fail
      refine (HA.out _).mono ?_
      rintro e wH1 ⟨rfl, hb⟩
      have H1 := Lib.hid ((H0.out).step hb); clear hb
      try clear x0 x1 x2 x3 x4 x5
      obtain ⟨x0, x1, x2, x3, x4, x5, _⟩ := H1.out.1
      go_wp2_with fail
      refine (HB.out _).mono ?_
      rintro e wH2 ⟨rfl, hb⟩
      have H2 := Lib.hid ((H1.out).step hb); clear hb
      try clear x0 x1 x2 x3 x4 x5
      obtain ⟨x0, x1, x2, x3, x4, x5, _⟩ := H2.out.1
      go_wp2_with fail
      refine (HC.out _).mono ?_
      rintro e wH3 ⟨rfl, hb⟩
      have H3 := Lib.hid ((H2.out).step hb); clear hb
      try clear x0 x1 x2 x3 x4 x5
      obtain ⟨x0, x1, x2, x3, x4, x5, _⟩ := H3.out.1
      go_wp2_with fail
      refine (HTT.out _).mono ?_
      rintro e wH4 ⟨rfl, hb⟩
      have H4 := Lib.hid ((H3.out).step hb); clear hb
      try clear x0 x1 x2 x3 x4 x5
      obtain ⟨x0, x1, x2, x3, x4, x5, _⟩ := H4.out.1
      go_wp2_with fail
      refine (HX.out _).mono ?_
      rintro e w' ⟨rfl, rfl⟩
      go_wp2_with fail
      refine (HY.out _).mono ?_
      rintro e w' ⟨rfl, rfl⟩
      go_wp2_with fail
      go_ret
      exact ⟨ret_bool (by rw [HR.out]; simp), H4.out.below⟩
  · have h5 : (t == 0) = false := by rw [beq_eq_false_iff_ne]; exact ht0
    have h6 : (t != 0) = true := by rw [bne_iff_ne]; exact ht0
    have HTT := Lib.hid (fun w => HT.out w rfl rfl rfl)
    have HT0 := Lib.hid ht0; clear ht0
    go_enter Try.func72, Try.ntmps72
    go_wp2_with fail
    refine (HA.out _).mono ?_
    rintro e wH1 ⟨rfl, hb⟩
    have H1 := Lib.hid ((H0.out).step hb); clear hb
    try clear x0 x1 x2 x3 x4 x5
    obtain ⟨x0, x1, x2, x3, x4, x5, _⟩ := H1.out.1
    go_wp2_with fail
    refine (HB.out _).mono ?_
    rintro e wH2 ⟨rfl, hb⟩
    have H2 := Lib.hid ((H1.out).step hb); clear hb
    try clear x0 x1 x2 x3 x4 x5
    obtain ⟨x0, x1, x2, x3, x4, x5, _⟩ := H2.out.1
    go_wp2_with fail
    refine (HC.out _).mono ?_
    rintro e wH3 ⟨rfl, hb⟩
    have H3 := Lib.hid ((H2.out).step hb); clear hb
    try clear x0 x1 x2 x3 x4 x5
    obtain ⟨x0, x1, x2, x3, x4, x5, _⟩ := H3.out.1
    go_wp2_with fail
    refine (HTT.out _).mono ?_
    rintro e wH4 ⟨rfl, hb⟩
    have H4 := Lib.hid ((H3.out).step hb); clear hb
    try clear x0 x1 x2 x3 x4 x5
    obtain ⟨x0, x1, x2, x3, x4, x5, _⟩ := H4.out.1
    go_wp2_with fail
    go_ret
    exact ⟨ret_bool (by rw [HR.out]; simp [HT0.out]), H4.out.below⟩
end Go.Proofs.Ytfppnaknnijobaa
