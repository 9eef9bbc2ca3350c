/-
  What the model's IsBetween returns.
-/
import Derived.Test.YtemblmcfbonjoaaNode
import Derived.Outline
import Derived.Laws.StructEq
namespace Go.Proofs.Ytemblmcfbonjoaa
open Go.RowKit
set_option linter.unusedVariables false
set_option linter.unusedSimpArgs false

theorem eqNd (a b : Nd) (w : World) : (Op.equalIn 10000 25 (.agg #[.int .i64 a.x, .int .i64 a.y]) (.agg #[.int .i64 b.x, .int .i64 b.y])).run Try.prog w = .ok (decide (a = b)) w := by
  obtain ⟨ax, ay⟩ := a
  obtain ⟨bx, by'⟩ := b
  simp only [Nd.mk.injEq]
  by_cases h1 : ax = bx
  · subst h1
    by_cases h2 : ay = by'
    · subst h2; go_simp
    · have h3 : (ay == by') = false := by rw [beq_eq_false_iff_ne]; exact h2
      go_simp
  · have h3 : (ax == bx) = false := by rw [beq_eq_false_iff_ne]; exact h1
    go_simp

theorem between_a (a b c : Nd) (w : World) (ha : okB a = false) :
    Calls Try.prog 42 #[a.val, b.val, c.val] w (BoolIs false w) := by
  have HA := Lib.hid (specNodeOk a)
  have HB := Lib.hid (specNodeOk b)
  have HC := Lib.hid (specNodeOk c)
  rw [ha] at HA
  clear ha
  obtain ⟨ax, ay⟩ := a
  obtain ⟨bx, by'⟩ := b
  obtain ⟨cx, cy⟩ := c
  unfold Nd.val
  go_enter Try.func42, Try.ntmps42
  go_wp2_with fail
  refine (HA.out _).mono ?_
  rintro e w1 ⟨rfl, hb1⟩
  obtain ⟨hc1, hf1⟩ := bcell hb1
  have hz10 : w.heap.size < w1.heap.size := by have := hb1.size; simp at this; omega
  have hz11 : w.heap.size + 1 < w1.heap.size := by have := hb1.size; simp at this; omega
  have hz12 : w.heap.size + 1 + 1 < w1.heap.size := by have := hb1.size; simp at this; omega
  have HB1 := Lib.hid ((below3 w _ _ _).trans (hb1.mono (by simp; try omega)))
  clear hb1
  go_wp2_with fail
  go_ret
  exact ⟨rfl, HB1.out⟩

theorem between_b (a b c : Nd) (w : World) (ha : okB a = true) (hb : okB b = false) :
    Calls Try.prog 42 #[a.val, b.val, c.val] w (BoolIs false w) := by
  have HA := Lib.hid (specNodeOk a)
  have HB := Lib.hid (specNodeOk b)
  have HC := Lib.hid (specNodeOk c)
  rw [ha] at HA
  rw [hb] at HB
  clear ha hb
  obtain ⟨ax, ay⟩ := a
  obtain ⟨bx, by'⟩ := b
  obtain ⟨cx, cy⟩ := c
  unfold Nd.val
  go_enter Try.func42, Try.ntmps42
  go_wp2_with fail
  refine (HA.out _).mono ?_
  rintro e w1 ⟨rfl, hb1⟩
  obtain ⟨hc1, hf1⟩ := bcell hb1
  have hz10 : w.heap.size < w1.heap.size := by have := hb1.size; simp at this; omega
  have hz11 : w.heap.size + 1 < w1.heap.size := by have := hb1.size; simp at this; omega
  have hz12 : w.heap.size + 1 + 1 < w1.heap.size := by have := hb1.size; simp at this; omega
  have HB1 := Lib.hid ((below3 w _ _ _).trans (hb1.mono (by simp; try omega)))
  clear hb1
  go_wp2_with fail
  refine (HB.out _).mono ?_
  rintro e w2 ⟨rfl, hb2⟩
  obtain ⟨hc2, hf2⟩ := bcell hb2
  have hz20 : w.heap.size < w2.heap.size := by have := hb2.size; omega
  have hz21 : w.heap.size + 1 < w2.heap.size := by have := hb2.size; omega
  have hz22 : w.heap.size + 1 + 1 < w2.heap.size := by have := hb2.size; omega
  have HB2 := Lib.hid (HB1.out.trans (hb2.mono HB1.out.size))
  clear hb2
  go_wp2_with fail
  go_ret
  exact ⟨rfl, HB2.out⟩

theorem between_c (a b c : Nd) (w : World) (ha : okB a = true) (hb : okB b = true) (hc : okB c = false) :
    Calls Try.prog 42 #[a.val, b.val, c.val] w (BoolIs false w) := by
  have HA := Lib.hid (specNodeOk a)
  have HB := Lib.hid (specNodeOk b)
  have HC := Lib.hid (specNodeOk c)
  rw [ha] at HA
  rw [hb] at HB
  rw [hc] at HC
  clear ha hb hc
  obtain ⟨ax, ay⟩ := a
  obtain ⟨bx, by'⟩ := b
  obtain ⟨cx, cy⟩ := c
  unfold Nd.val
  go_enter Try.func42, Try.ntmps42
  go_wp2_with fail
  refine (HA.out _).mono ?_
  rintro e w1 ⟨rfl, hb1⟩
  obtain ⟨hc1, hf1⟩ := bcell hb1
  have hz10 : w.heap.size < w1.heap.size := by have := hb1.size; simp at this; omega
  have hz11 : w.heap.size + 1 < w1.heap.size := by have := hb1.size; simp at this; omega
  have hz12 : w.heap.size + 1 + 1 < w1.heap.size := by have := hb1.size; simp at this; omega
  have HB1 := Lib.hid ((below3 w _ _ _).trans (hb1.mono (by simp; try omega)))
  clear hb1
  go_wp2_with fail
  refine (HB.out _).mono ?_
  rintro e w2 ⟨rfl, hb2⟩
  obtain ⟨hc2, hf2⟩ := bcell hb2
  have hz20 : w.heap.size < w2.heap.size := by have := hb2.size; omega
  have hz21 : w.heap.size + 1 < w2.heap.size := by have := hb2.size; omega
  have hz22 : w.heap.size + 1 + 1 < w2.heap.size := by have := hb2.size; omega
  have HB2 := Lib.hid (HB1.out.trans (hb2.mono HB1.out.size))
  clear hb2
  go_wp2_with fail
  refine (HC.out _).mono ?_
  rintro e w3 ⟨rfl, hb3⟩
  obtain ⟨hc3, hf3⟩ := bcell hb3
  have hz30 : w.heap.size < w3.heap.size := by have := hb3.size; omega
  have hz31 : w.heap.size + 1 < w3.heap.size := by have := hb3.size; omega
  have hz32 : w.heap.size + 1 + 1 < w3.heap.size := by have := hb3.size; omega
  have HB3 := Lib.hid (HB2.out.trans (hb3.mono HB2.out.size))
  clear hb3
  go_wp2_with fail
  go_ret
  exact ⟨rfl, HB3.out⟩

theorem between_ab (a b c : Nd) (w : World) (ha : okB a = true) (hb : okB b = true) (hc : okB c = true) (h1 : a = b) :
    Calls Try.prog 42 #[a.val, b.val, c.val] w (BoolIs false w) := by
  have HA := Lib.hid (specNodeOk a)
  have HB := Lib.hid (specNodeOk b)
  have HC := Lib.hid (specNodeOk c)
  rw [ha] at HA
  rw [hb] at HB
  rw [hc] at HC
  have q1 := eqNd a b
  rw [decide_eq_true h1] at q1
  clear ha hb hc h1
  obtain ⟨ax, ay⟩ := a
  obtain ⟨bx, by'⟩ := b
  obtain ⟨cx, cy⟩ := c
  unfold Nd.val
  go_enter Try.func42, Try.ntmps42
  go_wp2_with fail
  refine (HA.out _).mono ?_
  rintro e w1 ⟨rfl, hb1⟩
  obtain ⟨hc1, hf1⟩ := bcell hb1
  have hz10 : w.heap.size < w1.heap.size := by have := hb1.size; simp at this; omega
  have hz11 : w.heap.size + 1 < w1.heap.size := by have := hb1.size; simp at this; omega
  have hz12 : w.heap.size + 1 + 1 < w1.heap.size := by have := hb1.size; simp at this; omega
  have HB1 := Lib.hid ((below3 w _ _ _).trans (hb1.mono (by simp; try omega)))
  clear hb1
  go_wp2_with fail
  refine (HB.out _).mono ?_
  rintro e w2 ⟨rfl, hb2⟩
  obtain ⟨hc2, hf2⟩ := bcell hb2
  have hz20 : w.heap.size < w2.heap.size := by have := hb2.size; omega
  have hz21 : w.heap.size + 1 < w2.heap.size := by have := hb2.size; omega
  have hz22 : w.heap.size + 1 + 1 < w2.heap.size := by have := hb2.size; omega
  have HB2 := Lib.hid (HB1.out.trans (hb2.mono HB1.out.size))
  clear hb2
  go_wp2_with fail
  refine (HC.out _).mono ?_
  rintro e w3 ⟨rfl, hb3⟩
  obtain ⟨hc3, hf3⟩ := bcell hb3
  have hz30 : w.heap.size < w3.heap.size := by have := hb3.size; omega
  have hz31 : w.heap.size + 1 < w3.heap.size := by have := hb3.size; omega
  have hz32 : w.heap.size + 1 + 1 < w3.heap.size := by have := hb3.size; omega
  have HB3 := Lib.hid (HB2.out.trans (hb3.mono HB2.out.size))
  clear hb3
  go_wp2_with fail
  go_ret
  exact ⟨rfl, HB3.out⟩

theorem between_bc (a b c : Nd) (w : World) (ha : okB a = true) (hb : okB b = true) (hc : okB c = true) (h1 : a ≠ b) (h2 : b = c) :
    Calls Try.prog 42 #[a.val, b.val, c.val] w (BoolIs false w) := by
  have HA := Lib.hid (specNodeOk a)
  have HB := Lib.hid (specNodeOk b)
  have HC := Lib.hid (specNodeOk c)
  rw [ha] at HA
  rw [hb] at HB
  rw [hc] at HC
  have q1 := eqNd a b
  have q2 := eqNd b c
  rw [decide_eq_false h1] at q1
  rw [decide_eq_true h2] at q2
  clear ha hb hc h1 h2
  obtain ⟨ax, ay⟩ := a
  obtain ⟨bx, by'⟩ := b
  obtain ⟨cx, cy⟩ := c
  unfold Nd.val
  go_enter Try.func42, Try.ntmps42
  go_wp2_with fail
  refine (HA.out _).mono ?_
  rintro e w1 ⟨rfl, hb1⟩
  obtain ⟨hc1, hf1⟩ := bcell hb1
  have hz10 : w.heap.size < w1.heap.size := by have := hb1.size; simp at this; omega
  have hz11 : w.heap.size + 1 < w1.heap.size := by have := hb1.size; simp at this; omega
  have hz12 : w.heap.size + 1 + 1 < w1.heap.size := by have := hb1.size; simp at this; omega
  have HB1 := Lib.hid ((below3 w _ _ _).trans (hb1.mono (by simp; try omega)))
  clear hb1
  go_wp2_with fail
  refine (HB.out _).mono ?_
  rintro e w2 ⟨rfl, hb2⟩
  obtain ⟨hc2, hf2⟩ := bcell hb2
  have hz20 : w.heap.size < w2.heap.size := by have := hb2.size; omega
  have hz21 : w.heap.size + 1 < w2.heap.size := by have := hb2.size; omega
  have hz22 : w.heap.size + 1 + 1 < w2.heap.size := by have := hb2.size; omega
  have HB2 := Lib.hid (HB1.out.trans (hb2.mono HB1.out.size))
  clear hb2
  go_wp2_with fail
  refine (HC.out _).mono ?_
  rintro e w3 ⟨rfl, hb3⟩
  obtain ⟨hc3, hf3⟩ := bcell hb3
  have hz30 : w.heap.size < w3.heap.size := by have := hb3.size; omega
  have hz31 : w.heap.size + 1 < w3.heap.size := by have := hb3.size; omega
  have hz32 : w.heap.size + 1 + 1 < w3.heap.size := by have := hb3.size; omega
  have HB3 := Lib.hid (HB2.out.trans (hb3.mono HB2.out.size))
  clear hb3
  go_wp2_with fail
  go_ret
  exact ⟨rfl, HB3.out⟩

theorem between_ac (a b c : Nd) (w : World) (ha : okB a = true) (hb : okB b = true) (hc : okB c = true) (h1 : a ≠ b) (h2 : b ≠ c) (h3 : a = c) :
    Calls Try.prog 42 #[a.val, b.val, c.val] w (BoolIs false w) := by
  have HA := Lib.hid (specNodeOk a)
  have HB := Lib.hid (specNodeOk b)
  have HC := Lib.hid (specNodeOk c)
  rw [ha] at HA
  rw [hb] at HB
  rw [hc] at HC
  have q1 := eqNd a b
  have q2 := eqNd b c
  have q3 := eqNd a c
  rw [decide_eq_false h1] at q1
  rw [decide_eq_false h2] at q2
  rw [decide_eq_true h3] at q3
  clear ha hb hc h1 h2 h3
  obtain ⟨ax, ay⟩ := a
  obtain ⟨bx, by'⟩ := b
  obtain ⟨cx, cy⟩ := c
  unfold Nd.val
  go_enter Try.func42, Try.ntmps42
  go_wp2_with fail
  refine (HA.out _).mono ?_
  rintro e w1 ⟨rfl, hb1⟩
  obtain ⟨hc1, hf1⟩ := bcell hb1
  have hz10 : w.heap.size < w1.heap.size := by have := hb1.size; simp at this; omega
  have hz11 : w.heap.size + 1 < w1.heap.size := by have := hb1.size; simp at this; omega
  have hz12 : w.heap.size + 1 + 1 < w1.heap.size := by have := hb1.size; simp at this; omega
  have HB1 := Lib.hid ((below3 w _ _ _).trans (hb1.mono (by simp; try omega)))
  clear hb1
  go_wp2_with fail
  refine (HB.out _).mono ?_
  rintro e w2 ⟨rfl, hb2⟩
  obtain ⟨hc2, hf2⟩ := bcell hb2
  have hz20 : w.heap.size < w2.heap.size := by have := hb2.size; omega
  have hz21 : w.heap.size + 1 < w2.heap.size := by have := hb2.size; omega
  have hz22 : w.heap.size + 1 + 1 < w2.heap.size := by have := hb2.size; omega
  have HB2 := Lib.hid (HB1.out.trans (hb2.mono HB1.out.size))
  clear hb2
  go_wp2_with fail
  refine (HC.out _).mono ?_
  rintro e w3 ⟨rfl, hb3⟩
  obtain ⟨hc3, hf3⟩ := bcell hb3
  have hz30 : w.heap.size < w3.heap.size := by have := hb3.size; omega
  have hz31 : w.heap.size + 1 < w3.heap.size := by have := hb3.size; omega
  have hz32 : w.heap.size + 1 + 1 < w3.heap.size := by have := hb3.size; omega
  have HB3 := Lib.hid (HB2.out.trans (hb3.mono HB2.out.size))
  clear hb3
  go_wp2_with fail
  go_ret
  exact ⟨rfl, HB3.out⟩

theorem between_t (a b c : Nd) (w : World) (ha : okB a = true) (hb : okB b = true) (hc : okB c = true) (h1 : a ≠ b) (h2 : b ≠ c) (h3 : a ≠ c) (h4 : turnI a b c ≠ 0) :
    Calls Try.prog 42 #[a.val, b.val, c.val] w (BoolIs false w) := by
  have HA := Lib.hid (specNodeOk a)
  have HB := Lib.hid (specNodeOk b)
  have HC := Lib.hid (specNodeOk c)
  rw [ha] at HA
  rw [hb] at HB
  rw [hc] at HC
  have q1 := eqNd a b
  have q2 := eqNd b c
  have q3 := eqNd a c
  rw [decide_eq_false h1] at q1
  rw [decide_eq_false h2] at q2
  rw [decide_eq_false h3] at q3
  have HT := Lib.hid (fun w => specTurn a b c w ha hb hc)
  generalize turnI a b c = t at *
  clear ha hb hc h1 h2 h3
  have h5 : (t == 0) = false := by rw [beq_eq_false_iff_ne]; exact h4
  clear h4
  obtain ⟨ax, ay⟩ := a
  obtain ⟨bx, by'⟩ := b
  obtain ⟨cx, cy⟩ := c
  unfold Nd.val
  go_enter Try.func42, Try.ntmps42
  go_wp2_with fail
  refine (HA.out _).mono ?_
  rintro e w1 ⟨rfl, hb1⟩
  obtain ⟨hc1, hf1⟩ := bcell hb1
  have hz10 : w.heap.size < w1.heap.size := by have := hb1.size; simp at this; omega
  have hz11 : w.heap.size + 1 < w1.heap.size := by have := hb1.size; simp at this; omega
  have hz12 : w.heap.size + 1 + 1 < w1.heap.size := by have := hb1.size; simp at this; omega
  have HB1 := Lib.hid ((below3 w _ _ _).trans (hb1.mono (by simp; try omega)))
  clear hb1
  go_wp2_with fail
  refine (HB.out _).mono ?_
  rintro e w2 ⟨rfl, hb2⟩
  obtain ⟨hc2, hf2⟩ := bcell hb2
  have hz20 : w.heap.size < w2.heap.size := by have := hb2.size; omega
  have hz21 : w.heap.size + 1 < w2.heap.size := by have := hb2.size; omega
  have hz22 : w.heap.size + 1 + 1 < w2.heap.size := by have := hb2.size; omega
  have HB2 := Lib.hid (HB1.out.trans (hb2.mono HB1.out.size))
  clear hb2
  go_wp2_with fail
  refine (HC.out _).mono ?_
  rintro e w3 ⟨rfl, hb3⟩
  obtain ⟨hc3, hf3⟩ := bcell hb3
  have hz30 : w.heap.size < w3.heap.size := by have := hb3.size; omega
  have hz31 : w.heap.size + 1 < w3.heap.size := by have := hb3.size; omega
  have hz32 : w.heap.size + 1 + 1 < w3.heap.size := by have := hb3.size; omega
  have HB3 := Lib.hid (HB2.out.trans (hb3.mono HB2.out.size))
  clear hb3
  go_wp2_with fail
  refine (HT.out _).mono ?_
  rintro e w4 ⟨rfl, hb4⟩
  obtain ⟨hc4, hf4⟩ := bcell hb4
  have hz40 : w.heap.size < w4.heap.size := by have := hb4.size; omega
  have hz41 : w.heap.size + 1 < w4.heap.size := by have := hb4.size; omega
  have hz42 : w.heap.size + 1 + 1 < w4.heap.size := by have := hb4.size; omega
  have HB4 := Lib.hid (HB3.out.trans (hb4.mono HB3.out.size))
  clear hb4
  go_wp2_with fail
  go_ret
  exact ⟨rfl, HB4.out⟩

set_option maxHeartbeats 4000000 in
theorem between_on (a b c : Nd) (w : World) (ha : okB a = true) (hb : okB b = true) (hc : okB c = true) (h1 : a ≠ b) (h2 : b ≠ c) (h3 : a ≠ c) (h4 : turnI a b c = 0) :
    Calls Try.prog 42 #[a.val, b.val, c.val] w (BoolIs (inB c.x (min a.x b.x) (max a.x b.x) && inB c.y (min a.y b.y) (max a.y b.y)) w) := by
  have HA := Lib.hid (specNodeOk a)
  have HB := Lib.hid (specNodeOk b)
  have HC := Lib.hid (specNodeOk c)
  rw [ha] at HA
  rw [hb] at HB
  rw [hc] at HC
  have q1 := eqNd a b
  have q2 := eqNd b c
  have q3 := eqNd a c
  rw [decide_eq_false h1] at q1
  rw [decide_eq_false h2] at q2
  rw [decide_eq_false h3] at q3
  have HT := Lib.hid (fun w => specTurn a b c w ha hb hc)
  rw [h4] at HT
  clear ha hb hc h1 h2 h3 h4
  obtain ⟨ax, ay⟩ := a
  obtain ⟨bx, by'⟩ := b
  obtain ⟨cx, cy⟩ := c
  unfold Nd.val
  have hr : ∀ m M m' M', m = min ax bx → M = max ax bx → m' = min ay by' → M' = max ay by' → (inB cx (min ax bx) (max ax bx) && inB cy (min ay by') (max ay by')) = (inB cx m M && inB cy m' M') := by
    rintro m M m' M' rfl rfl rfl rfl; rfl
  have HR := Lib.hid hr; clear hr
  rcases Int.lt_trichotomy ax bx with hx | rfl | hx
  · rcases Int.lt_trichotomy ay by' with hy | rfl | hy
    · by_cases hin : inB cx ax bx = true
      · have HIN := Lib.hid hin; clear hin
        go_enter Try.func42, Try.ntmps42
        go_wp2_with fail
        refine (HA.out _).mono ?_
        rintro e w1 ⟨rfl, hb1⟩
        obtain ⟨hc1, hf1⟩ := bcell hb1
        have hz10 : w.heap.size < w1.heap.size := by have := hb1.size; simp at this; omega
        have hz11 : w.heap.size + 1 < w1.heap.size := by have := hb1.size; simp at this; omega
        have hz12 : w.heap.size + 1 + 1 < w1.heap.size := by have := hb1.size; simp at this; omega
        have HB1 := Lib.hid ((below3 w _ _ _).trans (hb1.mono (by simp; try omega)))
        clear hb1
        go_wp2_with fail
        refine (HB.out _).mono ?_
        rintro e w2 ⟨rfl, hb2⟩
        obtain ⟨hc2, hf2⟩ := bcell hb2
        have hz20 : w.heap.size < w2.heap.size := by have := hb2.size; omega
        have hz21 : w.heap.size + 1 < w2.heap.size := by have := hb2.size; omega
        have hz22 : w.heap.size + 1 + 1 < w2.heap.size := by have := hb2.size; omega
        have HB2 := Lib.hid (HB1.out.trans (hb2.mono HB1.out.size))
        clear hb2
        go_wp2_with fail
        refine (HC.out _).mono ?_
        rintro e w3 ⟨rfl, hb3⟩
        obtain ⟨hc3, hf3⟩ := bcell hb3
        have hz30 : w.heap.size < w3.heap.size := by have := hb3.size; omega
        have hz31 : w.heap.size + 1 < w3.heap.size := by have := hb3.size; omega
        have hz32 : w.heap.size + 1 + 1 < w3.heap.size := by have := hb3.size; omega
        have HB3 := Lib.hid (HB2.out.trans (hb3.mono HB2.out.size))
        clear hb3
        go_wp2_with fail
        refine (HT.out _).mono ?_
        rintro e w4 ⟨rfl, hb4⟩
        obtain ⟨hc4, hf4⟩ := bcell hb4
        have hz40 : w.heap.size < w4.heap.size := by have := hb4.size; omega
        have hz41 : w.heap.size + 1 < w4.heap.size := by have := hb4.size; omega
        have hz42 : w.heap.size + 1 + 1 < w4.heap.size := by have := hb4.size; omega
        have HB4 := Lib.hid (HB3.out.trans (hb4.mono HB3.out.size))
        clear hb4
        go_wp2_with fail
        refine (specIn _ _ _ _).mono ?_
        rintro e w' ⟨rfl, rfl⟩
        rw [HIN.out]
        go_wp2_with fail
        refine (specIn _ _ _ _).mono ?_
        rintro e w' ⟨rfl, rfl⟩
        go_wp2_with fail
        go_ret
        exact ⟨ret_bool (by rw [HR.out ax bx ay by' (by omega) (by omega) (by omega) (by omega), HIN.out]; rfl), HB4.out⟩
      · have hin' : inB cx ax bx = false := by simpa using hin
        have HIN := Lib.hid hin'; clear hin hin'
        go_enter Try.func42, Try.ntmps42
        go_wp2_with fail
        refine (HA.out _).mono ?_
        rintro e w1 ⟨rfl, hb1⟩
        obtain ⟨hc1, hf1⟩ := bcell hb1
        have hz10 : w.heap.size < w1.heap.size := by have := hb1.size; simp at this; omega
        have hz11 : w.heap.size + 1 < w1.heap.size := by have := hb1.size; simp at this; omega
        have hz12 : w.heap.size + 1 + 1 < w1.heap.size := by have := hb1.size; simp at this; omega
        have HB1 := Lib.hid ((below3 w _ _ _).trans (hb1.mono (by simp; try omega)))
        clear hb1
        go_wp2_with fail
        refine (HB.out _).mono ?_
        rintro e w2 ⟨rfl, hb2⟩
        obtain ⟨hc2, hf2⟩ := bcell hb2
        have hz20 : w.heap.size < w2.heap.size := by have := hb2.size; omega
        have hz21 : w.heap.size + 1 < w2.heap.size := by have := hb2.size; omega
        have hz22 : w.heap.size + 1 + 1 < w2.heap.size := by have := hb2.size; omega
        have HB2 := Lib.hid (HB1.out.trans (hb2.mono HB1.out.size))
        clear hb2
        go_wp2_with fail
        refine (HC.out _).mono ?_
        rintro e w3 ⟨rfl, hb3⟩
        obtain ⟨hc3, hf3⟩ := bcell hb3
        have hz30 : w.heap.size < w3.heap.size := by have := hb3.size; omega
        have hz31 : w.heap.size + 1 < w3.heap.size := by have := hb3.size; omega
        have hz32 : w.heap.size + 1 + 1 < w3.heap.size := by have := hb3.size; omega
        have HB3 := Lib.hid (HB2.out.trans (hb3.mono HB2.out.size))
        clear hb3
        go_wp2_with fail
        refine (HT.out _).mono ?_
        rintro e w4 ⟨rfl, hb4⟩
        obtain ⟨hc4, hf4⟩ := bcell hb4
        have hz40 : w.heap.size < w4.heap.size := by have := hb4.size; omega
        have hz41 : w.heap.size + 1 < w4.heap.size := by have := hb4.size; omega
        have hz42 : w.heap.size + 1 + 1 < w4.heap.size := by have := hb4.size; omega
        have HB4 := Lib.hid (HB3.out.trans (hb4.mono HB3.out.size))
        clear hb4
        go_wp2_with fail
        refine (specIn _ _ _ _).mono ?_
        rintro e w' ⟨rfl, rfl⟩
        rw [HIN.out]
        go_wp2_with fail
        go_ret
        exact ⟨ret_bool (by rw [HR.out ax bx ay by' (by omega) (by omega) (by omega) (by omega), HIN.out]; rfl), HB4.out⟩
    · by_cases hin : inB cx ax bx = true
      · have HIN := Lib.hid hin; clear hin
        go_enter Try.func42, Try.ntmps42
        go_wp2_with fail
        refine (HA.out _).mono ?_
        rintro e w1 ⟨rfl, hb1⟩
        obtain ⟨hc1, hf1⟩ := bcell hb1
        have hz10 : w.heap.size < w1.heap.size := by have := hb1.size; simp at this; omega
        have hz11 : w.heap.size + 1 < w1.heap.size := by have := hb1.size; simp at this; omega
        have hz12 : w.heap.size + 1 + 1 < w1.heap.size := by have := hb1.size; simp at this; omega
        have HB1 := Lib.hid ((below3 w _ _ _).trans (hb1.mono (by simp; try omega)))
        clear hb1
        go_wp2_with fail
        refine (HB.out _).mono ?_
        rintro e w2 ⟨rfl, hb2⟩
        obtain ⟨hc2, hf2⟩ := bcell hb2
        have hz20 : w.heap.size < w2.heap.size := by have := hb2.size; omega
        have hz21 : w.heap.size + 1 < w2.heap.size := by have := hb2.size; omega
        have hz22 : w.heap.size + 1 + 1 < w2.heap.size := by have := hb2.size; omega
        have HB2 := Lib.hid (HB1.out.trans (hb2.mono HB1.out.size))
        clear hb2
        go_wp2_with fail
        refine (HC.out _).mono ?_
        rintro e w3 ⟨rfl, hb3⟩
        obtain ⟨hc3, hf3⟩ := bcell hb3
        have hz30 : w.heap.size < w3.heap.size := by have := hb3.size; omega
        have hz31 : w.heap.size + 1 < w3.heap.size := by have := hb3.size; omega
        have hz32 : w.heap.size + 1 + 1 < w3.heap.size := by have := hb3.size; omega
        have HB3 := Lib.hid (HB2.out.trans (hb3.mono HB2.out.size))
        clear hb3
        go_wp2_with fail
        refine (HT.out _).mono ?_
        rintro e w4 ⟨rfl, hb4⟩
        obtain ⟨hc4, hf4⟩ := bcell hb4
        have hz40 : w.heap.size < w4.heap.size := by have := hb4.size; omega
        have hz41 : w.heap.size + 1 < w4.heap.size := by have := hb4.size; omega
        have hz42 : w.heap.size + 1 + 1 < w4.heap.size := by have := hb4.size; omega
        have HB4 := Lib.hid (HB3.out.trans (hb4.mono HB3.out.size))
        clear hb4
        go_wp2_with fail
        refine (specIn _ _ _ _).mono ?_
        rintro e w' ⟨rfl, rfl⟩
        rw [HIN.out]
        go_wp2_with fail
        refine (specIn _ _ _ _).mono ?_
        rintro e w' ⟨rfl, rfl⟩
        go_wp2_with fail
        go_ret
        exact ⟨ret_bool (by rw [HR.out ax bx ay ay (by omega) (by omega) (by omega) (by omega), HIN.out]; rfl), HB4.out⟩
      · have hin' : inB cx ax bx = false := by simpa using hin
        have HIN := Lib.hid hin'; clear hin hin'
        go_enter Try.func42, Try.ntmps42
        go_wp2_with fail
        refine (HA.out _).mono ?_
        rintro e w1 ⟨rfl, hb1⟩
        obtain ⟨hc1, hf1⟩ := bcell hb1
        have hz10 : w.heap.size < w1.heap.size := by have := hb1.size; simp at this; omega
        have hz11 : w.heap.size + 1 < w1.heap.size := by have := hb1.size; simp at this; omega
        have hz12 : w.heap.size + 1 + 1 < w1.heap.size := by have := hb1.size; simp at this; omega
        have HB1 := Lib.hid ((below3 w _ _ _).trans (hb1.mono (by simp; try omega)))
        clear hb1
        go_wp2_with fail
        refine (HB.out _).mono ?_
        rintro e w2 ⟨rfl, hb2⟩
        obtain ⟨hc2, hf2⟩ := bcell hb2
        have hz20 : w.heap.size < w2.heap.size := by have := hb2.size; omega
        have hz21 : w.heap.size + 1 < w2.heap.size := by have := hb2.size; omega
        have hz22 : w.heap.size + 1 + 1 < w2.heap.size := by have := hb2.size; omega
        have HB2 := Lib.hid (HB1.out.trans (hb2.mono HB1.out.size))
        clear hb2
        go_wp2_with fail
        refine (HC.out _).mono ?_
        rintro e w3 ⟨rfl, hb3⟩
        obtain ⟨hc3, hf3⟩ := bcell hb3
        have hz30 : w.heap.size < w3.heap.size := by have := hb3.size; omega
        have hz31 : w.heap.size + 1 < w3.heap.size := by have := hb3.size; omega
        have hz32 : w.heap.size + 1 + 1 < w3.heap.size := by have := hb3.size; omega
        have HB3 := Lib.hid (HB2.out.trans (hb3.mono HB2.out.size))
        clear hb3
        go_wp2_with fail
        refine (HT.out _).mono ?_
        rintro e w4 ⟨rfl, hb4⟩
        obtain ⟨hc4, hf4⟩ := bcell hb4
        have hz40 : w.heap.size < w4.heap.size := by have := hb4.size; omega
        have hz41 : w.heap.size + 1 < w4.heap.size := by have := hb4.size; omega
        have hz42 : w.heap.size + 1 + 1 < w4.heap.size := by have := hb4.size; omega
        have HB4 := Lib.hid (HB3.out.trans (hb4.mono HB3.out.size))
        clear hb4
        go_wp2_with fail
        refine (specIn _ _ _ _).mono ?_
        rintro e w' ⟨rfl, rfl⟩
        rw [HIN.out]
        go_wp2_with fail
        go_ret
        exact ⟨ret_bool (by rw [HR.out ax bx ay ay (by omega) (by omega) (by omega) (by omega), HIN.out]; rfl), HB4.out⟩
    · by_cases hin : inB cx ax bx = true
      · have HIN := Lib.hid hin; clear hin
        go_enter Try.func42, Try.ntmps42
        go_wp2_with fail
        refine (HA.out _).mono ?_
        rintro e w1 ⟨rfl, hb1⟩
        obtain ⟨hc1, hf1⟩ := bcell hb1
        have hz10 : w.heap.size < w1.heap.size := by have := hb1.size; simp at this; omega
        have hz11 : w.heap.size + 1 < w1.heap.size := by have := hb1.size; simp at this; omega
        have hz12 : w.heap.size + 1 + 1 < w1.heap.size := by have := hb1.size; simp at this; omega
        have HB1 := Lib.hid ((below3 w _ _ _).trans (hb1.mono (by simp; try omega)))
        clear hb1
        go_wp2_with fail
        refine (HB.out _).mono ?_
        rintro e w2 ⟨rfl, hb2⟩
        obtain ⟨hc2, hf2⟩ := bcell hb2
        have hz20 : w.heap.size < w2.heap.size := by have := hb2.size; omega
        have hz21 : w.heap.size + 1 < w2.heap.size := by have := hb2.size; omega
        have hz22 : w.heap.size + 1 + 1 < w2.heap.size := by have := hb2.size; omega
        have HB2 := Lib.hid (HB1.out.trans (hb2.mono HB1.out.size))
        clear hb2
        go_wp2_with fail
        refine (HC.out _).mono ?_
        rintro e w3 ⟨rfl, hb3⟩
        obtain ⟨hc3, hf3⟩ := bcell hb3
        have hz30 : w.heap.size < w3.heap.size := by have := hb3.size; omega
        have hz31 : w.heap.size + 1 < w3.heap.size := by have := hb3.size; omega
        have hz32 : w.heap.size + 1 + 1 < w3.heap.size := by have := hb3.size; omega
        have HB3 := Lib.hid (HB2.out.trans (hb3.mono HB2.out.size))
        clear hb3
        go_wp2_with fail
        refine (HT.out _).mono ?_
        rintro e w4 ⟨rfl, hb4⟩
        obtain ⟨hc4, hf4⟩ := bcell hb4
        have hz40 : w.heap.size < w4.heap.size := by have := hb4.size; omega
        have hz41 : w.heap.size + 1 < w4.heap.size := by have := hb4.size; omega
        have hz42 : w.heap.size + 1 + 1 < w4.heap.size := by have := hb4.size; omega
        have HB4 := Lib.hid (HB3.out.trans (hb4.mono HB3.out.size))
        clear hb4
        go_wp2_with fail
        refine (specIn _ _ _ _).mono ?_
        rintro e w' ⟨rfl, rfl⟩
        rw [HIN.out]
        go_wp2_with fail
        refine (specIn _ _ _ _).mono ?_
        rintro e w' ⟨rfl, rfl⟩
        go_wp2_with fail
        go_ret
        exact ⟨ret_bool (by rw [HR.out ax bx by' ay (by omega) (by omega) (by omega) (by omega), HIN.out]; rfl), HB4.out⟩
      · have hin' : inB cx ax bx = false := by simpa using hin
        have HIN := Lib.hid hin'; clear hin hin'
        go_enter Try.func42, Try.ntmps42
        go_wp2_with fail
        refine (HA.out _).mono ?_
        rintro e w1 ⟨rfl, hb1⟩
        obtain ⟨hc1, hf1⟩ := bcell hb1
        have hz10 : w.heap.size < w1.heap.size := by have := hb1.size; simp at this; omega
        have hz11 : w.heap.size + 1 < w1.heap.size := by have := hb1.size; simp at this; omega
        have hz12 : w.heap.size + 1 + 1 < w1.heap.size := by have := hb1.size; simp at this; omega
        have HB1 := Lib.hid ((below3 w _ _ _).trans (hb1.mono (by simp; try omega)))
        clear hb1
        go_wp2_with fail
        refine (HB.out _).mono ?_
        rintro e w2 ⟨rfl, hb2⟩
        obtain ⟨hc2, hf2⟩ := bcell hb2
        have hz20 : w.heap.size < w2.heap.size := by have := hb2.size; omega
        have hz21 : w.heap.size + 1 < w2.heap.size := by have := hb2.size; omega
        have hz22 : w.heap.size + 1 + 1 < w2.heap.size := by have := hb2.size; omega
        have HB2 := Lib.hid (HB1.out.trans (hb2.mono HB1.out.size))
        clear hb2
        go_wp2_with fail
        refine (HC.out _).mono ?_
        rintro e w3 ⟨rfl, hb3⟩
        obtain ⟨hc3, hf3⟩ := bcell hb3
        have hz30 : w.heap.size < w3.heap.size := by have := hb3.size; omega
        have hz31 : w.heap.size + 1 < w3.heap.size := by have := hb3.size; omega
        have hz32 : w.heap.size + 1 + 1 < w3.heap.size := by have := hb3.size; omega
        have HB3 := Lib.hid (HB2.out.trans (hb3.mono HB2.out.size))
        clear hb3
        go_wp2_with fail
        refine (HT.out _).mono ?_
        rintro e w4 ⟨rfl, hb4⟩
        obtain ⟨hc4, hf4⟩ := bcell hb4
        have hz40 : w.heap.size < w4.heap.size := by have := hb4.size; omega
        have hz41 : w.heap.size + 1 < w4.heap.size := by have := hb4.size; omega
        have hz42 : w.heap.size + 1 + 1 < w4.heap.size := by have := hb4.size; omega
        have HB4 := Lib.hid (HB3.out.trans (hb4.mono HB3.out.size))
        clear hb4
        go_wp2_with fail
        refine (specIn _ _ _ _).mono ?_
        rintro e w' ⟨rfl, rfl⟩
        rw [HIN.out]
        go_wp2_with fail
        go_ret
        exact ⟨ret_bool (by rw [HR.out ax bx by' ay (by omega) (by omega) (by omega) (by omega), HIN.out]; rfl), HB4.out⟩
  · rcases Int.lt_trichotomy ay by' with hy | rfl | hy
    · by_cases hin : inB cx ax ax = true
      · have HIN := Lib.hid hin; clear hin
        go_enter Try.func42, Try.ntmps42
        go_wp2_with fail
        refine (HA.out _).mono ?_
        rintro e w1 ⟨rfl, hb1⟩
        obtain ⟨hc1, hf1⟩ := bcell hb1
        have hz10 : w.heap.size < w1.heap.size := by have := hb1.size; simp at this; omega
        have hz11 : w.heap.size + 1 < w1.heap.size := by have := hb1.size; simp at this; omega
        have hz12 : w.heap.size + 1 + 1 < w1.heap.size := by have := hb1.size; simp at this; omega
        have HB1 := Lib.hid ((below3 w _ _ _).trans (hb1.mono (by simp; try omega)))
        clear hb1
        go_wp2_with fail
        refine (HB.out _).mono ?_
        rintro e w2 ⟨rfl, hb2⟩
        obtain ⟨hc2, hf2⟩ := bcell hb2
        have hz20 : w.heap.size < w2.heap.size := by have := hb2.size; omega
        have hz21 : w.heap.size + 1 < w2.heap.size := by have := hb2.size; omega
        have hz22 : w.heap.size + 1 + 1 < w2.heap.size := by have := hb2.size; omega
        have HB2 := Lib.hid (HB1.out.trans (hb2.mono HB1.out.size))
        clear hb2
        go_wp2_with fail
        refine (HC.out _).mono ?_
        rintro e w3 ⟨rfl, hb3⟩
        obtain ⟨hc3, hf3⟩ := bcell hb3
        have hz30 : w.heap.size < w3.heap.size := by have := hb3.size; omega
        have hz31 : w.heap.size + 1 < w3.heap.size := by have := hb3.size; omega
        have hz32 : w.heap.size + 1 + 1 < w3.heap.size := by have := hb3.size; omega
        have HB3 := Lib.hid (HB2.out.trans (hb3.mono HB2.out.size))
        clear hb3
        go_wp2_with fail
        refine (HT.out _).mono ?_
        rintro e w4 ⟨rfl, hb4⟩
        obtain ⟨hc4, hf4⟩ := bcell hb4
        have hz40 : w.heap.size < w4.heap.size := by have := hb4.size; omega
        have hz41 : w.heap.size + 1 < w4.heap.size := by have := hb4.size; omega
        have hz42 : w.heap.size + 1 + 1 < w4.heap.size := by have := hb4.size; omega
        have HB4 := Lib.hid (HB3.out.trans (hb4.mono HB3.out.size))
        clear hb4
        go_wp2_with fail
        refine (specIn _ _ _ _).mono ?_
        rintro e w' ⟨rfl, rfl⟩
        rw [HIN.out]
        go_wp2_with fail
        refine (specIn _ _ _ _).mono ?_
        rintro e w' ⟨rfl, rfl⟩
        go_wp2_with fail
        go_ret
        exact ⟨ret_bool (by rw [HR.out ax ax ay by' (by omega) (by omega) (by omega) (by omega), HIN.out]; rfl), HB4.out⟩
      · have hin' : inB cx ax ax = false := by simpa using hin
        have HIN := Lib.hid hin'; clear hin hin'
        go_enter Try.func42, Try.ntmps42
        go_wp2_with fail
        refine (HA.out _).mono ?_
        rintro e w1 ⟨rfl, hb1⟩
        obtain ⟨hc1, hf1⟩ := bcell hb1
        have hz10 : w.heap.size < w1.heap.size := by have := hb1.size; simp at this; omega
        have hz11 : w.heap.size + 1 < w1.heap.size := by have := hb1.size; simp at this; omega
        have hz12 : w.heap.size + 1 + 1 < w1.heap.size := by have := hb1.size; simp at this; omega
        have HB1 := Lib.hid ((below3 w _ _ _).trans (hb1.mono (by simp; try omega)))
        clear hb1
        go_wp2_with fail
        refine (HB.out _).mono ?_
        rintro e w2 ⟨rfl, hb2⟩
        obtain ⟨hc2, hf2⟩ := bcell hb2
        have hz20 : w.heap.size < w2.heap.size := by have := hb2.size; omega
        have hz21 : w.heap.size + 1 < w2.heap.size := by have := hb2.size; omega
        have hz22 : w.heap.size + 1 + 1 < w2.heap.size := by have := hb2.size; omega
        have HB2 := Lib.hid (HB1.out.trans (hb2.mono HB1.out.size))
        clear hb2
        go_wp2_with fail
        refine (HC.out _).mono ?_
        rintro e w3 ⟨rfl, hb3⟩
        obtain ⟨hc3, hf3⟩ := bcell hb3
        have hz30 : w.heap.size < w3.heap.size := by have := hb3.size; omega
        have hz31 : w.heap.size + 1 < w3.heap.size := by have := hb3.size; omega
        have hz32 : w.heap.size + 1 + 1 < w3.heap.size := by have := hb3.size; omega
        have HB3 := Lib.hid (HB2.out.trans (hb3.mono HB2.out.size))
        clear hb3
        go_wp2_with fail
        refine (HT.out _).mono ?_
        rintro e w4 ⟨rfl, hb4⟩
        obtain ⟨hc4, hf4⟩ := bcell hb4
        have hz40 : w.heap.size < w4.heap.size := by have := hb4.size; omega
        have hz41 : w.heap.size + 1 < w4.heap.size := by have := hb4.size; omega
        have hz42 : w.heap.size + 1 + 1 < w4.heap.size := by have := hb4.size; omega
        have HB4 := Lib.hid (HB3.out.trans (hb4.mono HB3.out.size))
        clear hb4
        go_wp2_with fail
        refine (specIn _ _ _ _).mono ?_
        rintro e w' ⟨rfl, rfl⟩
        rw [HIN.out]
        go_wp2_with fail
        go_ret
        exact ⟨ret_bool (by rw [HR.out ax ax ay by' (by omega) (by omega) (by omega) (by omega), HIN.out]; rfl), HB4.out⟩
    · by_cases hin : inB cx ax ax = true
      · have HIN := Lib.hid hin; clear hin
        go_enter Try.func42, Try.ntmps42
        go_wp2_with fail
        refine (HA.out _).mono ?_
        rintro e w1 ⟨rfl, hb1⟩
        obtain ⟨hc1, hf1⟩ := bcell hb1
        have hz10 : w.heap.size < w1.heap.size := by have := hb1.size; simp at this; omega
        have hz11 : w.heap.size + 1 < w1.heap.size := by have := hb1.size; simp at this; omega
        have hz12 : w.heap.size + 1 + 1 < w1.heap.size := by have := hb1.size; simp at this; omega
        have HB1 := Lib.hid ((below3 w _ _ _).trans (hb1.mono (by simp; try omega)))
        clear hb1
        go_wp2_with fail
        refine (HB.out _).mono ?_
        rintro e w2 ⟨rfl, hb2⟩
        obtain ⟨hc2, hf2⟩ := bcell hb2
        have hz20 : w.heap.size < w2.heap.size := by have := hb2.size; omega
        have hz21 : w.heap.size + 1 < w2.heap.size := by have := hb2.size; omega
        have hz22 : w.heap.size + 1 + 1 < w2.heap.size := by have := hb2.size; omega
        have HB2 := Lib.hid (HB1.out.trans (hb2.mono HB1.out.size))
        clear hb2
        go_wp2_with fail
        refine (HC.out _).mono ?_
        rintro e w3 ⟨rfl, hb3⟩
        obtain ⟨hc3, hf3⟩ := bcell hb3
        have hz30 : w.heap.size < w3.heap.size := by have := hb3.size; omega
        have hz31 : w.heap.size + 1 < w3.heap.size := by have := hb3.size; omega
        have hz32 : w.heap.size + 1 + 1 < w3.heap.size := by have := hb3.size; omega
        have HB3 := Lib.hid (HB2.out.trans (hb3.mono HB2.out.size))
        clear hb3
        go_wp2_with fail
        refine (HT.out _).mono ?_
        rintro e w4 ⟨rfl, hb4⟩
        obtain ⟨hc4, hf4⟩ := bcell hb4
        have hz40 : w.heap.size < w4.heap.size := by have := hb4.size; omega
        have hz41 : w.heap.size + 1 < w4.heap.size := by have := hb4.size; omega
        have hz42 : w.heap.size + 1 + 1 < w4.heap.size := by have := hb4.size; omega
        have HB4 := Lib.hid (HB3.out.trans (hb4.mono HB3.out.size))
        clear hb4
        go_wp2_with fail
        refine (specIn _ _ _ _).mono ?_
        rintro e w' ⟨rfl, rfl⟩
        rw [HIN.out]
        go_wp2_with fail
        refine (specIn _ _ _ _).mono ?_
        rintro e w' ⟨rfl, rfl⟩
        go_wp2_with fail
        go_ret
        exact ⟨ret_bool (by rw [HR.out ax ax ay ay (by omega) (by omega) (by omega) (by omega), HIN.out]; rfl), HB4.out⟩
      · have hin' : inB cx ax ax = false := by simpa using hin
        have HIN := Lib.hid hin'; clear hin hin'
        go_enter Try.func42, Try.ntmps42
        go_wp2_with fail
        refine (HA.out _).mono ?_
        rintro e w1 ⟨rfl, hb1⟩
        obtain ⟨hc1, hf1⟩ := bcell hb1
        have hz10 : w.heap.size < w1.heap.size := by have := hb1.size; simp at this; omega
        have hz11 : w.heap.size + 1 < w1.heap.size := by have := hb1.size; simp at this; omega
        have hz12 : w.heap.size + 1 + 1 < w1.heap.size := by have := hb1.size; simp at this; omega
        have HB1 := Lib.hid ((below3 w _ _ _).trans (hb1.mono (by simp; try omega)))
        clear hb1
        go_wp2_with fail
        refine (HB.out _).mono ?_
        rintro e w2 ⟨rfl, hb2⟩
        obtain ⟨hc2, hf2⟩ := bcell hb2
        have hz20 : w.heap.size < w2.heap.size := by have := hb2.size; omega
        have hz21 : w.heap.size + 1 < w2.heap.size := by have := hb2.size; omega
        have hz22 : w.heap.size + 1 + 1 < w2.heap.size := by have := hb2.size; omega
        have HB2 := Lib.hid (HB1.out.trans (hb2.mono HB1.out.size))
        clear hb2
        go_wp2_with fail
        refine (HC.out _).mono ?_
        rintro e w3 ⟨rfl, hb3⟩
        obtain ⟨hc3, hf3⟩ := bcell hb3
        have hz30 : w.heap.size < w3.heap.size := by have := hb3.size; omega
        have hz31 : w.heap.size + 1 < w3.heap.size := by have := hb3.size; omega
        have hz32 : w.heap.size + 1 + 1 < w3.heap.size := by have := hb3.size; omega
        have HB3 := Lib.hid (HB2.out.trans (hb3.mono HB2.out.size))
        clear hb3
        go_wp2_with fail
        refine (HT.out _).mono ?_
        rintro e w4 ⟨rfl, hb4⟩
        obtain ⟨hc4, hf4⟩ := bcell hb4
        have hz40 : w.heap.size < w4.heap.size := by have := hb4.size; omega
        have hz41 : w.heap.size + 1 < w4.heap.size := by have := hb4.size; omega
        have hz42 : w.heap.size + 1 + 1 < w4.heap.size := by have := hb4.size; omega
        have HB4 := Lib.hid (HB3.out.trans (hb4.mono HB3.out.size))
        clear hb4
        go_wp2_with fail
        refine (specIn _ _ _ _).mono ?_
        rintro e w' ⟨rfl, rfl⟩
        rw [HIN.out]
        go_wp2_with fail
        go_ret
        exact ⟨ret_bool (by rw [HR.out ax ax ay ay (by omega) (by omega) (by omega) (by omega), HIN.out]; rfl), HB4.out⟩
    · by_cases hin : inB cx ax ax = true
      · have HIN := Lib.hid hin; clear hin
        go_enter Try.func42, Try.ntmps42
        go_wp2_with fail
        refine (HA.out _).mono ?_
        rintro e w1 ⟨rfl, hb1⟩
        obtain ⟨hc1, hf1⟩ := bcell hb1
        have hz10 : w.heap.size < w1.heap.size := by have := hb1.size; simp at this; omega
        have hz11 : w.heap.size + 1 < w1.heap.size := by have := hb1.size; simp at this; omega
        have hz12 : w.heap.size + 1 + 1 < w1.heap.size := by have := hb1.size; simp at this; omega
        have HB1 := Lib.hid ((below3 w _ _ _).trans (hb1.mono (by simp; try omega)))
        clear hb1
        go_wp2_with fail
        refine (HB.out _).mono ?_
        rintro e w2 ⟨rfl, hb2⟩
        obtain ⟨hc2, hf2⟩ := bcell hb2
        have hz20 : w.heap.size < w2.heap.size := by have := hb2.size; omega
        have hz21 : w.heap.size + 1 < w2.heap.size := by have := hb2.size; omega
        have hz22 : w.heap.size + 1 + 1 < w2.heap.size := by have := hb2.size; omega
        have HB2 := Lib.hid (HB1.out.trans (hb2.mono HB1.out.size))
        clear hb2
        go_wp2_with fail
        refine (HC.out _).mono ?_
        rintro e w3 ⟨rfl, hb3⟩
        obtain ⟨hc3, hf3⟩ := bcell hb3
        have hz30 : w.heap.size < w3.heap.size := by have := hb3.size; omega
        have hz31 : w.heap.size + 1 < w3.heap.size := by have := hb3.size; omega
        have hz32 : w.heap.size + 1 + 1 < w3.heap.size := by have := hb3.size; omega
        have HB3 := Lib.hid (HB2.out.trans (hb3.mono HB2.out.size))
        clear hb3
        go_wp2_with fail
        refine (HT.out _).mono ?_
        rintro e w4 ⟨rfl, hb4⟩
        obtain ⟨hc4, hf4⟩ := bcell hb4
        have hz40 : w.heap.size < w4.heap.size := by have := hb4.size; omega
        have hz41 : w.heap.size + 1 < w4.heap.size := by have := hb4.size; omega
        have hz42 : w.heap.size + 1 + 1 < w4.heap.size := by have := hb4.size; omega
        have HB4 := Lib.hid (HB3.out.trans (hb4.mono HB3.out.size))
        clear hb4
        go_wp2_with fail
        refine (specIn _ _ _ _).mono ?_
        rintro e w' ⟨rfl, rfl⟩
        rw [HIN.out]
        go_wp2_with fail
        refine (specIn _ _ _ _).mono ?_
        rintro e w' ⟨rfl, rfl⟩
        go_wp2_with fail
        go_ret
        exact ⟨ret_bool (by rw [HR.out ax ax by' ay (by omega) (by omega) (by omega) (by omega), HIN.out]; rfl), HB4.out⟩
      · have hin' : inB cx ax ax = false := by simpa using hin
        have HIN := Lib.hid hin'; clear hin hin'
        go_enter Try.func42, Try.ntmps42
        go_wp2_with fail
        refine (HA.out _).mono ?_
        rintro e w1 ⟨rfl, hb1⟩
        obtain ⟨hc1, hf1⟩ := bcell hb1
        have hz10 : w.heap.size < w1.heap.size := by have := hb1.size; simp at this; omega
        have hz11 : w.heap.size + 1 < w1.heap.size := by have := hb1.size; simp at this; omega
        have hz12 : w.heap.size + 1 + 1 < w1.heap.size := by have := hb1.size; simp at this; omega
        have HB1 := Lib.hid ((below3 w _ _ _).trans (hb1.mono (by simp; try omega)))
        clear hb1
        go_wp2_with fail
        refine (HB.out _).mono ?_
        rintro e w2 ⟨rfl, hb2⟩
        obtain ⟨hc2, hf2⟩ := bcell hb2
        have hz20 : w.heap.size < w2.heap.size := by have := hb2.size; omega
        have hz21 : w.heap.size + 1 < w2.heap.size := by have := hb2.size; omega
        have hz22 : w.heap.size + 1 + 1 < w2.heap.size := by have := hb2.size; omega
        have HB2 := Lib.hid (HB1.out.trans (hb2.mono HB1.out.size))
        clear hb2
        go_wp2_with fail
        refine (HC.out _).mono ?_
        rintro e w3 ⟨rfl, hb3⟩
        obtain ⟨hc3, hf3⟩ := bcell hb3
        have hz30 : w.heap.size < w3.heap.size := by have := hb3.size; omega
        have hz31 : w.heap.size + 1 < w3.heap.size := by have := hb3.size; omega
        have hz32 : w.heap.size + 1 + 1 < w3.heap.size := by have := hb3.size; omega
        have HB3 := Lib.hid (HB2.out.trans (hb3.mono HB2.out.size))
        clear hb3
        go_wp2_with fail
        refine (HT.out _).mono ?_
        rintro e w4 ⟨rfl, hb4⟩
        obtain ⟨hc4, hf4⟩ := bcell hb4
        have hz40 : w.heap.size < w4.heap.size := by have := hb4.size; omega
        have hz41 : w.heap.size + 1 < w4.heap.size := by have := hb4.size; omega
        have hz42 : w.heap.size + 1 + 1 < w4.heap.size := by have := hb4.size; omega
        have HB4 := Lib.hid (HB3.out.trans (hb4.mono HB3.out.size))
        clear hb4
        go_wp2_with fail
        refine (specIn _ _ _ _).mono ?_
        rintro e w' ⟨rfl, rfl⟩
        rw [HIN.out]
        go_wp2_with fail
        go_ret
        exact ⟨ret_bool (by rw [HR.out ax ax by' ay (by omega) (by omega) (by omega) (by omega), HIN.out]; rfl), HB4.out⟩
  · rcases Int.lt_trichotomy ay by' with hy | rfl | hy
    · by_cases hin : inB cx bx ax = true
      · have HIN := Lib.hid hin; clear hin
        go_enter Try.func42, Try.ntmps42
        go_wp2_with fail
        refine (HA.out _).mono ?_
        rintro e w1 ⟨rfl, hb1⟩
        obtain ⟨hc1, hf1⟩ := bcell hb1
        have hz10 : w.heap.size < w1.heap.size := by have := hb1.size; simp at this; omega
        have hz11 : w.heap.size + 1 < w1.heap.size := by have := hb1.size; simp at this; omega
        have hz12 : w.heap.size + 1 + 1 < w1.heap.size := by have := hb1.size; simp at this; omega
        have HB1 := Lib.hid ((below3 w _ _ _).trans (hb1.mono (by simp; try omega)))
        clear hb1
        go_wp2_with fail
        refine (HB.out _).mono ?_
        rintro e w2 ⟨rfl, hb2⟩
        obtain ⟨hc2, hf2⟩ := bcell hb2
        have hz20 : w.heap.size < w2.heap.size := by have := hb2.size; omega
        have hz21 : w.heap.size + 1 < w2.heap.size := by have := hb2.size; omega
        have hz22 : w.heap.size + 1 + 1 < w2.heap.size := by have := hb2.size; omega
        have HB2 := Lib.hid (HB1.out.trans (hb2.mono HB1.out.size))
        clear hb2
        go_wp2_with fail
        refine (HC.out _).mono ?_
        rintro e w3 ⟨rfl, hb3⟩
        obtain ⟨hc3, hf3⟩ := bcell hb3
        have hz30 : w.heap.size < w3.heap.size := by have := hb3.size; omega
        have hz31 : w.heap.size + 1 < w3.heap.size := by have := hb3.size; omega
        have hz32 : w.heap.size + 1 + 1 < w3.heap.size := by have := hb3.size; omega
        have HB3 := Lib.hid (HB2.out.trans (hb3.mono HB2.out.size))
        clear hb3
        go_wp2_with fail
        refine (HT.out _).mono ?_
        rintro e w4 ⟨rfl, hb4⟩
        obtain ⟨hc4, hf4⟩ := bcell hb4
        have hz40 : w.heap.size < w4.heap.size := by have := hb4.size; omega
        have hz41 : w.heap.size + 1 < w4.heap.size := by have := hb4.size; omega
        have hz42 : w.heap.size + 1 + 1 < w4.heap.size := by have := hb4.size; omega
        have HB4 := Lib.hid (HB3.out.trans (hb4.mono HB3.out.size))
        clear hb4
        go_wp2_with fail
        refine (specIn _ _ _ _).mono ?_
        rintro e w' ⟨rfl, rfl⟩
        rw [HIN.out]
        go_wp2_with fail
        refine (specIn _ _ _ _).mono ?_
        rintro e w' ⟨rfl, rfl⟩
        go_wp2_with fail
        go_ret
        exact ⟨ret_bool (by rw [HR.out bx ax ay by' (by omega) (by omega) (by omega) (by omega), HIN.out]; rfl), HB4.out⟩
      · have hin' : inB cx bx ax = false := by simpa using hin
        have HIN := Lib.hid hin'; clear hin hin'
        go_enter Try.func42, Try.ntmps42
        go_wp2_with fail
        refine (HA.out _).mono ?_
        rintro e w1 ⟨rfl, hb1⟩
        obtain ⟨hc1, hf1⟩ := bcell hb1
        have hz10 : w.heap.size < w1.heap.size := by have := hb1.size; simp at this; omega
        have hz11 : w.heap.size + 1 < w1.heap.size := by have := hb1.size; simp at this; omega
        have hz12 : w.heap.size + 1 + 1 < w1.heap.size := by have := hb1.size; simp at this; omega
        have HB1 := Lib.hid ((below3 w _ _ _).trans (hb1.mono (by simp; try omega)))
        clear hb1
        go_wp2_with fail
        refine (HB.out _).mono ?_
        rintro e w2 ⟨rfl, hb2⟩
        obtain ⟨hc2, hf2⟩ := bcell hb2
        have hz20 : w.heap.size < w2.heap.size := by have := hb2.size; omega
        have hz21 : w.heap.size + 1 < w2.heap.size := by have := hb2.size; omega
        have hz22 : w.heap.size + 1 + 1 < w2.heap.size := by have := hb2.size; omega
        have HB2 := Lib.hid (HB1.out.trans (hb2.mono HB1.out.size))
        clear hb2
        go_wp2_with fail
        refine (HC.out _).mono ?_
        rintro e w3 ⟨rfl, hb3⟩
        obtain ⟨hc3, hf3⟩ := bcell hb3
        have hz30 : w.heap.size < w3.heap.size := by have := hb3.size; omega
        have hz31 : w.heap.size + 1 < w3.heap.size := by have := hb3.size; omega
        have hz32 : w.heap.size + 1 + 1 < w3.heap.size := by have := hb3.size; omega
        have HB3 := Lib.hid (HB2.out.trans (hb3.mono HB2.out.size))
        clear hb3
        go_wp2_with fail
        refine (HT.out _).mono ?_
        rintro e w4 ⟨rfl, hb4⟩
        obtain ⟨hc4, hf4⟩ := bcell hb4
        have hz40 : w.heap.size < w4.heap.size := by have := hb4.size; omega
        have hz41 : w.heap.size + 1 < w4.heap.size := by have := hb4.size; omega
        have hz42 : w.heap.size + 1 + 1 < w4.heap.size := by have := hb4.size; omega
        have HB4 := Lib.hid (HB3.out.trans (hb4.mono HB3.out.size))
        clear hb4
        go_wp2_with fail
        refine (specIn _ _ _ _).mono ?_
        rintro e w' ⟨rfl, rfl⟩
        rw [HIN.out]
        go_wp2_with fail
        go_ret
        exact ⟨ret_bool (by rw [HR.out bx ax ay by' (by omega) (by omega) (by omega) (by omega), HIN.out]; rfl), HB4.out⟩
    · by_cases hin : inB cx bx ax = true
      · have HIN := Lib.hid hin; clear hin
        go_enter Try.func42, Try.ntmps42
        go_wp2_with fail
        refine (HA.out _).mono ?_
        rintro e w1 ⟨rfl, hb1⟩
        obtain ⟨hc1, hf1⟩ := bcell hb1
        have hz10 : w.heap.size < w1.heap.size := by have := hb1.size; simp at this; omega
        have hz11 : w.heap.size + 1 < w1.heap.size := by have := hb1.size; simp at this; omega
        have hz12 : w.heap.size + 1 + 1 < w1.heap.size := by have := hb1.size; simp at this; omega
        have HB1 := Lib.hid ((below3 w _ _ _).trans (hb1.mono (by simp; try omega)))
        clear hb1
        go_wp2_with fail
        refine (HB.out _).mono ?_
        rintro e w2 ⟨rfl, hb2⟩
        obtain ⟨hc2, hf2⟩ := bcell hb2
        have hz20 : w.heap.size < w2.heap.size := by have := hb2.size; omega
        have hz21 : w.heap.size + 1 < w2.heap.size := by have := hb2.size; omega
        have hz22 : w.heap.size + 1 + 1 < w2.heap.size := by have := hb2.size; omega
        have HB2 := Lib.hid (HB1.out.trans (hb2.mono HB1.out.size))
        clear hb2
        go_wp2_with fail
        refine (HC.out _).mono ?_
        rintro e w3 ⟨rfl, hb3⟩
        obtain ⟨hc3, hf3⟩ := bcell hb3
        have hz30 : w.heap.size < w3.heap.size := by have := hb3.size; omega
        have hz31 : w.heap.size + 1 < w3.heap.size := by have := hb3.size; omega
        have hz32 : w.heap.size + 1 + 1 < w3.heap.size := by have := hb3.size; omega
        have HB3 := Lib.hid (HB2.out.trans (hb3.mono HB2.out.size))
        clear hb3
        go_wp2_with fail
        refine (HT.out _).mono ?_
        rintro e w4 ⟨rfl, hb4⟩
        obtain ⟨hc4, hf4⟩ := bcell hb4
        have hz40 : w.heap.size < w4.heap.size := by have := hb4.size; omega
        have hz41 : w.heap.size + 1 < w4.heap.size := by have := hb4.size; omega
        have hz42 : w.heap.size + 1 + 1 < w4.heap.size := by have := hb4.size; omega
        have HB4 := Lib.hid (HB3.out.trans (hb4.mono HB3.out.size))
        clear hb4
        go_wp2_with fail
        refine (specIn _ _ _ _).mono ?_
        rintro e w' ⟨rfl, rfl⟩
        rw [HIN.out]
        go_wp2_with fail
        refine (specIn _ _ _ _).mono ?_
        rintro e w' ⟨rfl, rfl⟩
        go_wp2_with fail
        go_ret
        exact ⟨ret_bool (by rw [HR.out bx ax ay ay (by omega) (by omega) (by omega) (by omega), HIN.out]; rfl), HB4.out⟩
      · have hin' : inB cx bx ax = false := by simpa using hin
        have HIN := Lib.hid hin'; clear hin hin'
        go_enter Try.func42, Try.ntmps42
        go_wp2_with fail
        refine (HA.out _).mono ?_
        rintro e w1 ⟨rfl, hb1⟩
        obtain ⟨hc1, hf1⟩ := bcell hb1
        have hz10 : w.heap.size < w1.heap.size := by have := hb1.size; simp at this; omega
        have hz11 : w.heap.size + 1 < w1.heap.size := by have := hb1.size; simp at this; omega
        have hz12 : w.heap.size + 1 + 1 < w1.heap.size := by have := hb1.size; simp at this; omega
        have HB1 := Lib.hid ((below3 w _ _ _).trans (hb1.mono (by simp; try omega)))
        clear hb1
        go_wp2_with fail
        refine (HB.out _).mono ?_
        rintro e w2 ⟨rfl, hb2⟩
        obtain ⟨hc2, hf2⟩ := bcell hb2
        have hz20 : w.heap.size < w2.heap.size := by have := hb2.size; omega
        have hz21 : w.heap.size + 1 < w2.heap.size := by have := hb2.size; omega
        have hz22 : w.heap.size + 1 + 1 < w2.heap.size := by have := hb2.size; omega
        have HB2 := Lib.hid (HB1.out.trans (hb2.mono HB1.out.size))
        clear hb2
        go_wp2_with fail
        refine (HC.out _).mono ?_
        rintro e w3 ⟨rfl, hb3⟩
        obtain ⟨hc3, hf3⟩ := bcell hb3
        have hz30 : w.heap.size < w3.heap.size := by have := hb3.size; omega
        have hz31 : w.heap.size + 1 < w3.heap.size := by have := hb3.size; omega
        have hz32 : w.heap.size + 1 + 1 < w3.heap.size := by have := hb3.size; omega
        have HB3 := Lib.hid (HB2.out.trans (hb3.mono HB2.out.size))
        clear hb3
        go_wp2_with fail
        refine (HT.out _).mono ?_
        rintro e w4 ⟨rfl, hb4⟩
        obtain ⟨hc4, hf4⟩ := bcell hb4
        have hz40 : w.heap.size < w4.heap.size := by have := hb4.size; omega
        have hz41 : w.heap.size + 1 < w4.heap.size := by have := hb4.size; omega
        have hz42 : w.heap.size + 1 + 1 < w4.heap.size := by have := hb4.size; omega
        have HB4 := Lib.hid (HB3.out.trans (hb4.mono HB3.out.size))
        clear hb4
        go_wp2_with fail
        refine (specIn _ _ _ _).mono ?_
        rintro e w' ⟨rfl, rfl⟩
        rw [HIN.out]
        go_wp2_with fail
        go_ret
        exact ⟨ret_bool (by rw [HR.out bx ax ay ay (by omega) (by omega) (by omega) (by omega), HIN.out]; rfl), HB4.out⟩
    · by_cases hin : inB cx bx ax = true
      · have HIN := Lib.hid hin; clear hin
        go_enter Try.func42, Try.ntmps42
        go_wp2_with fail
        refine (HA.out _).mono ?_
        rintro e w1 ⟨rfl, hb1⟩
        obtain ⟨hc1, hf1⟩ := bcell hb1
        have hz10 : w.heap.size < w1.heap.size := by have := hb1.size; simp at this; omega
        have hz11 : w.heap.size + 1 < w1.heap.size := by have := hb1.size; simp at this; omega
        have hz12 : w.heap.size + 1 + 1 < w1.heap.size := by have := hb1.size; simp at this; omega
        have HB1 := Lib.hid ((below3 w _ _ _).trans (hb1.mono (by simp; try omega)))
        clear hb1
        go_wp2_with fail
        refine (HB.out _).mono ?_
        rintro e w2 ⟨rfl, hb2⟩
        obtain ⟨hc2, hf2⟩ := bcell hb2
        have hz20 : w.heap.size < w2.heap.size := by have := hb2.size; omega
        have hz21 : w.heap.size + 1 < w2.heap.size := by have := hb2.size; omega
        have hz22 : w.heap.size + 1 + 1 < w2.heap.size := by have := hb2.size; omega
        have HB2 := Lib.hid (HB1.out.trans (hb2.mono HB1.out.size))
        clear hb2
        go_wp2_with fail
        refine (HC.out _).mono ?_
        rintro e w3 ⟨rfl, hb3⟩
        obtain ⟨hc3, hf3⟩ := bcell hb3
        have hz30 : w.heap.size < w3.heap.size := by have := hb3.size; omega
        have hz31 : w.heap.size + 1 < w3.heap.size := by have := hb3.size; omega
        have hz32 : w.heap.size + 1 + 1 < w3.heap.size := by have := hb3.size; omega
        have HB3 := Lib.hid (HB2.out.trans (hb3.mono HB2.out.size))
        clear hb3
        go_wp2_with fail
        refine (HT.out _).mono ?_
        rintro e w4 ⟨rfl, hb4⟩
        obtain ⟨hc4, hf4⟩ := bcell hb4
        have hz40 : w.heap.size < w4.heap.size := by have := hb4.size; omega
        have hz41 : w.heap.size + 1 < w4.heap.size := by have := hb4.size; omega
        have hz42 : w.heap.size + 1 + 1 < w4.heap.size := by have := hb4.size; omega
        have HB4 := Lib.hid (HB3.out.trans (hb4.mono HB3.out.size))
        clear hb4
        go_wp2_with fail
        refine (specIn _ _ _ _).mono ?_
        rintro e w' ⟨rfl, rfl⟩
        rw [HIN.out]
        go_wp2_with fail
        refine (specIn _ _ _ _).mono ?_
        rintro e w' ⟨rfl, rfl⟩
        go_wp2_with fail
        go_ret
        exact ⟨ret_bool (by rw [HR.out bx ax by' ay (by omega) (by omega) (by omega) (by omega), HIN.out]; rfl), HB4.out⟩
      · have hin' : inB cx bx ax = false := by simpa using hin
        have HIN := Lib.hid hin'; clear hin hin'
        go_enter Try.func42, Try.ntmps42
        go_wp2_with fail
        refine (HA.out _).mono ?_
        rintro e w1 ⟨rfl, hb1⟩
        obtain ⟨hc1, hf1⟩ := bcell hb1
        have hz10 : w.heap.size < w1.heap.size := by have := hb1.size; simp at this; omega
        have hz11 : w.heap.size + 1 < w1.heap.size := by have := hb1.size; simp at this; omega
        have hz12 : w.heap.size + 1 + 1 < w1.heap.size := by have := hb1.size; simp at this; omega
        have HB1 := Lib.hid ((below3 w _ _ _).trans (hb1.mono (by simp; try omega)))
        clear hb1
        go_wp2_with fail
        refine (HB.out _).mono ?_
        rintro e w2 ⟨rfl, hb2⟩
        obtain ⟨hc2, hf2⟩ := bcell hb2
        have hz20 : w.heap.size < w2.heap.size := by have := hb2.size; omega
        have hz21 : w.heap.size + 1 < w2.heap.size := by have := hb2.size; omega
        have hz22 : w.heap.size + 1 + 1 < w2.heap.size := by have := hb2.size; omega
        have HB2 := Lib.hid (HB1.out.trans (hb2.mono HB1.out.size))
        clear hb2
        go_wp2_with fail
        refine (HC.out _).mono ?_
        rintro e w3 ⟨rfl, hb3⟩
        obtain ⟨hc3, hf3⟩ := bcell hb3
        have hz30 : w.heap.size < w3.heap.size := by have := hb3.size; omega
        have hz31 : w.heap.size + 1 < w3.heap.size := by have := hb3.size; omega
        have hz32 : w.heap.size + 1 + 1 < w3.heap.size := by have := hb3.size; omega
        have HB3 := Lib.hid (HB2.out.trans (hb3.mono HB2.out.size))
        clear hb3
        go_wp2_with fail
        refine (HT.out _).mono ?_
        rintro e w4 ⟨rfl, hb4⟩
        obtain ⟨hc4, hf4⟩ := bcell hb4
        have hz40 : w.heap.size < w4.heap.size := by have := hb4.size; omega
        have hz41 : w.heap.size + 1 < w4.heap.size := by have := hb4.size; omega
        have hz42 : w.heap.size + 1 + 1 < w4.heap.size := by have := hb4.size; omega
        have HB4 := Lib.hid (HB3.out.trans (hb4.mono HB3.out.size))
        clear hb4
        go_wp2_with fail
        refine (specIn _ _ _ _).mono ?_
        rintro e w' ⟨rfl, rfl⟩
        rw [HIN.out]
        go_wp2_with fail
        go_ret
        exact ⟨ret_bool (by rw [HR.out bx ax by' ay (by omega) (by omega) (by omega) (by omega), HIN.out]; rfl), HB4.out⟩

theorem specBetween (a b c : Nd) (w : World) :
    Calls Try.prog 42 #[a.val, b.val, c.val] w (BoolIs (betweenB a b c) w) := by
  unfold betweenB
  cases ha : okB a
  · simpa using between_a a b c w ha
  cases hb : okB b
  · simpa using between_b a b c w ha hb
  cases hc : okB c
  · simpa using between_c a b c w ha hb hc
  by_cases h1 : a = b
  · simpa [h1] using between_ab a b c w ha hb hc h1
  by_cases h2 : b = c
  · simpa [h1, h2] using between_bc a b c w ha hb hc h1 h2
  by_cases h3 : a = c
  · simpa [h1, h2, h3] using between_ac a b c w ha hb hc h1 h2 h3
  by_cases h4 : turnI a b c = 0
  · simpa [h1, h2, h3, h4] using between_on a b c w ha hb hc h1 h2 h3 h4
  · simpa [h1, h2, h3, h4] using between_t a b c w ha hb hc h1 h2 h3 h4
end Go.Proofs.Ytemblmcfbonjoaa
