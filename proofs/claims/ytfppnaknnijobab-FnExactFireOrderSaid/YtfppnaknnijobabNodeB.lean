/-
  What the model's IsBetween returns.
-/
import Derived.Test.YtfppnaknnijobabNode
import Derived.Test.YtfppnaknnijobabHeld
import Derived.Laws.StructEq
namespace Go.Proofs.Ytfppnaknnijobab
open Go.RowKit
set_option linter.unusedVariables false
set_option linter.unusedSimpArgs false

theorem eqNd (a b : Nd) (w : World) : (Op.equalIn 10000 82 (.agg #[.int .i64 a.x, .int .i64 a.y]) (.agg #[.int .i64 b.x, .int .i64 b.y])).run Try.prog w = .ok (decide (a = b)) w := by
  obtain ⟨ax, ay⟩ := a
  obtain ⟨bx, by'⟩ := b
  simp only [Nd.mk.injEq]
  by_cases h1 : ax = bx
  · subst h1
    by_cases h2 : ay = by'
    · subst h2; go_simp
    · have h3 : (ay == by') = false := by rw [beq_eq_false_iff_ne]; exact h2
      go_simp
  · have h3 : (ax == bx) = false := by rw [beq_eq_false_iff_ne]; exact h1
    go_simp

theorem min_if (a b : Int) : (if b < a then b else a) = min a b := by split <;> omega

theorem max_if (a b : Int) : (if a < b then b else a) = max a b := by split <;> omega

/-- Three, two, one boxed nodes. -/
def B3 (w : World) (a b c : Nd) : List (Nat × Nat × Value) := [(w.heap.size, 0, .int .i64 a.x), (w.heap.size, 1, .int .i64 a.y), (w.heap.size + 1, 0, .int .i64 b.x), (w.heap.size + 1, 1, .int .i64 b.y), (w.heap.size + 1 + 1, 0, .int .i64 c.x), (w.heap.size + 1 + 1, 1, .int .i64 c.y)]
def B2 (w : World) (a b : Nd) : List (Nat × Nat × Value) := [(w.heap.size, 0, .int .i64 a.x), (w.heap.size, 1, .int .i64 a.y), (w.heap.size + 1, 0, .int .i64 b.x), (w.heap.size + 1, 1, .int .i64 b.y)]
def B1 (w : World) (a : Nd) : List (Nat × Nat × Value) := [(w.heap.size, 0, .int .i64 a.x), (w.heap.size, 1, .int .i64 a.y)]
theorem held3 (w : World) (a b c : Nd) (T : TypeId) : Held w (((w.alloc (.cells #[.int .i64 a.x, .int .i64 a.y] T)).alloc (.cells #[.int .i64 b.x, .int .i64 b.y] T)).alloc (.cells #[.int .i64 c.x, .int .i64 c.y] T)) (B3 w a b c) := by
  refine ⟨⟨?_, ?_, ?_, ?_, ?_, ?_, trivial⟩, ⟨?_, ?_, ?_, ?_, ?_, ?_, trivial⟩, below3 w _ _ _⟩ <;> (try simp) <;> go_simp
theorem held2 (w : World) (a b : Nd) (T U : TypeId) : Held w ((w.alloc (.cells #[.int .i64 a.x, .int .i64 a.y] T)).alloc (.cells #[.int .i64 b.x, .int .i64 b.y] U)) (B2 w a b) := by
  refine ⟨⟨?_, ?_, ?_, ?_, trivial⟩, ⟨?_, ?_, ?_, ?_, trivial⟩, below2 w _ _⟩ <;> (try simp) <;> go_simp
theorem held1 (w : World) (a : Nd) (T : TypeId) : Held w (w.alloc (.cells #[.int .i64 a.x, .int .i64 a.y] T)) (B1 w a) := by
  refine ⟨⟨?_, ?_, trivial⟩, ⟨?_, ?_, trivial⟩, (Below.refl _ _).alloc (Nat.le_refl _) _⟩ <;> (try simp) <;> go_simp

end Go.Proofs.Ytfppnaknnijobab
