/-
  What the model's DoCross returns.
-/
import Derived.Test.YtfppnaknnijobabLead
namespace Go.Proofs.Ytfppnaknnijobab
open Go.RowKit
set_option linter.unusedVariables false
set_option linter.unusedSimpArgs false

/-- Two boxed leads, and four pairs of a slice. -/
theorem held_two {w : World} {b o : Nat} {xs : List Nd} (h : CellsAt w b o xs) (hb : b < w.heap.size) {i j p q : Nat} (hi : i < xs.length) (hj : j < xs.length) (hp : p < xs.length) (hq : q < xs.length) (l m : Nd) (T : TypeId) :
    Held w ((w.alloc (.cells #[.int .i64 l.x, .int .i64 l.y] T)).alloc (.cells #[.int .i64 m.x, .int .i64 m.y] T)) (newFs (w.heap.size + 1) 0 [.int .i64 m.x, .int .i64 m.y] ++ (newFs w.heap.size 0 [.int .i64 l.x, .int .i64 l.y] ++ (P1 b o xs i ++ (P1 b o xs j ++ (P1 b o xs p ++ P1 b o xs q))))) :=
  ((Held.start ((P1_cs h hi).append ((P1_cs h hj).append ((P1_cs h hp).append (P1_cs h hq)))) ((P1_bs hb).append ((P1_bs hb).append ((P1_bs hb).append (P1_bs hb))))).new2 w.heap.size rfl [.int .i64 l.x, .int .i64 l.y] T).new2 (w.heap.size + 1) (by simp) [.int .i64 m.x, .int .i64 m.y] T

/-- Four nodes boxed one behind the other. -/
theorem held_four {w W : World} {fs : List (Nat × Nat × Value)} (h : Held w W fs) (a b c d : Nd) (T : TypeId) :
    Held w ((((W.alloc (.cells #[.int .i64 a.x, .int .i64 a.y] T)).alloc (.cells #[.int .i64 b.x, .int .i64 b.y] T)).alloc (.cells #[.int .i64 c.x, .int .i64 c.y] T)).alloc (.cells #[.int .i64 d.x, .int .i64 d.y] T))
      [(W.heap.size, 0, .int .i64 a.x), (W.heap.size, 1, .int .i64 a.y), (W.heap.size + 1, 0, .int .i64 b.x), (W.heap.size + 1, 1, .int .i64 b.y),
       (W.heap.size + 1 + 1, 0, .int .i64 c.x), (W.heap.size + 1 + 1, 1, .int .i64 c.y), (W.heap.size + 1 + 1 + 1, 0, .int .i64 d.x), (W.heap.size + 1 + 1 + 1, 1, .int .i64 d.y)] := by
  have k := (((h.drop.new2 W.heap.size rfl [.int .i64 a.x, .int .i64 a.y] T).new2 (W.heap.size + 1) (by simp) [.int .i64 b.x, .int .i64 b.y] T).new2 (W.heap.size + 1 + 1) (by simp) [.int .i64 c.x, .int .i64 c.y] T).new2 (W.heap.size + 1 + 1 + 1) (by simp) [.int .i64 d.x, .int .i64 d.y] T
  obtain ⟨⟨d0, d1, c0, c1, b0, b1, a0, a1, _⟩, ⟨d2, _, c2, _, b2, _, a2, _, _⟩, hb⟩ := k
  exact ⟨⟨a0, a1, b0, b1, c0, c1, d0, d1, trivial⟩, ⟨a2, a2, b2, b2, c2, c2, d2, d2, trivial⟩, hb⟩

theorem sgn_bd (n : Int) : -1 ≤ sgnI n ∧ sgnI n ≤ 1 := by unfold sgnI; split <;> (try split) <;> omega

end Go.Proofs.Ytfppnaknnijobab
