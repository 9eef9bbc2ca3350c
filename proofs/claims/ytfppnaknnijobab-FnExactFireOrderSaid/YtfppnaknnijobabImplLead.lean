/-
  What the program's functions on leads return.
-/
import Derived.Test.YtfppnaknnijobabLead
import Derived.Test.YtfppnaknnijobabImplNode
import Derived.RegionTactic
import Derived.ChangeAlike
namespace Go.Proofs.Ytfppnaknnijobab
open Go.RowKit
set_option linter.unusedVariables false
set_option linter.unusedSimpArgs false

/-- Four boxed nodes at the start of a call. -/
theorem held4 (w : World) (a b c d : Nd) (T : TypeId) :
    Held w ((((w.alloc (.cells #[.int .i64 a.x, .int .i64 a.y] T)).alloc (.cells #[.int .i64 b.x, .int .i64 b.y] T)).alloc (.cells #[.int .i64 c.x, .int .i64 c.y] T)).alloc (.cells #[.int .i64 d.x, .int .i64 d.y] T))
      [(w.heap.size, 0, .int .i64 a.x), (w.heap.size, 1, .int .i64 a.y), (w.heap.size + 1, 0, .int .i64 b.x), (w.heap.size + 1, 1, .int .i64 b.y),
       (w.heap.size + 1 + 1, 0, .int .i64 c.x), (w.heap.size + 1 + 1, 1, .int .i64 c.y), (w.heap.size + 1 + 1 + 1, 0, .int .i64 d.x), (w.heap.size + 1 + 1 + 1, 1, .int .i64 d.y)] := by
  have k := ((((Held.none_ w).new2 w.heap.size rfl [.int .i64 a.x, .int .i64 a.y] T).new2 (w.heap.size + 1) (by simp) [.int .i64 b.x, .int .i64 b.y] T).new2 (w.heap.size + 1 + 1) (by simp) [.int .i64 c.x, .int .i64 c.y] T).new2 (w.heap.size + 1 + 1 + 1) (by simp) [.int .i64 d.x, .int .i64 d.y] T
  obtain ⟨⟨d0, d1, c0, c1, b0, b1, a0, a1, _⟩, ⟨d2, _, c2, _, b2, _, a2, _, _⟩, hb⟩ := k
  exact ⟨⟨a0, a1, b0, b1, c0, c1, d0, d1, trivial⟩, ⟨a2, a2, b2, b2, c2, c2, d2, d2, trivial⟩, hb⟩

/-- Two boxed nodes, kept over a call that ends in W1, and two more boxed behind it. -/
theorem held_ends {w W : World} {fs : List (Nat × Nat × Value)} (h : Held w W fs) (a b c d : Nd) (T : TypeId) (W1 : World)
    (hb : Below ((W.alloc (.cells #[.int .i64 a.x, .int .i64 a.y] T)).alloc (.cells #[.int .i64 b.x, .int .i64 b.y] T)).heap.size ((W.alloc (.cells #[.int .i64 a.x, .int .i64 a.y] T)).alloc (.cells #[.int .i64 b.x, .int .i64 b.y] T)) W1) :
    Cs W1 [(W.heap.size, 0, .int .i64 a.x), (W.heap.size, 1, .int .i64 a.y), (W.heap.size + 1, 0, .int .i64 b.x), (W.heap.size + 1, 1, .int .i64 b.y)] ∧
    Bs W1.heap.size [(W.heap.size, 0, .int .i64 a.x), (W.heap.size, 1, .int .i64 a.y), (W.heap.size + 1, 0, .int .i64 b.x), (W.heap.size + 1, 1, .int .i64 b.y)] ∧
    (∀ T1 T2 : TypeId, Held w ((W1.alloc (.cells #[.int .i64 c.x, .int .i64 c.y] T1)).alloc (.cells #[.int .i64 d.x, .int .i64 d.y] T2))
      [(W.heap.size, 0, .int .i64 a.x), (W.heap.size, 1, .int .i64 a.y), (W.heap.size + 1, 0, .int .i64 b.x), (W.heap.size + 1, 1, .int .i64 b.y),
       (W1.heap.size, 0, .int .i64 c.x), (W1.heap.size, 1, .int .i64 c.y), (W1.heap.size + 1, 0, .int .i64 d.x), (W1.heap.size + 1, 1, .int .i64 d.y)]) := by
  have k := ((h.drop.new2 W.heap.size rfl [.int .i64 a.x, .int .i64 a.y] T).new2 (W.heap.size + 1) (by simp) [.int .i64 b.x, .int .i64 b.y] T).step hb
  obtain ⟨⟨b0, b1, a0, a1, _⟩, ⟨b2, _, a2, _, _⟩, hbl⟩ := id k
  refine ⟨⟨a0, a1, b0, b1, trivial⟩, ⟨a2, a2, b2, b2, trivial⟩, fun T1 T2 => ?_⟩
  have k2 := (k.new2 W1.heap.size rfl [.int .i64 c.x, .int .i64 c.y] T1).new2 (W1.heap.size + 1) (by simp) [.int .i64 d.x, .int .i64 d.y] T2
  obtain ⟨⟨d0, d1, c0, c1, b0, b1, a0, a1, _⟩, ⟨d2, _, c2, _, b2, _, a2, _, _⟩, hb⟩ := k2
  exact ⟨⟨a0, a1, b0, b1, c0, c1, d0, d1, trivial⟩, ⟨a2, a2, b2, b2, c2, c2, d2, d2, trivial⟩, hb⟩

end Go.Proofs.Ytfppnaknnijobab
