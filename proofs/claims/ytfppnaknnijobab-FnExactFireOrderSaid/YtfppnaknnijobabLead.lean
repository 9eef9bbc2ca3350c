/-
  What the model's functions on leads return.
-/
import Derived.Test.YtfppnaknnijobabNodeB
import Derived.Test.YtfppnaknnijobabLeadP
import Derived.Test.YtfppnaknnijobabDet
import Derived.Outline
import Derived.BigGuardPart
namespace Go.Proofs.Ytfppnaknnijobab
open Go.RowKit
set_option linter.unusedVariables false
set_option linter.unusedSimpArgs false

/-- A slice of pairs with an element at k: its address and that pair's cells. -/
theorem prs_at {w : World} {v : Value} {xs : List Nd} (h : Prs w v xs) {k : Nat} (hk : k < xs.length) :
    ∃ (b o c : Nat), v = .slice (some ⟨b, o, none⟩) xs.length c ∧ b < w.heap.size ∧ CellsAt w b o xs := by
  obtain ⟨A, c, rfl, hl, hc, hx⟩ := h
  obtain ⟨b, o, rfl, hlt, hcs⟩ := hx (by omega)
  exact ⟨b, o, c, rfl, hlt, hcs⟩

theorem prs_form {w : World} {v : Value} {xs : List Nd} (h : Prs w v xs) : ∃ (A : Option Addr) (c : Nat), v = .slice A xs.length c := by
  obtain ⟨A, c, rfl, _⟩ := h
  exact ⟨A, c, rfl⟩

/-- A boxed lead, and two pairs of a slice. -/
theorem held_lead {w : World} {b o : Nat} {xs : List Nd} (h : CellsAt w b o xs) (hb : b < w.heap.size) {i j : Nat} (hi : i < xs.length) (hj : j < xs.length) (l : Nd) (T : TypeId) :
    Held w (w.alloc (.cells #[.int .i64 l.x, .int .i64 l.y] T)) (B1 w l ++ (P1 b o xs i ++ P1 b o xs j)) :=
  (Held.start ((P1_cs h hi).append (P1_cs h hj)) ((P1_bs hb).append (P1_bs hb))).new [.int .i64 l.x, .int .i64 l.y] T

/-- A boxed lead, a boxed node, and two pairs of a slice. -/
theorem held_on {w : World} {b o : Nat} {xs : List Nd} (h : CellsAt w b o xs) (hb : b < w.heap.size) {i j : Nat} (hi : i < xs.length) (hj : j < xs.length) (l n : Nd) (T U : TypeId) :
    Held w ((w.alloc (.cells #[.int .i64 l.x, .int .i64 l.y] T)).alloc (.cells #[.int .i64 n.x, .int .i64 n.y] U)) (newFs (w.heap.size + 1) 0 [.int .i64 n.x, .int .i64 n.y] ++ (newFs w.heap.size 0 [.int .i64 l.x, .int .i64 l.y] ++ (P1 b o xs i ++ P1 b o xs j))) :=
  ((Held.start ((P1_cs h hi).append (P1_cs h hj)) ((P1_bs hb).append (P1_bs hb))).new2 w.heap.size rfl [.int .i64 l.x, .int .i64 l.y] T).new2 (w.heap.size + 1) (by simp) [.int .i64 n.x, .int .i64 n.y] U

end Go.Proofs.Ytfppnaknnijobab
