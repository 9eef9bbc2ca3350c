/-
  Nodes, plainly: validity, turns, between, half planes, directions.
-/
import Derived.Test.YtfppnaknnijobabPure
namespace Go.Proofs.Ytfppnaknnijobab
open Go.RowKit
set_option linter.unusedVariables false
set_option linter.unusedSimpArgs false

structure Nd where
  x : Int
  y : Int
deriving DecidableEq

/-- A node as a value. -/
def Nd.val (n : Nd) : Value := .agg #[.int .i64 n.x, .int .i64 n.y]

def inB (x a b : Int) : Bool := decide (a ≤ x) && decide (x ≤ b)
def okB (n : Nd) : Bool := inB n.x 0 20 && inB n.y 0 20
theorem inB_iff (x a b : Int) : inB x a b = true ↔ a ≤ x ∧ x ≤ b := by simp [inB]
theorem okB_iff (n : Nd) : okB n = true ↔ (0 ≤ n.x ∧ n.x ≤ 20) ∧ (0 ≤ n.y ∧ n.y ≤ 20) := by simp [okB, inB]

def turnI (a b c : Nd) : Int := (b.x - a.x) * (c.y - a.y) - (b.y - a.y) * (c.x - a.x)
theorem prod_bd {p q : Int} (n : Nat) (h1 : -(n : Int) ≤ p) (h2 : p ≤ n) (h3 : -(n : Int) ≤ q) (h4 : q ≤ n) : -((n : Int) * n) ≤ p * q ∧ p * q ≤ (n : Int) * n := by
  have a1 : 0 ≤ ((n : Int) - p) * (n - q) := Int.mul_nonneg (by omega) (by omega)
  have a2 : 0 ≤ ((n : Int) + p) * (n + q) := Int.mul_nonneg (by omega) (by omega)
  have a3 : 0 ≤ ((n : Int) - p) * (n + q) := Int.mul_nonneg (by omega) (by omega)
  have a4 : 0 ≤ ((n : Int) + p) * (n - q) := Int.mul_nonneg (by omega) (by omega)
  rw [Int.sub_mul, Int.mul_sub, Int.mul_sub] at a1
  rw [Int.add_mul, Int.mul_add, Int.mul_add] at a2
  rw [Int.sub_mul, Int.mul_add, Int.mul_add] at a3
  rw [Int.add_mul, Int.mul_sub, Int.mul_sub] at a4
  omega

def betweenB (a b c : Nd) : Bool :=
  okB a && okB b && okB c && decide (a ≠ b) && decide (b ≠ c) && decide (a ≠ c) && decide (turnI a b c = 0) &&
  (inB c.x (min a.x b.x) (max a.x b.x) && inB c.y (min a.y b.y) (max a.y b.y))
def turnOf (a b c : Nd) : Int := if okB a && okB b && okB c then turnI a b c else 0
def lenSq (a b : Nd) : Int := if okB a && okB b then (b.x - a.x) * (b.x - a.x) + (b.y - a.y) * (b.y - a.y) else -1
def halfI (a b : Nd) : Int := if a.y < b.y ∨ (b.y = a.y ∧ a.x < b.x) then 0 else 1
def beforeB (a b c : Nd) : Bool := okB a && okB b && okB c && (if halfI a b = halfI a c then decide (0 < turnI a b c) else decide (halfI a b < halfI a c))

theorem nd_ne {a b : Nd} : a ≠ b ↔ a.x ≠ b.x ∨ a.y ≠ b.y := by
  cases a; cases b
  simp only [ne_eq, Nd.mk.injEq]
  omega

theorem turn_bd {a b c : Nd} (ha : okB a = true) (hb : okB b = true) (hc : okB c = true) : -800 ≤ turnI a b c ∧ turnI a b c ≤ 800 := by
  rw [okB_iff] at ha hb hc
  unfold turnI
  obtain ⟨p1, p2⟩ := prod_bd (p := b.x - a.x) (q := c.y - a.y) 20 (by omega) (by omega) (by omega) (by omega)
  obtain ⟨q1, q2⟩ := prod_bd (p := b.y - a.y) (q := c.x - a.x) 20 (by omega) (by omega) (by omega) (by omega)
  omega

theorem turnOf_ok {a b c : Nd} (ha : okB a = true) (hb : okB b = true) (hc : okB c = true) : turnOf a b c = turnI a b c := by
  unfold turnOf; rw [ha, hb, hc]; rfl

end Go.Proofs.Ytfppnaknnijobab
