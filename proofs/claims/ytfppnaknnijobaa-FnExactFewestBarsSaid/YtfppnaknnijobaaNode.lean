/-
  What the model's functions on nodes return.
-/
import Derived.Test.YtfppnaknnijobaaBase
import Derived.Test.YtfppnaknnijobaaNodeP
import Derived.Outline
import Derived.Laws.StructEq
namespace Go.Proofs.Ytfppnaknnijobaa
open Go.RowKit
set_option linter.unusedVariables false
set_option linter.unusedSimpArgs false

theorem specIn (x a b : Int) (w : World) :
    Calls Try.prog 54 #[.int .i64 x, .int .i64 a, .int .i64 b] w fun e w' => e = .returned (.bool (inB x a b)) ∧ w = w' := by
  by_cases h : a ≤ x
  · go_enter Try.func54, Try.ntmps54
    go_wp2
    go_ret
    exact ⟨ret_bool (by unfold inB; rw [decide_eq_true h]; rfl), rfl⟩
  · go_enter Try.func54, Try.ntmps54
    go_wp2
    go_ret
    exact ⟨ret_bool (by unfold inB; rw [decide_eq_false (by omega)]; rfl), rfl⟩

def BoolIs (v : Bool) (w : World) (e : Ending) (w' : World) : Prop := e = .returned (.bool v) ∧ Below w.heap.size w w'
def IntIs (v : Int) (w : World) (e : Ending) (w' : World) : Prop := e = .returned (.int .i64 v) ∧ Below w.heap.size w w'

theorem specNodeOk (n : Nd) (w : World) :
    Calls Try.prog 95 #[n.val] w (BoolIs (okB n) w) := by
  obtain ⟨x, y⟩ := n
  unfold Nd.val okB
  by_cases h : inB x 0 20 = true
  · go_enter Try.func95, Try.ntmps95
    go_wp2_with fail
    refine (specIn _ _ _ _).mono ?_
    rintro e w' ⟨rfl, rfl⟩
    go_wp2_with fail
    refine (specIn _ _ _ _).mono ?_
    rintro e w' ⟨rfl, rfl⟩
    go_wp2_with fail
    go_ret
    exact ⟨ret_bool (by simp [h]), (Below.refl _ _).alloc (Nat.le_refl _) _⟩
  · have h' : inB x 0 20 = false := by simpa using h
    clear h
    go_enter Try.func95, Try.ntmps95
    go_wp2_with fail
    refine (specIn _ _ _ _).mono ?_
    rintro e w' ⟨rfl, rfl⟩
    go_wp2_with fail
    go_ret
    exact ⟨ret_bool (by simp [h']), (Below.refl _ _).alloc (Nat.le_refl _) _⟩

theorem specTurn (a b c : Nd) (w : World) (ha : okB a = true) (hb : okB b = true) (hc : okB c = true) :
    Calls Try.prog 112 #[a.val, b.val, c.val] w (IntIs (turnI a b c) w) := by
  obtain ⟨ax, ay⟩ := a
  obtain ⟨bx, by'⟩ := b
  obtain ⟨cx, cy⟩ := c
  rw [okB_iff] at ha hb hc
  obtain ⟨⟨a1, a2⟩, a3, a4⟩ := ha
  obtain ⟨⟨b1, b2⟩, b3, b4⟩ := hb
  obtain ⟨⟨c1, c2⟩, c3, c4⟩ := hc
  simp only at a1 a2 a3 a4 b1 b2 b3 b4 c1 c2 c3 c4
  unfold Nd.val turnI
  obtain ⟨p1, p2⟩ := prod_bd (p := bx - ax) (q := cy - ay) 20 (by omega) (by omega) (by omega) (by omega)
  obtain ⟨q1, q2⟩ := prod_bd (p := by' - ay) (q := cx - ax) 20 (by omega) (by omega) (by omega) (by omega)
  go_enter Try.func112, Try.ntmps112
  go_wp2_with fail
  go_ret
  exact ⟨rfl, ((((Below.refl _ _).alloc (Nat.le_refl _) _).alloc (by simp) _).alloc (by simp; omega) _)⟩

theorem below3 (w : World) (o1 o2 o3 : Obj) : Below w.heap.size w (((w.alloc o1).alloc o2).alloc o3) :=
  (((Below.refl _ _).alloc (Nat.le_refl _) _).alloc (by simp) _).alloc (by simp; omega) _
theorem below2 (w : World) (o1 o2 : Obj) : Below w.heap.size w ((w.alloc o1).alloc o2) :=
  ((Below.refl _ _).alloc (Nat.le_refl _) _).alloc (by simp) _

end Go.Proofs.Ytfppnaknnijobaa
