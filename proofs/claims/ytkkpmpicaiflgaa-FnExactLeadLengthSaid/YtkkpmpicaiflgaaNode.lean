/-
  What the model's functions on nodes return.
-/
import Derived.Test.YtkkpmpicaiflgaaBase
import Derived.Test.YtkkpmpicaiflgaaNodeP
import Derived.Outline
import Derived.Laws.StructEq
namespace Go.Proofs.Ytkkpmpicaiflgaa
open Go.RowKit
set_option linter.unusedVariables false
set_option linter.unusedSimpArgs false

theorem specIn (x a b : Int) (w : World) :
    Calls Try.prog 60 #[.int .i64 x, .int .i64 a, .int .i64 b] w fun e w' => e = .returned (.bool (inB x a b)) ∧ w = w' := by
  by_cases h : a ≤ x
  · go_enter Try.func60, Try.ntmps60
    go_wp2
    go_ret
    exact ⟨ret_bool (by unfold inB; rw [decide_eq_true h]; rfl), rfl⟩
  · go_enter Try.func60, Try.ntmps60
    go_wp2
    go_ret
    exact ⟨ret_bool (by unfold inB; rw [decide_eq_false (by omega)]; rfl), rfl⟩

def BoolIs (v : Bool) (w : World) (e : Ending) (w' : World) : Prop := e = .returned (.bool v) ∧ Below w.heap.size w w'
def IntIs (v : Int) (w : World) (e : Ending) (w' : World) : Prop := e = .returned (.int .i64 v) ∧ Below w.heap.size w w'

theorem specNodeOk (n : Nd) (w : World) :
    Calls Try.prog 66 #[n.val] w (BoolIs (okB n) w) := by
  obtain ⟨x, y⟩ := n
  unfold Nd.val okB
  by_cases h : inB x 0 20 = true
  · go_enter Try.func66, Try.ntmps66
    go_wp2_with fail
    refine (specIn _ _ _ _).mono ?_
    rintro e w' ⟨rfl, rfl⟩
    go_wp2_with fail
    refine (specIn _ _ _ _).mono ?_
    rintro e w' ⟨rfl, rfl⟩
    go_wp2_with fail
    go_ret
    exact ⟨ret_bool (by simp [h]), (Below.refl _ _).alloc (Nat.le_refl _) _⟩
  · have h' : inB x 0 20 = false := by simpa using h
    clear h
    go_enter Try.func66, Try.ntmps66
    go_wp2_with fail
    refine (specIn _ _ _ _).mono ?_
    rintro e w' ⟨rfl, rfl⟩
    go_wp2_with fail
    go_ret
    exact ⟨ret_bool (by simp [h']), (Below.refl _ _).alloc (Nat.le_refl _) _⟩

theorem specTurn (a b c : Nd) (w : World) (ha : okB a = true) (hb : okB b = true) (hc : okB c = true) :
    Calls Try.prog 86 #[a.val, b.val, c.val] w (IntIs (turnI a b c) w) := by
  obtain ⟨ax, ay⟩ := a
  obtain ⟨bx, by'⟩ := b
  obtain ⟨cx, cy⟩ := c
  rw [okB_iff] at ha hb hc
  obtain ⟨⟨a1, a2⟩, a3, a4⟩ := ha
  obtain ⟨⟨b1, b2⟩, b3, b4⟩ := hb
  obtain ⟨⟨c1, c2⟩, c3, c4⟩ := hc
  simp only at a1 a2 a3 a4 b1 b2 b3 b4 c1 c2 c3 c4
  unfold Nd.val turnI
  obtain ⟨p1, p2⟩ := prod_bd (p := bx - ax) (q := cy - ay) 20 (by omega) (by omega) (by omega) (by omega)
  obtain ⟨q1, q2⟩ := prod_bd (p := by' - ay) (q := cx - ax) 20 (by omega) (by omega) (by omega) (by omega)
  go_enter Try.func86, Try.ntmps86
  go_wp2_with fail
  go_ret
  exact ⟨rfl, ((((Below.refl _ _).alloc (Nat.le_refl _) _).alloc (by simp) _).alloc (by simp; omega) _)⟩

theorem below3 (w : World) (o1 o2 o3 : Obj) : Below w.heap.size w (((w.alloc o1).alloc o2).alloc o3) :=
  (((Below.refl _ _).alloc (Nat.le_refl _) _).alloc (by simp) _).alloc (by simp; omega) _
theorem below2 (w : World) (o1 o2 : Obj) : Below w.heap.size w ((w.alloc o1).alloc o2) :=
  ((Below.refl _ _).alloc (Nat.le_refl _) _).alloc (by simp) _

theorem specHalf (a b : Nd) (w : World) :
    Calls Try.prog 91 #[a.val, b.val] w (IntIs (halfI a b) w) := by
  obtain ⟨ax, ay⟩ := a
  obtain ⟨bx, by'⟩ := b
  have hr : halfI ⟨ax, ay⟩ ⟨bx, by'⟩ = if ay < by' ∨ (by' = ay ∧ ax < bx) then 0 else 1 := rfl
  generalize halfI ⟨ax, ay⟩ ⟨bx, by'⟩ = r at *
  have HR := Lib.hid hr; clear hr
  unfold Nd.val
  by_cases h1 : ay < by'
  · go_enter Try.func91, Try.ntmps91
    go_wp2_with fail
    go_ret
    exact ⟨ret_int (by rw [HR.out, if_pos (.inl h1)]), below2 w _ _⟩
  · by_cases h2 : by' < ay
    · have h3 : (by' == ay) = false := by rw [beq_eq_false_iff_ne]; omega
      go_enter Try.func91, Try.ntmps91
      go_wp2_with fail
      go_ret
      exact ⟨ret_int (by rw [HR.out, if_neg (by omega)]), below2 w _ _⟩
    · obtain rfl : by' = ay := by omega
      by_cases h4 : ax < bx
      · go_enter Try.func91, Try.ntmps91
        go_wp2_with fail
        go_ret
        exact ⟨ret_int (by rw [HR.out, if_pos (by simp; exact h4)]), below2 w _ _⟩
      · go_enter Try.func91, Try.ntmps91
        go_wp2_with fail
        go_ret
        exact ⟨ret_int (by rw [HR.out, if_neg (by omega)]), below2 w _ _⟩

theorem specLen (a b : Nd) (w : World) :
    Calls Try.prog 50 #[a.val, b.val] w (IntIs (lenSq a b) w) := by
  have hr : lenSq a b = if okB a && okB b then (b.x - a.x) * (b.x - a.x) + (b.y - a.y) * (b.y - a.y) else -1 := rfl
  have HR := Lib.hid hr; clear hr
  have HA := Lib.hid (specNodeOk a)
  have HB := Lib.hid (specNodeOk b)
  have HOA := Lib.hid (okB_iff a)
  have HOB := Lib.hid (okB_iff b)
  generalize lenSq a b = r at *
  obtain ⟨ax, ay⟩ := a
  obtain ⟨bx, by'⟩ := b
  generalize hka : okB ⟨ax, ay⟩ = ka at *
  generalize hkb : okB ⟨bx, by'⟩ = kb at *
  clear hka hkb
  unfold Nd.val
  cases ka
  · go_enter Try.func50, Try.ntmps50
    go_wp2_with fail
    refine (HA.out _).mono ?_
    rintro e w1 ⟨rfl, hb1⟩
    obtain ⟨hc1, hf1⟩ := bcell hb1
    have hz10 : w.heap.size < w1.heap.size := by have := hb1.size; simp at this; omega
    have hz11 : w.heap.size + 1 < w1.heap.size := by have := hb1.size; simp at this; omega
    have HB1 := Lib.hid ((below2 w _ _).trans (hb1.mono (by simp; try omega)))
    clear hb1
    go_wp2_with fail
    go_ret
    exact ⟨by rw [HR.out]; rfl, HB1.out⟩
  · cases kb
    · go_enter Try.func50, Try.ntmps50
      go_wp2_with fail
      refine (HA.out _).mono ?_
      rintro e w1 ⟨rfl, hb1⟩
      obtain ⟨hc1, hf1⟩ := bcell hb1
      have hz10 : w.heap.size < w1.heap.size := by have := hb1.size; simp at this; omega
      have hz11 : w.heap.size + 1 < w1.heap.size := by have := hb1.size; simp at this; omega
      have HB1 := Lib.hid ((below2 w _ _).trans (hb1.mono (by simp; try omega)))
      clear hb1
      go_wp2_with fail
      refine (HB.out _).mono ?_
      rintro e w2 ⟨rfl, hb2⟩
      obtain ⟨hc2, hf2⟩ := bcell hb2
      have hz20 : w.heap.size < w2.heap.size := by have := hb2.size; omega
      have hz21 : w.heap.size + 1 < w2.heap.size := by have := hb2.size; omega
      have HB2 := Lib.hid (HB1.out.trans (hb2.mono HB1.out.size))
      clear hb2
      go_wp2_with fail
      go_ret
      exact ⟨by rw [HR.out]; rfl, HB2.out⟩
    · obtain ⟨⟨a1, a2⟩, a3, a4⟩ := HOA.out.1 rfl
      obtain ⟨⟨b1, b2⟩, b3, b4⟩ := HOB.out.1 rfl
      simp only at a1 a2 a3 a4 b1 b2 b3 b4
      obtain ⟨p1, p2⟩ := prod_bd (p := bx - ax) (q := bx - ax) 20 (by omega) (by omega) (by omega) (by omega)
      obtain ⟨q1, q2⟩ := prod_bd (p := by' - ay) (q := by' - ay) 20 (by omega) (by omega) (by omega) (by omega)
      go_enter Try.func50, Try.ntmps50
      go_wp2_with fail
      refine (HA.out _).mono ?_
      rintro e w1 ⟨rfl, hb1⟩
      obtain ⟨hc1, hf1⟩ := bcell hb1
      have hz10 : w.heap.size < w1.heap.size := by have := hb1.size; simp at this; omega
      have hz11 : w.heap.size + 1 < w1.heap.size := by have := hb1.size; simp at this; omega
      have HB1 := Lib.hid ((below2 w _ _).trans (hb1.mono (by simp; try omega)))
      clear hb1
      go_wp2_with fail
      refine (HB.out _).mono ?_
      rintro e w2 ⟨rfl, hb2⟩
      obtain ⟨hc2, hf2⟩ := bcell hb2
      have hz20 : w.heap.size < w2.heap.size := by have := hb2.size; omega
      have hz21 : w.heap.size + 1 < w2.heap.size := by have := hb2.size; omega
      have HB2 := Lib.hid (HB1.out.trans (hb2.mono HB1.out.size))
      clear hb2
      go_wp2_with fail
      go_ret
      exact ⟨by rw [HR.out]; rfl, HB2.out⟩

end Go.Proofs.Ytkkpmpicaiflgaa
