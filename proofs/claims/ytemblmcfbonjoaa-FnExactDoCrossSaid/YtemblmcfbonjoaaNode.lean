/-
  What the model's functions on nodes return.
-/
import Derived.Test.YtemblmcfbonjoaaBase
import Derived.Test.YtemblmcfbonjoaaNodeP
import Derived.Outline
import Derived.Laws.StructEq
namespace Go.Proofs.Ytemblmcfbonjoaa
open Go.RowKit
set_option linter.unusedVariables false
set_option linter.unusedSimpArgs false

theorem specIn (x a b : Int) (w : World) :
    Calls Try.prog 76 #[.int .i64 x, .int .i64 a, .int .i64 b] w fun e w' => e = .returned (.bool (inB x a b)) ∧ w = w' := by
  by_cases h : a ≤ x
  · go_enter Try.func76, Try.ntmps76
    go_wp2
    go_ret
    exact ⟨ret_bool (by unfold inB; rw [decide_eq_true h]; rfl), rfl⟩
  · go_enter Try.func76, Try.ntmps76
    go_wp2
    go_ret
    exact ⟨ret_bool (by unfold inB; rw [decide_eq_false (by omega)]; rfl), rfl⟩

def BoolIs (v : Bool) (w : World) (e : Ending) (w' : World) : Prop := e = .returned (.bool v) ∧ Below w.heap.size w w'
def IntIs (v : Int) (w : World) (e : Ending) (w' : World) : Prop := e = .returned (.int .i64 v) ∧ Below w.heap.size w w'

theorem specNodeOk (n : Nd) (w : World) :
    Calls Try.prog 39 #[n.val] w (BoolIs (okB n) w) := by
  obtain ⟨x, y⟩ := n
  unfold Nd.val okB
  by_cases h : inB x 0 20 = true
  · go_enter Try.func39, Try.ntmps39
    go_wp2_with fail
    refine (specIn _ _ _ _).mono ?_
    rintro e w' ⟨rfl, rfl⟩
    go_wp2_with fail
    refine (specIn _ _ _ _).mono ?_
    rintro e w' ⟨rfl, rfl⟩
    go_wp2_with fail
    go_ret
    exact ⟨ret_bool (by simp [h]), (Below.refl _ _).alloc (Nat.le_refl _) _⟩
  · have h' : inB x 0 20 = false := by simpa using h
    clear h
    go_enter Try.func39, Try.ntmps39
    go_wp2_with fail
    refine (specIn _ _ _ _).mono ?_
    rintro e w' ⟨rfl, rfl⟩
    go_wp2_with fail
    go_ret
    exact ⟨ret_bool (by simp [h']), (Below.refl _ _).alloc (Nat.le_refl _) _⟩

theorem specTurn (a b c : Nd) (w : World) (ha : okB a = true) (hb : okB b = true) (hc : okB c = true) :
    Calls Try.prog 77 #[a.val, b.val, c.val] w (IntIs (turnI a b c) w) := by
  obtain ⟨ax, ay⟩ := a
  obtain ⟨bx, by'⟩ := b
  obtain ⟨cx, cy⟩ := c
  rw [okB_iff] at ha hb hc
  obtain ⟨⟨a1, a2⟩, a3, a4⟩ := ha
  obtain ⟨⟨b1, b2⟩, b3, b4⟩ := hb
  obtain ⟨⟨c1, c2⟩, c3, c4⟩ := hc
  simp only at a1 a2 a3 a4 b1 b2 b3 b4 c1 c2 c3 c4
  unfold Nd.val turnI
  obtain ⟨p1, p2⟩ := prod_bd (p := bx - ax) (q := cy - ay) 20 (by omega) (by omega) (by omega) (by omega)
  obtain ⟨q1, q2⟩ := prod_bd (p := by' - ay) (q := cx - ax) 20 (by omega) (by omega) (by omega) (by omega)
  go_enter Try.func77, Try.ntmps77
  go_wp2_with fail
  go_ret
  exact ⟨rfl, ((((Below.refl _ _).alloc (Nat.le_refl _) _).alloc (by simp) _).alloc (by simp; omega) _)⟩

theorem below3 (w : World) (o1 o2 o3 : Obj) : Below w.heap.size w (((w.alloc o1).alloc o2).alloc o3) :=
  (((Below.refl _ _).alloc (Nat.le_refl _) _).alloc (by simp) _).alloc (by simp; omega) _
theorem below2 (w : World) (o1 o2 : Obj) : Below w.heap.size w ((w.alloc o1).alloc o2) :=
  ((Below.refl _ _).alloc (Nat.le_refl _) _).alloc (by simp) _

theorem specTurnOf (a b c : Nd) (w : World) :
    Calls Try.prog 41 #[a.val, b.val, c.val] w (IntIs (turnOf a b c) w) := by
  have hr : turnOf a b c = if okB a && okB b && okB c then turnI a b c else 0 := rfl
  have HR := Lib.hid hr; clear hr
  have HA := Lib.hid (specNodeOk a)
  have HB := Lib.hid (specNodeOk b)
  have HC := Lib.hid (specNodeOk c)
  have HT := Lib.hid (fun w => specTurn a b c w)
  generalize turnOf a b c = r at *
  generalize turnI a b c = t at *
  obtain ⟨ax, ay⟩ := a
  obtain ⟨bx, by'⟩ := b
  obtain ⟨cx, cy⟩ := c
  generalize hka : okB ⟨ax, ay⟩ = ka at *
  generalize hkb : okB ⟨bx, by'⟩ = kb at *
  generalize hkc : okB ⟨cx, cy⟩ = kc at *
  have HKA := Lib.hid hka; clear hka
  have HKB := Lib.hid hkb; clear hkb
  have HKC := Lib.hid hkc; clear hkc
  unfold Nd.val
  cases ka
  · go_enter Try.func41, Try.ntmps41
    go_wp2_with fail
    refine (HA.out _).mono ?_
    rintro e w1 ⟨rfl, hb1⟩
    obtain ⟨hc1, hf1⟩ := bcell hb1
    have hz10 : w.heap.size < w1.heap.size := by have := hb1.size; simp at this; omega
    have hz11 : w.heap.size + 1 < w1.heap.size := by have := hb1.size; simp at this; omega
    have hz12 : w.heap.size + 1 + 1 < w1.heap.size := by have := hb1.size; simp at this; omega
    have HB1 := Lib.hid ((below3 w _ _ _).trans (hb1.mono (by simp; try omega)))
    clear hb1
    go_wp2_with fail
    go_ret
    exact ⟨by rw [HR.out]; rfl, HB1.out⟩
  · cases kb
    · go_enter Try.func41, Try.ntmps41
      go_wp2_with fail
      refine (HA.out _).mono ?_
      rintro e w1 ⟨rfl, hb1⟩
      obtain ⟨hc1, hf1⟩ := bcell hb1
      have hz10 : w.heap.size < w1.heap.size := by have := hb1.size; simp at this; omega
      have hz11 : w.heap.size + 1 < w1.heap.size := by have := hb1.size; simp at this; omega
      have hz12 : w.heap.size + 1 + 1 < w1.heap.size := by have := hb1.size; simp at this; omega
      have HB1 := Lib.hid ((below3 w _ _ _).trans (hb1.mono (by simp; try omega)))
      clear hb1
      go_wp2_with fail
      refine (HB.out _).mono ?_
      rintro e w2 ⟨rfl, hb2⟩
      obtain ⟨hc2, hf2⟩ := bcell hb2
      have hz20 : w.heap.size < w2.heap.size := by have := hb2.size; omega
      have hz21 : w.heap.size + 1 < w2.heap.size := by have := hb2.size; omega
      have hz22 : w.heap.size + 1 + 1 < w2.heap.size := by have := hb2.size; omega
      have HB2 := Lib.hid (HB1.out.trans (hb2.mono HB1.out.size))
      clear hb2
      go_wp2_with fail
      go_ret
      exact ⟨by rw [HR.out]; rfl, HB2.out⟩
    · cases kc
      · go_enter Try.func41, Try.ntmps41
        go_wp2_with fail
        refine (HA.out _).mono ?_
        rintro e w1 ⟨rfl, hb1⟩
        obtain ⟨hc1, hf1⟩ := bcell hb1
        have hz10 : w.heap.size < w1.heap.size := by have := hb1.size; simp at this; omega
        have hz11 : w.heap.size + 1 < w1.heap.size := by have := hb1.size; simp at this; omega
        have hz12 : w.heap.size + 1 + 1 < w1.heap.size := by have := hb1.size; simp at this; omega
        have HB1 := Lib.hid ((below3 w _ _ _).trans (hb1.mono (by simp; try omega)))
        clear hb1
        go_wp2_with fail
        refine (HB.out _).mono ?_
        rintro e w2 ⟨rfl, hb2⟩
        obtain ⟨hc2, hf2⟩ := bcell hb2
        have hz20 : w.heap.size < w2.heap.size := by have := hb2.size; omega
        have hz21 : w.heap.size + 1 < w2.heap.size := by have := hb2.size; omega
        have hz22 : w.heap.size + 1 + 1 < w2.heap.size := by have := hb2.size; omega
        have HB2 := Lib.hid (HB1.out.trans (hb2.mono HB1.out.size))
        clear hb2
        go_wp2_with fail
        refine (HC.out _).mono ?_
        rintro e w3 ⟨rfl, hb3⟩
        obtain ⟨hc3, hf3⟩ := bcell hb3
        have hz30 : w.heap.size < w3.heap.size := by have := hb3.size; omega
        have hz31 : w.heap.size + 1 < w3.heap.size := by have := hb3.size; omega
        have hz32 : w.heap.size + 1 + 1 < w3.heap.size := by have := hb3.size; omega
        have HB3 := Lib.hid (HB2.out.trans (hb3.mono HB2.out.size))
        clear hb3
        go_wp2_with fail
        go_ret
        exact ⟨by rw [HR.out]; rfl, HB3.out⟩
      · go_enter Try.func41, Try.ntmps41
        go_wp2_with fail
        refine (HA.out _).mono ?_
        rintro e w1 ⟨rfl, hb1⟩
        obtain ⟨hc1, hf1⟩ := bcell hb1
        have hz10 : w.heap.size < w1.heap.size := by have := hb1.size; simp at this; omega
        have hz11 : w.heap.size + 1 < w1.heap.size := by have := hb1.size; simp at this; omega
        have hz12 : w.heap.size + 1 + 1 < w1.heap.size := by have := hb1.size; simp at this; omega
        have HB1 := Lib.hid ((below3 w _ _ _).trans (hb1.mono (by simp; try omega)))
        clear hb1
        go_wp2_with fail
        refine (HB.out _).mono ?_
        rintro e w2 ⟨rfl, hb2⟩
        obtain ⟨hc2, hf2⟩ := bcell hb2
        have hz20 : w.heap.size < w2.heap.size := by have := hb2.size; omega
        have hz21 : w.heap.size + 1 < w2.heap.size := by have := hb2.size; omega
        have hz22 : w.heap.size + 1 + 1 < w2.heap.size := by have := hb2.size; omega
        have HB2 := Lib.hid (HB1.out.trans (hb2.mono HB1.out.size))
        clear hb2
        go_wp2_with fail
        refine (HC.out _).mono ?_
        rintro e w3 ⟨rfl, hb3⟩
        obtain ⟨hc3, hf3⟩ := bcell hb3
        have hz30 : w.heap.size < w3.heap.size := by have := hb3.size; omega
        have hz31 : w.heap.size + 1 < w3.heap.size := by have := hb3.size; omega
        have hz32 : w.heap.size + 1 + 1 < w3.heap.size := by have := hb3.size; omega
        have HB3 := Lib.hid (HB2.out.trans (hb3.mono HB2.out.size))
        clear hb3
        go_wp2_with fail
        refine (HT.out _ (by simp) (by simp) (by simp)).mono ?_
        rintro e w4 ⟨rfl, hb4⟩
        obtain ⟨hc4, hf4⟩ := bcell hb4
        have hz40 : w.heap.size < w4.heap.size := by have := hb4.size; omega
        have hz41 : w.heap.size + 1 < w4.heap.size := by have := hb4.size; omega
        have hz42 : w.heap.size + 1 + 1 < w4.heap.size := by have := hb4.size; omega
        have HB4 := Lib.hid (HB3.out.trans (hb4.mono HB3.out.size))
        clear hb4
        go_wp2_with fail
        go_ret
        exact ⟨by rw [HR.out]; rfl, HB4.out⟩

theorem specHalf (a b : Nd) (w : World) :
    Calls Try.prog 44 #[a.val, b.val] w (IntIs (halfI a b) w) := by
  obtain ⟨ax, ay⟩ := a
  obtain ⟨bx, by'⟩ := b
  have hr : halfI ⟨ax, ay⟩ ⟨bx, by'⟩ = if ay < by' ∨ (by' = ay ∧ ax < bx) then 0 else 1 := rfl
  generalize halfI ⟨ax, ay⟩ ⟨bx, by'⟩ = r at *
  have HR := Lib.hid hr; clear hr
  unfold Nd.val
  by_cases h1 : ay < by'
  · go_enter Try.func44, Try.ntmps44
    go_wp2_with fail
    go_ret
    exact ⟨ret_int (by rw [HR.out, if_pos (.inl h1)]), below2 w _ _⟩
  · by_cases h2 : by' < ay
    · have h3 : (by' == ay) = false := by rw [beq_eq_false_iff_ne]; omega
      go_enter Try.func44, Try.ntmps44
      go_wp2_with fail
      go_ret
      exact ⟨ret_int (by rw [HR.out, if_neg (by omega)]), below2 w _ _⟩
    · obtain rfl : by' = ay := by omega
      by_cases h4 : ax < bx
      · go_enter Try.func44, Try.ntmps44
        go_wp2_with fail
        go_ret
        exact ⟨ret_int (by rw [HR.out, if_pos (by simp; exact h4)]), below2 w _ _⟩
      · go_enter Try.func44, Try.ntmps44
        go_wp2_with fail
        go_ret
        exact ⟨ret_int (by rw [HR.out, if_neg (by omega)]), below2 w _ _⟩

theorem specLen (a b : Nd) (w : World) :
    Calls Try.prog 43 #[a.val, b.val] w (IntIs (lenSq a b) w) := by
  have hr : lenSq a b = if okB a && okB b then (b.x - a.x) * (b.x - a.x) + (b.y - a.y) * (b.y - a.y) else -1 := rfl
  have HR := Lib.hid hr; clear hr
  have HA := Lib.hid (specNodeOk a)
  have HB := Lib.hid (specNodeOk b)
  have HOA := Lib.hid (okB_iff a)
  have HOB := Lib.hid (okB_iff b)
  generalize lenSq a b = r at *
  obtain ⟨ax, ay⟩ := a
  obtain ⟨bx, by'⟩ := b
  generalize hka : okB ⟨ax, ay⟩ = ka at *
  generalize hkb : okB ⟨bx, by'⟩ = kb at *
  clear hka hkb
  unfold Nd.val
  cases ka
  · go_enter Try.func43, Try.ntmps43
    go_wp2_with fail
    refine (HA.out _).mono ?_
    rintro e w1 ⟨rfl, hb1⟩
    obtain ⟨hc1, hf1⟩ := bcell hb1
    have hz10 : w.heap.size < w1.heap.size := by have := hb1.size; simp at this; omega
    have hz11 : w.heap.size + 1 < w1.heap.size := by have := hb1.size; simp at this; omega
    have HB1 := Lib.hid ((below2 w _ _).trans (hb1.mono (by simp; try omega)))
    clear hb1
    go_wp2_with fail
    go_ret
    exact ⟨by rw [HR.out]; rfl, HB1.out⟩
  · cases kb
    · go_enter Try.func43, Try.ntmps43
      go_wp2_with fail
      refine (HA.out _).mono ?_
      rintro e w1 ⟨rfl, hb1⟩
      obtain ⟨hc1, hf1⟩ := bcell hb1
      have hz10 : w.heap.size < w1.heap.size := by have := hb1.size; simp at this; omega
      have hz11 : w.heap.size + 1 < w1.heap.size := by have := hb1.size; simp at this; omega
      have HB1 := Lib.hid ((below2 w _ _).trans (hb1.mono (by simp; try omega)))
      clear hb1
      go_wp2_with fail
      refine (HB.out _).mono ?_
      rintro e w2 ⟨rfl, hb2⟩
      obtain ⟨hc2, hf2⟩ := bcell hb2
      have hz20 : w.heap.size < w2.heap.size := by have := hb2.size; omega
      have hz21 : w.heap.size + 1 < w2.heap.size := by have := hb2.size; omega
      have HB2 := Lib.hid (HB1.out.trans (hb2.mono HB1.out.size))
      clear hb2
      go_wp2_with fail
      go_ret
      exact ⟨by rw [HR.out]; rfl, HB2.out⟩
    · obtain ⟨⟨a1, a2⟩, a3, a4⟩ := HOA.out.1 rfl
      obtain ⟨⟨b1, b2⟩, b3, b4⟩ := HOB.out.1 rfl
      simp only at a1 a2 a3 a4 b1 b2 b3 b4
      obtain ⟨p1, p2⟩ := prod_bd (p := bx - ax) (q := bx - ax) 20 (by omega) (by omega) (by omega) (by omega)
      obtain ⟨q1, q2⟩ := prod_bd (p := by' - ay) (q := by' - ay) 20 (by omega) (by omega) (by omega) (by omega)
      go_enter Try.func43, Try.ntmps43
      go_wp2_with fail
      refine (HA.out _).mono ?_
      rintro e w1 ⟨rfl, hb1⟩
      obtain ⟨hc1, hf1⟩ := bcell hb1
      have hz10 : w.heap.size < w1.heap.size := by have := hb1.size; simp at this; omega
      have hz11 : w.heap.size + 1 < w1.heap.size := by have := hb1.size; simp at this; omega
      have HB1 := Lib.hid ((below2 w _ _).trans (hb1.mono (by simp; try omega)))
      clear hb1
      go_wp2_with fail
      refine (HB.out _).mono ?_
      rintro e w2 ⟨rfl, hb2⟩
      obtain ⟨hc2, hf2⟩ := bcell hb2
      have hz20 : w.heap.size < w2.heap.size := by have := hb2.size; omega
      have hz21 : w.heap.size + 1 < w2.heap.size := by have := hb2.size; omega
      have HB2 := Lib.hid (HB1.out.trans (hb2.mono HB1.out.size))
      clear hb2
      go_wp2_with fail
      go_ret
      exact ⟨by rw [HR.out]; rfl, HB2.out⟩

end Go.Proofs.Ytemblmcfbonjoaa
