/-
  What the model's IsBeforeAround returns.
-/
import Derived.Test.YtghpbdgghliieacNode
import Derived.Deep.RegionHeld3
namespace Go.Proofs.Ytghpbdgghliieac
open Go.RowKit
set_option linter.unusedVariables false
set_option linter.unusedSimpArgs false

/-- Three boxed nodes in the blocks k, k + 1, k + 2; nothing that was there has turned. -/
def Six (w : World) (a b c : Nd) (W : World) : Prop :=
  (W.cell? ⟨w.heap.size, 0, none⟩ = some (.int .i64 a.x) ∧ W.cell? ⟨w.heap.size, 1, none⟩ = some (.int .i64 a.y)) ∧
  (W.cell? ⟨w.heap.size + 1, 0, none⟩ = some (.int .i64 b.x) ∧ W.cell? ⟨w.heap.size + 1, 1, none⟩ = some (.int .i64 b.y)) ∧
  (W.cell? ⟨w.heap.size + 1 + 1, 0, none⟩ = some (.int .i64 c.x) ∧ W.cell? ⟨w.heap.size + 1 + 1, 1, none⟩ = some (.int .i64 c.y)) ∧ w.heap.size + 1 + 1 < W.heap.size ∧ Below w.heap.size w W
theorem Six.start (w : World) (a b c : Nd) (T : TypeId) : Six w a b c (((w.alloc (.cells #[.int .i64 a.x, .int .i64 a.y] T)).alloc (.cells #[.int .i64 b.x, .int .i64 b.y] T)).alloc (.cells #[.int .i64 c.x, .int .i64 c.y] T)) := by
  refine ⟨⟨?_, ?_⟩, ⟨?_, ?_⟩, ⟨?_, ?_⟩, by simp, below3 w _ _ _⟩ <;> go_simp
theorem Six.step {w W w1 : World} {a b c : Nd} (h : Six w a b c W) (hb : Below W.heap.size W w1) : Six w a b c w1 := by
  obtain ⟨⟨a0, a1⟩, ⟨b0, b1⟩, ⟨c0, c1⟩, hz, hw⟩ := h
  have e0 : w.heap.size < W.heap.size := by omega
  have e1 : w.heap.size + 1 < W.heap.size := by omega
  refine ⟨⟨(hb.cell (p := ⟨_, _, none⟩) e0).trans a0, (hb.cell (p := ⟨_, _, none⟩) e0).trans a1⟩, ⟨(hb.cell (p := ⟨_, _, none⟩) e1).trans b0, (hb.cell (p := ⟨_, _, none⟩) e1).trans b1⟩, ⟨(hb.cell (p := ⟨_, _, none⟩) hz).trans c0, (hb.cell (p := ⟨_, _, none⟩) hz).trans c1⟩, ?_, hw.trans (hb.mono hw.size)⟩
  have := hb.size
  omega
theorem Six.drew {w W : World} {a b c : Nd} (h : Six w a b c W) : Six w a b c W.drew := ⟨h.1, h.2.1, h.2.2.1, h.2.2.2.1, h.2.2.2.2.drew⟩

theorem before_a (a b c : Nd) (w : World) (ha : okB a = false) :
    Calls Try.prog 117 #[a.val, b.val, c.val] w (BoolIs false w) := by
  have HA := Lib.hid (specNodeOk a)
  have HB := Lib.hid (specNodeOk b)
  have HC := Lib.hid (specNodeOk c)
  have H0 := Lib.hid (Six.start w a b c 56)
  rw [ha] at HA
  clear ha
  obtain ⟨ax, ay⟩ := a
  obtain ⟨bx, by'⟩ := b
  obtain ⟨cx, cy⟩ := c
  unfold Nd.val
  go_enter Try.func117, Try.ntmps117
  go_wp2_with fail
  refine (HA.out _).mono ?_
  rintro e w1 ⟨rfl, hb1⟩
  have H1 := Lib.hid (H0.out.step hb1); clear hb1
  obtain ⟨⟨a0, a1⟩, ⟨b0, b1⟩, ⟨c0, c1⟩, _, _⟩ := H1.out
  go_wp2_with fail
  go_ret
  exact ⟨rfl, H1.out.2.2.2.2⟩

theorem before_b (a b c : Nd) (w : World) (ha : okB a = true) (hb : okB b = false) :
    Calls Try.prog 117 #[a.val, b.val, c.val] w (BoolIs false w) := by
  have HA := Lib.hid (specNodeOk a)
  have HB := Lib.hid (specNodeOk b)
  have HC := Lib.hid (specNodeOk c)
  have H0 := Lib.hid (Six.start w a b c 56)
  rw [ha] at HA
  rw [hb] at HB
  clear ha hb
  obtain ⟨ax, ay⟩ := a
  obtain ⟨bx, by'⟩ := b
  obtain ⟨cx, cy⟩ := c
  unfold Nd.val
  go_enter Try.func117, Try.ntmps117
  go_wp2_with fail
  refine (HA.out _).mono ?_
  rintro e w1 ⟨rfl, hb1⟩
  have H1 := Lib.hid (H0.out.step hb1); clear hb1
  obtain ⟨⟨a0, a1⟩, ⟨b0, b1⟩, ⟨c0, c1⟩, _, _⟩ := H1.out
  go_wp2_with fail
  refine (HB.out _).mono ?_
  rintro e w2 ⟨rfl, hb2⟩
  have H2 := Lib.hid (H1.out.step hb2); clear hb2
  obtain ⟨⟨a0, a1⟩, ⟨b0, b1⟩, ⟨c0, c1⟩, _, _⟩ := H2.out
  go_wp2_with fail
  go_ret
  exact ⟨rfl, H2.out.2.2.2.2⟩

theorem before_c (a b c : Nd) (w : World) (ha : okB a = true) (hb : okB b = true) (hc : okB c = false) :
    Calls Try.prog 117 #[a.val, b.val, c.val] w (BoolIs false w) := by
  have HA := Lib.hid (specNodeOk a)
  have HB := Lib.hid (specNodeOk b)
  have HC := Lib.hid (specNodeOk c)
  have H0 := Lib.hid (Six.start w a b c 56)
  rw [ha] at HA
  rw [hb] at HB
  rw [hc] at HC
  clear ha hb hc
  obtain ⟨ax, ay⟩ := a
  obtain ⟨bx, by'⟩ := b
  obtain ⟨cx, cy⟩ := c
  unfold Nd.val
  go_enter Try.func117, Try.ntmps117
  go_wp2_with fail
  refine (HA.out _).mono ?_
  rintro e w1 ⟨rfl, hb1⟩
  have H1 := Lib.hid (H0.out.step hb1); clear hb1
  obtain ⟨⟨a0, a1⟩, ⟨b0, b1⟩, ⟨c0, c1⟩, _, _⟩ := H1.out
  go_wp2_with fail
  refine (HB.out _).mono ?_
  rintro e w2 ⟨rfl, hb2⟩
  have H2 := Lib.hid (H1.out.step hb2); clear hb2
  obtain ⟨⟨a0, a1⟩, ⟨b0, b1⟩, ⟨c0, c1⟩, _, _⟩ := H2.out
  go_wp2_with fail
  refine (HC.out _).mono ?_
  rintro e w3 ⟨rfl, hb3⟩
  have H3 := Lib.hid (H2.out.step hb3); clear hb3
  obtain ⟨⟨a0, a1⟩, ⟨b0, b1⟩, ⟨c0, c1⟩, _, _⟩ := H3.out
  go_wp2_with fail
  go_ret
  exact ⟨rfl, H3.out.2.2.2.2⟩

theorem before_half (a b c : Nd) (w : World) (ha : okB a = true) (hb : okB b = true) (hc : okB c = true) (hne : (halfI a b == halfI a c) = false) :
    Calls Try.prog 117 #[a.val, b.val, c.val] w (BoolIs (decide (halfI a b < halfI a c)) w) := by
  have HA := Lib.hid (specNodeOk a)
  have HB := Lib.hid (specNodeOk b)
  have HC := Lib.hid (specNodeOk c)
  have H0 := Lib.hid (Six.start w a b c 56)
  rw [ha] at HA
  rw [hb] at HB
  rw [hc] at HC
  have HH1 := specHalf a b
  have HH2 := specHalf a c
  generalize halfI a b = p at *
  generalize halfI a c = q at *
  clear ha hb hc
  obtain ⟨ax, ay⟩ := a
  obtain ⟨bx, by'⟩ := b
  obtain ⟨cx, cy⟩ := c
  unfold Nd.val
  unfold Nd.val at HH1 HH2
  have HH1 := Lib.hid HH1
  have HH2 := Lib.hid HH2
  go_enter Try.func117, Try.ntmps117
  go_wp2_with fail
  refine (HA.out _).mono ?_
  rintro e w1 ⟨rfl, hb1⟩
  have H1 := Lib.hid (H0.out.step hb1); clear hb1
  obtain ⟨⟨a0, a1⟩, ⟨b0, b1⟩, ⟨c0, c1⟩, _, _⟩ := H1.out
  go_wp2_with fail
  refine (HB.out _).mono ?_
  rintro e w2 ⟨rfl, hb2⟩
  have H2 := Lib.hid (H1.out.step hb2); clear hb2
  obtain ⟨⟨a0, a1⟩, ⟨b0, b1⟩, ⟨c0, c1⟩, _, _⟩ := H2.out
  go_wp2_with fail
  refine (HC.out _).mono ?_
  rintro e w3 ⟨rfl, hb3⟩
  have H3 := Lib.hid (H2.out.step hb3); clear hb3
  obtain ⟨⟨a0, a1⟩, ⟨b0, b1⟩, ⟨c0, c1⟩, _, _⟩ := H3.out
  go_wp2_with fail
  go_region_held3 (fun w' => w'.cell? ⟨w.heap.size, 0, none⟩ = some (.int .i64 ax) ∧ w'.cell? ⟨w.heap.size, 1, none⟩ = some (.int .i64 ay) ∧ w'.cell? ⟨w.heap.size + 1, 0, none⟩ = some (.int .i64 bx) ∧ w'.cell? ⟨w.heap.size + 1, 1, none⟩ = some (.int .i64 by') ∧ w'.cell? ⟨w.heap.size + 1 + 1, 0, none⟩ = some (.int .i64 cx) ∧ w'.cell? ⟨w.heap.size + 1 + 1, 1, none⟩ = some (.int .i64 cy)) (first | go_keep | (refine ⟨?_, ?_, ?_, ?_, ?_, ?_⟩ <;> assumption)) (first | (go_at_call 128; (first | (with_reducible refine (HH1.out _).mono ?_) | (with_reducible refine (HH2.out _).mono ?_) | fail); rintro e wn ⟨rfl, hbn⟩; (first | (have HNA := Lib.hid (H3.out.drew.step hbn)) | (have HNB := Lib.hid (HNA.out.step hbn)) | fail); clear hbn; (first | (obtain ⟨⟨a0, a1⟩, ⟨b0, b1⟩, ⟨c0, c1⟩, _, _⟩ := HNB.out) | (obtain ⟨⟨a0, a1⟩, ⟨b0, b1⟩, ⟨c0, c1⟩, _, _⟩ := HNA.out) | fail)) | fail)
  have H4 := HNB
  clear HNA HNB H0 H1 H2 H3 a0 a1 b0 b1 c0 c1
  obtain ⟨⟨a0, a1⟩, ⟨b0, b1⟩, ⟨c0, c1⟩, _, _⟩ := H4.out
  go_wp2_with fail
  go_region_held3 (fun w' => w'.cell? ⟨w.heap.size, 0, none⟩ = some (.int .i64 ax) ∧ w'.cell? ⟨w.heap.size, 1, none⟩ = some (.int .i64 ay) ∧ w'.cell? ⟨w.heap.size + 1, 0, none⟩ = some (.int .i64 bx) ∧ w'.cell? ⟨w.heap.size + 1, 1, none⟩ = some (.int .i64 by') ∧ w'.cell? ⟨w.heap.size + 1 + 1, 0, none⟩ = some (.int .i64 cx) ∧ w'.cell? ⟨w.heap.size + 1 + 1, 1, none⟩ = some (.int .i64 cy)) (first | go_keep | (refine ⟨?_, ?_, ?_, ?_, ?_, ?_⟩ <;> assumption)) (first | (go_at_call 128; (first | (with_reducible refine (HH1.out _).mono ?_) | (with_reducible refine (HH2.out _).mono ?_) | fail); rintro e wn ⟨rfl, hbn⟩; (first | (have HNA := Lib.hid (H4.out.drew.step hbn)) | (have HNB := Lib.hid (HNA.out.step hbn)) | fail); clear hbn; (first | (obtain ⟨⟨a0, a1⟩, ⟨b0, b1⟩, ⟨c0, c1⟩, _, _⟩ := HNB.out) | (obtain ⟨⟨a0, a1⟩, ⟨b0, b1⟩, ⟨c0, c1⟩, _, _⟩ := HNA.out) | fail)) | fail)
  go_wp2_with fail
  go_ret
  exact ⟨rfl, HNB.out.2.2.2.2⟩

theorem before_turn (a b c : Nd) (w : World) (ha : okB a = true) (hb : okB b = true) (hc : okB c = true) (hne : (halfI a b == halfI a c) = true) :
    Calls Try.prog 117 #[a.val, b.val, c.val] w (BoolIs (decide (0 < turnI a b c)) w) := by
  have HA := Lib.hid (specNodeOk a)
  have HB := Lib.hid (specNodeOk b)
  have HC := Lib.hid (specNodeOk c)
  have H0 := Lib.hid (Six.start w a b c 56)
  rw [ha] at HA
  rw [hb] at HB
  rw [hc] at HC
  have HH1 := specHalf a b
  have HH2 := specHalf a c
  generalize halfI a b = p at *
  generalize halfI a c = q at *
  have HT := Lib.hid (fun w => specTurn a b c w ha hb hc)
  generalize turnI a b c = t at *
  clear ha hb hc
  obtain rfl : p = q := by simpa using hne
  clear hne
  obtain ⟨ax, ay⟩ := a
  obtain ⟨bx, by'⟩ := b
  obtain ⟨cx, cy⟩ := c
  unfold Nd.val
  unfold Nd.val at HH1 HH2
  have HH1 := Lib.hid HH1
  have HH2 := Lib.hid HH2
  go_enter Try.func117, Try.ntmps117
  go_wp2_with fail
  refine (HA.out _).mono ?_
  rintro e w1 ⟨rfl, hb1⟩
  have H1 := Lib.hid (H0.out.step hb1); clear hb1
  obtain ⟨⟨a0, a1⟩, ⟨b0, b1⟩, ⟨c0, c1⟩, _, _⟩ := H1.out
  go_wp2_with fail
  refine (HB.out _).mono ?_
  rintro e w2 ⟨rfl, hb2⟩
  have H2 := Lib.hid (H1.out.step hb2); clear hb2
  obtain ⟨⟨a0, a1⟩, ⟨b0, b1⟩, ⟨c0, c1⟩, _, _⟩ := H2.out
  go_wp2_with fail
  refine (HC.out _).mono ?_
  rintro e w3 ⟨rfl, hb3⟩
  have H3 := Lib.hid (H2.out.step hb3); clear hb3
  obtain ⟨⟨a0, a1⟩, ⟨b0, b1⟩, ⟨c0, c1⟩, _, _⟩ := H3.out
  go_wp2_with fail
  go_region_held3 (fun w' => w'.cell? ⟨w.heap.size, 0, none⟩ = some (.int .i64 ax) ∧ w'.cell? ⟨w.heap.size, 1, none⟩ = some (.int .i64 ay) ∧ w'.cell? ⟨w.heap.size + 1, 0, none⟩ = some (.int .i64 bx) ∧ w'.cell? ⟨w.heap.size + 1, 1, none⟩ = some (.int .i64 by') ∧ w'.cell? ⟨w.heap.size + 1 + 1, 0, none⟩ = some (.int .i64 cx) ∧ w'.cell? ⟨w.heap.size + 1 + 1, 1, none⟩ = some (.int .i64 cy)) (first | go_keep | (refine ⟨?_, ?_, ?_, ?_, ?_, ?_⟩ <;> assumption)) (first | (go_at_call 128; (first | (with_reducible refine (HH1.out _).mono ?_) | (with_reducible refine (HH2.out _).mono ?_) | fail); rintro e wn ⟨rfl, hbn⟩; (first | (have HNA := Lib.hid (H3.out.drew.step hbn)) | (have HNB := Lib.hid (HNA.out.step hbn)) | fail); clear hbn; (first | (obtain ⟨⟨a0, a1⟩, ⟨b0, b1⟩, ⟨c0, c1⟩, _, _⟩ := HNB.out) | (obtain ⟨⟨a0, a1⟩, ⟨b0, b1⟩, ⟨c0, c1⟩, _, _⟩ := HNA.out) | fail)) | fail)
  have H4 := HNB
  clear HNA HNB H0 H1 H2 H3 a0 a1 b0 b1 c0 c1
  obtain ⟨⟨a0, a1⟩, ⟨b0, b1⟩, ⟨c0, c1⟩, _, _⟩ := H4.out
  go_wp2_with fail
  refine (HT.out _).mono ?_
  rintro e w5 ⟨rfl, hb5⟩
  have H5 := Lib.hid (H4.out.step hb5); clear hb5
  go_wp2_with fail
  go_ret
  exact ⟨rfl, H5.out.2.2.2.2⟩

theorem specBefore (a b c : Nd) (w : World) :
    Calls Try.prog 117 #[a.val, b.val, c.val] w (BoolIs (beforeB a b c) w) := by
  unfold beforeB
  cases ha : okB a
  · simpa using before_a a b c w ha
  cases hb : okB b
  · simpa using before_b a b c w ha hb
  cases hc : okB c
  · simpa using before_c a b c w ha hb hc
  by_cases h : halfI a b = halfI a c
  · rw [if_pos h]; simpa using before_turn a b c w ha hb hc (by simpa using h)
  · rw [if_neg h]; simpa using before_half a b c w ha hb hc (by simpa using h)
end Go.Proofs.Ytghpbdgghliieac
