/-
  Which two panes can be fired together, of the model and of the program.
-/
import Derived.Test.YtghpbdgghliieaaTri
namespace Go.Proofs.Ytghpbdgghliieaa
open Go.RowKit
set_option linter.unusedVariables false
set_option linter.unusedSimpArgs false

def likeB (f g : Tr) : Bool := decide (f.x = g.x) && decide (f.y = g.y)
def fshareB (f g : Tr) : Bool := fireB f && fireB g && (likeB f g && decide (f.z + g.z ≤ 100))
theorem fireB_iff (t : Tr) : fireB t = true ↔ (400 ≤ t.x ∧ t.x ≤ 900) ∧ (1 ≤ t.y ∧ t.y ≤ 24) ∧ (1 ≤ t.z ∧ t.z ≤ 100) := triB_iff 400 900 1 24 1 100 t

set_option maxRecDepth 100000 in
theorem specShare (f g : Tr) (w : World) :
    Calls Try.prog 10 #[f.val, g.val] w (BoolIs (fshareB f g) w) := by
  have HA := Lib.hid (specFiringOk f)
  have HB := Lib.hid (specFiringOk g)
  have HR := Lib.hid (show fshareB f g = (fireB f && fireB g && (decide (f.x = g.x) && decide (f.y = g.y) && decide (f.z + g.z ≤ 100))) from rfl)
  have HF := Lib.hid (fireB_iff f)
  have HG := Lib.hid (fireB_iff g)
  have H0 := Lib.hid (heldT2 w f g 25 25)
  generalize fshareB f g = r at *
  generalize fireB f = b1 at *
  generalize fireB g = b2 at *
  obtain ⟨x, y, z⟩ := f
  obtain ⟨a, b, c⟩ := g
  unfold Tr.val at *
  simp only at H0 HA HB HR HF HG
  by_cases hb : (b1 && b2) = true
  · obtain ⟨rfl, rfl⟩ : b1 = true ∧ b2 = true := by simpa [Bool.and_eq_true] using hb
    clear hb
    obtain ⟨⟨k1, k2⟩, ⟨k3, k4⟩, k5, k6⟩ := HF.out.1 rfl
    obtain ⟨⟨l1, l2⟩, ⟨l3, l4⟩, l5, l6⟩ := HG.out.1 rfl
    have e1 : IntKind.i64.wrap (z + c) = z + c := IntWalk.i64_in _ (by omega)
    go_enter Try.func10, Try.ntmps10
    go_wp2_with fail
    repeat' (first | ((first | (with_reducible refine (HA.out _).mono ?_) | (with_reducible refine (HB.out _).mono ?_) | fail); rintro e wn ⟨rfl, hb⟩; have H0 := Lib.hid (H0.out.step hb); clear hb; (try clear x0 x1 x2 x3 x4 x5); obtain ⟨x0, x1, x2, x3, x4, x5, _⟩ := H0.out.1; go_wp2_with fail) | fail)
    all_goals
      go_ret
      exact ⟨ret_bool (by rw [HR.out, Bool.eq_iff_iff]; simp; try omega), H0.out.below⟩
  · have HQ := Lib.hid hb; clear hb HF HG
    cases b1 <;> cases b2
    all_goals first | (exact absurd (by rfl) HQ.out) | skip
    all_goals
      go_enter Try.func10, Try.ntmps10
      go_wp2_with fail
      repeat' (first | ((first | (with_reducible refine (HA.out _).mono ?_) | (with_reducible refine (HB.out _).mono ?_) | fail); rintro e wn ⟨rfl, hb⟩; have H0 := Lib.hid (H0.out.step hb); clear hb; (try clear x0 x1 x2 x3 x4 x5); obtain ⟨x0, x1, x2, x3, x4, x5, _⟩ := H0.out.1; go_wp2_with fail) | fail)
      go_ret
      exact ⟨ret_bool (by rw [HR.out]; simp), H0.out.below⟩

theorem implLike (f g : Tr) (w : World) :
    Calls Try.prog 45 #[f.val, g.val] w (BoolIs (likeB f g) w) := by
  have HR := Lib.hid (show likeB f g = (decide (f.x = g.x) && decide (f.y = g.y)) from rfl)
  have H0 := Lib.hid (heldT2 w f g 25 25)
  generalize likeB f g = r at *
  obtain ⟨x, y, z⟩ := f
  obtain ⟨a, b, c⟩ := g
  unfold Tr.val at *
  simp only at H0 HR
  go_enter Try.func45, Try.ntmps45
  go_wp2_with fail
  all_goals
    go_ret
    exact ⟨ret_bool (by rw [HR.out, Bool.eq_iff_iff]; simp; try omega), below2 w _ _⟩

set_option maxRecDepth 100000 in
set_option maxHeartbeats 1000000 in
theorem implBatch2 (f g : Tr) (B : Nat) (w w0 : World) (hb : Held w0 w [(B, 0, .int .i64 f.x), (B, 1, .int .i64 f.y), (B, 2, .int .i64 f.z), (B, 3, .int .i64 g.x), (B, 4, .int .i64 g.y), (B, 5, .int .i64 g.z)]) (hf : fireB f = true) (hg : fireB g = true) :
    Calls Try.prog 31 #[.slice (some ⟨B, 0, none⟩) 2 2] w (fun e w' => e = .returned (.bool (likeB f g && decide (f.z + g.z ≤ 100))) ∧ Below w.heap.size w w') := by
  have H0 := Lib.hid (show Held w w _ from ⟨hb.1, hb.2.1, Below.refl _ _⟩)
  have hBw : B < w.heap.size := hb.2.1.1
  clear hb
  have HA := Lib.hid (implLike f f)
  have HB := Lib.hid (implLike g f)
  have hlf : likeB f f = true := by simp [likeB]
  rw [hlf] at HA; clear hlf
  have hlg : likeB g f = likeB f g := by unfold likeB; rw [decide_eq_decide.2 (eq_comm (a := g.x)), decide_eq_decide.2 (eq_comm (a := g.y))]
  rw [hlg] at HB; clear hlg
  obtain ⟨_, _, k5, k6⟩ := (fireB_iff f).1 hf
  obtain ⟨_, _, l5, l6⟩ := (fireB_iff g).1 hg
  clear hf hg
  generalize likeB f g = d at *
  obtain ⟨x, y, z⟩ := f
  obtain ⟨a, b, c⟩ := g
  unfold Tr.val at *
  simp only at H0 HA HB k5 k6 l5 l6
  have e0 : IntKind.i64.wrap (0 + z) = z := by rw [Int.zero_add]; exact IntWalk.i64_in _ (by omega)
  have e0' : IntKind.i64.wrap z = z := IntWalk.i64_in _ (by omega)
  have e1 : IntKind.i64.wrap (z + c) = z + c := IntWalk.i64_in _ (by omega)
  obtain ⟨x0, x1, x2, x3, x4, x5, _⟩ := H0.out.1
  go_enter Try.func31, Try.ntmps31
  go_wp2_with fail
  refine wp_loop_rounds 3 ?_
  rw [rounds_succ]
  go_wp2_with fail
  have H1 := Lib.hid (H0.out.new2 w.heap.size rfl [.int .i64 x, .int .i64 y, .int .i64 z] 25)
  clear x0 x1 x2 x3 x4 x5
  refine regionD (S := fun W => Held _ W [(w.heap.size, 0, .int .i64 (x)), (w.heap.size, 1, .int .i64 (y)), (w.heap.size, 2, .int .i64 (z)), (B, 0, .int .i64 (x)), (B, 1, .int .i64 (y)), (B, 2, .int .i64 (z)), (B, 3, .int .i64 (a)), (B, 4, .int .i64 (b)), (B, 5, .int .i64 (c))]) (by kernel_rfl) H1.out.drew ?_
  iterate 6 (refine takeT (v := ?_) rfl (by kernel_rfl) (by kernel_rfl) (by kernel_rfl) ?_ ?_; rotate_left; (first | (refine Or.inr ⟨by rfl, ?_⟩; with_reducible rfl) | (refine Or.inl ⟨by rfl, fun W hS => detRes_value (w' := W) ?_ hS⟩; obtain ⟨x0, x1, x2, x3, x4, x5, x6, x7, x8, _⟩ := hS.1; go_simp; first | done | with_reducible rfl) | (refine Or.inl ⟨by rfl, fun W hS => ?_⟩; refine detRes_call (w' := W) (f := ?_) (args := ?_) ?_ ?_; rotate_left 2; (go_simp; (refine ⟨?_, ?_⟩ <;> with_reducible rfl)); (first | (with_reducible refine (HA.out _).mono ?_) | fail); (first | (rintro e wn ⟨rfl, hb⟩; refine ⟨?_, hS.step hb⟩; with_reducible rfl) | (rintro e wn ⟨rfl, rfl⟩; refine ⟨?_, hS⟩; with_reducible rfl) | fail)) | fail); (simp only [Act.put, List.setIfInBounds_toArray, List.set_cons_zero, List.set_cons_succ]))
  refine doneD (by kernel_rfl) fun wH2 HS => ?_
  have H2 := Lib.hid HS; clear HS
  try clear x0 x1 x2 x3 x4 x5 x6 x7 x8
  obtain ⟨x0, x1, x2, x3, x4, x5, x6, x7, x8, _⟩ := H2.out.1
  go_wp2_with fail
  rw [rounds_succ]
  go_wp2_with fail
  have H3 := Lib.hid ((H2.out.only (gs := [(B, 0, .int .i64 x), (B, 1, .int .i64 y), (B, 2, .int .i64 z), (B, 3, .int .i64 a), (B, 4, .int .i64 b), (B, 5, .int .i64 c)]) (fun ⟨_, _, _, h⟩ => h) (fun ⟨_, _, _, h⟩ => h)).new2 wH2.heap.size rfl [.int .i64 a, .int .i64 b, .int .i64 c] 25)
  clear x0 x1 x2 x3 x4 x5 x6 x7 x8
  cases d
  · skip
    refine regionD (S := fun W => Held _ W [(wH2.heap.size, 0, .int .i64 (a)), (wH2.heap.size, 1, .int .i64 (b)), (wH2.heap.size, 2, .int .i64 (c)), (B, 0, .int .i64 (x)), (B, 1, .int .i64 (y)), (B, 2, .int .i64 (z)), (B, 3, .int .i64 (a)), (B, 4, .int .i64 (b)), (B, 5, .int .i64 (c))]) (by kernel_rfl) H3.out.drew ?_
    iterate 6 (refine takeT (v := ?_) rfl (by kernel_rfl) (by kernel_rfl) (by kernel_rfl) ?_ ?_; rotate_left; (first | (refine Or.inr ⟨by rfl, ?_⟩; with_reducible rfl) | (refine Or.inl ⟨by rfl, fun W hS => detRes_value (w' := W) ?_ hS⟩; obtain ⟨x0, x1, x2, x3, x4, x5, x6, x7, x8, _⟩ := hS.1; go_simp; first | done | with_reducible rfl) | (refine Or.inl ⟨by rfl, fun W hS => ?_⟩; refine detRes_call (w' := W) (f := ?_) (args := ?_) ?_ ?_; rotate_left 2; (go_simp; (refine ⟨?_, ?_⟩ <;> with_reducible rfl)); (first | (with_reducible refine (HB.out _).mono ?_) | fail); (first | (rintro e wn ⟨rfl, hb⟩; refine ⟨?_, hS.step hb⟩; with_reducible rfl) | (rintro e wn ⟨rfl, rfl⟩; refine ⟨?_, hS⟩; with_reducible rfl) | fail)) | fail); (simp only [Act.put, List.setIfInBounds_toArray, List.set_cons_zero, List.set_cons_succ]))
    refine doneD (by kernel_rfl) fun wH4 HS => ?_
    have H4 := Lib.hid HS; clear HS
    try clear x0 x1 x2 x3 x4 x5 x6 x7 x8
    obtain ⟨x0, x1, x2, x3, x4, x5, x6, x7, x8, _⟩ := H4.out.1
    go_wp2_with fail
    go_ret
    exact ⟨rfl, H4.out.below⟩
  · skip
    refine regionD (S := fun W => Held _ W [(wH2.heap.size, 0, .int .i64 (a)), (wH2.heap.size, 1, .int .i64 (b)), (wH2.heap.size, 2, .int .i64 (c)), (B, 0, .int .i64 (x)), (B, 1, .int .i64 (y)), (B, 2, .int .i64 (z)), (B, 3, .int .i64 (a)), (B, 4, .int .i64 (b)), (B, 5, .int .i64 (c))]) (by kernel_rfl) H3.out.drew ?_
    iterate 6 (refine takeT (v := ?_) rfl (by kernel_rfl) (by kernel_rfl) (by kernel_rfl) ?_ ?_; rotate_left; (first | (refine Or.inr ⟨by rfl, ?_⟩; with_reducible rfl) | (refine Or.inl ⟨by rfl, fun W hS => detRes_value (w' := W) ?_ hS⟩; obtain ⟨x0, x1, x2, x3, x4, x5, x6, x7, x8, _⟩ := hS.1; go_simp; first | done | with_reducible rfl) | (refine Or.inl ⟨by rfl, fun W hS => ?_⟩; refine detRes_call (w' := W) (f := ?_) (args := ?_) ?_ ?_; rotate_left 2; (go_simp; (refine ⟨?_, ?_⟩ <;> with_reducible rfl)); (first | (with_reducible refine (HB.out _).mono ?_) | fail); (first | (rintro e wn ⟨rfl, hb⟩; refine ⟨?_, hS.step hb⟩; with_reducible rfl) | (rintro e wn ⟨rfl, rfl⟩; refine ⟨?_, hS⟩; with_reducible rfl) | fail)) | fail); (simp only [Act.put, List.setIfInBounds_toArray, List.set_cons_zero, List.set_cons_succ]))
    refine doneD (by kernel_rfl) fun wH4 HS => ?_
    have H4 := Lib.hid HS; clear HS
    try clear x0 x1 x2 x3 x4 x5 x6 x7 x8
    obtain ⟨x0, x1, x2, x3, x4, x5, x6, x7, x8, _⟩ := H4.out.1
    go_wp2_with fail
    rw [rounds_succ]
    go_wp2_with fail
    all_goals
      go_ret
      exact ⟨ret_bool (by simp; try omega), H4.out.below⟩

set_option maxRecDepth 100000 in
theorem implShare (f g : Tr) (w : World) :
    Calls Try.prog 12 #[f.val, g.val] w (BoolIs (fshareB f g) w) := by
  have HA := Lib.hid (implFire f)
  have HB := Lib.hid (implFire g)
  have HC := Lib.hid (fun B w w0 hb => implBatch2 f g B w w0 hb)
  have HR := Lib.hid (show fshareB f g = (fireB f && fireB g && (likeB f g && decide (f.z + g.z ≤ 100))) from rfl)
  have H0 := Lib.hid (heldT2 w f g 25 25)
  generalize fshareB f g = r at *
  generalize fireB f = b1 at *
  generalize fireB g = b2 at *
  generalize (likeB f g && decide (f.z + g.z ≤ 100)) = d at *
  obtain ⟨x, y, z⟩ := f
  obtain ⟨a, b, c⟩ := g
  unfold Tr.val at *
  simp only at H0 HA HB HC
  by_cases hb : (b1 && b2) = true
  · obtain ⟨rfl, rfl⟩ : b1 = true ∧ b2 = true := by simpa [Bool.and_eq_true] using hb
    clear hb
    go_enter Try.func12, Try.ntmps12
    go_wp2_with fail
    refine (HA.out _).mono ?_
    rintro e wH1 ⟨rfl, hb⟩
    have H1 := Lib.hid ((H0.out).step hb); clear hb
    try clear x0 x1 x2 x3 x4 x5
    obtain ⟨x0, x1, x2, x3, x4, x5, _⟩ := H1.out.1
    go_wp2_with fail
    refine (HB.out _).mono ?_
    rintro e wH2 ⟨rfl, hb⟩
    have H2 := Lib.hid ((H1.out).step hb); clear hb
    try clear x0 x1 x2 x3 x4 x5
    obtain ⟨x0, x1, x2, x3, x4, x5, _⟩ := H2.out.1
    go_wp2_with fail
    have H3 := Lib.hid (H2.out.drop.new2 wH2.heap.size rfl [.int .i64 x, .int .i64 y, .int .i64 z, .int .i64 a, .int .i64 b, .int .i64 c] 25)
    refine (HC.out wH2.heap.size _ _ H3.out trivial trivial).mono ?_
    rintro e wn ⟨rfl, hb⟩
    have H4 := Lib.hid (H3.out.step hb); clear hb
    go_wp2_with fail
    go_ret
    exact ⟨ret_bool (by rw [HR.out]; simp), H4.out.below⟩
  · have HQ := Lib.hid hb; clear hb
    cases b1 <;> cases b2
    all_goals first | (exact absurd (by rfl) HQ.out) | skip
    all_goals
      go_enter Try.func12, Try.ntmps12
      go_wp2_with fail
      repeat' (first | ((first | (with_reducible refine (HA.out _).mono ?_) | (with_reducible refine (HB.out _).mono ?_) | fail); rintro e wn ⟨rfl, hb⟩; have H0 := Lib.hid (H0.out.step hb); clear hb; (try clear x0 x1 x2 x3 x4 x5); obtain ⟨x0, x1, x2, x3, x4, x5, _⟩ := H0.out.1; go_wp2_with fail) | fail)
      go_ret
      exact ⟨ret_bool (by rw [HR.out]; simp), H0.out.below⟩
end Go.Proofs.Ytghpbdgghliieaa
