/-
  Structs of four ints in view; what is asked of a recipe and of a tariff, of the model and of the program.
-/
import Derived.Test.YtfppnaknnijobabTri
namespace Go.Proofs.Ytfppnaknnijobab
open Go.RowKit
set_option linter.unusedVariables false
set_option linter.unusedSimpArgs false

structure Qd where
  x : Int
  y : Int
  z : Int
  u : Int
deriving DecidableEq
def Qd.val (t : Qd) : Value := .agg #[.int .i64 t.x, .int .i64 t.y, .int .i64 t.z, .int .i64 t.u]
def QdIs (t : Qd) (w : World) (e : Ending) (w' : World) : Prop := e = .returned t.val ∧ Below w.heap.size w w'
theorem heldQ1 (w : World) (a : Qd) (T : TypeId) : Held w (w.alloc (.cells #[.int .i64 a.x, .int .i64 a.y, .int .i64 a.z, .int .i64 a.u] T)) [(w.heap.size, 0, .int .i64 a.x), (w.heap.size, 1, .int .i64 a.y), (w.heap.size, 2, .int .i64 a.z), (w.heap.size, 3, .int .i64 a.u)] :=
  (Held.none_ w).new2 w.heap.size rfl [.int .i64 a.x, .int .i64 a.y, .int .i64 a.z, .int .i64 a.u] T
theorem heldQ2 (w : World) (a b : Qd) (T U : TypeId) : Held w ((w.alloc (.cells #[.int .i64 a.x, .int .i64 a.y, .int .i64 a.z, .int .i64 a.u] T)).alloc (.cells #[.int .i64 b.x, .int .i64 b.y, .int .i64 b.z, .int .i64 b.u] U)) [(w.heap.size + 1, 0, .int .i64 b.x), (w.heap.size + 1, 1, .int .i64 b.y), (w.heap.size + 1, 2, .int .i64 b.z), (w.heap.size + 1, 3, .int .i64 b.u), (w.heap.size, 0, .int .i64 a.x), (w.heap.size, 1, .int .i64 a.y), (w.heap.size, 2, .int .i64 a.z), (w.heap.size, 3, .int .i64 a.u)] :=
  (heldQ1 w a T).new2 (w.heap.size + 1) (by simp) [.int .i64 b.x, .int .i64 b.y, .int .i64 b.z, .int .i64 b.u] U

theorem toRecipe_any (t : Qd) (w : World) :
    Calls Try.prog 78 #[t.val] w (QdIs t w) := by
  obtain ⟨x, y, z, u⟩ := t
  unfold Qd.val
  go_enter Try.func78, Try.ntmps78
  go_wp2_with fail
  refine bodyPost_ret (v := .agg #[.int .i64 x, .int .i64 y, .int .i64 z, .int .i64 u]) (by simp [results, Try.results78, go_sem]) rfl ⟨rfl, below3 w _ _ _⟩

def qdB (t : Qd) : Bool := inB t.x 0 1000 && inB t.y 0 1000 && inB t.z 0 1000 && inB t.u 0 1000
theorem qdB_iff (t : Qd) : qdB t = true ↔ (0 ≤ t.x ∧ t.x ≤ 1000) ∧ (0 ≤ t.y ∧ t.y ≤ 1000) ∧ (0 ≤ t.z ∧ t.z ≤ 1000) ∧ (0 ≤ t.u ∧ t.u ≤ 1000) := by simp [qdB, inB, and_assoc]
def recB (t : Qd) : Bool := qdB t && decide (t.x + t.y + t.z + t.u = 1000)

set_option maxRecDepth 100000 in
theorem specRecipe (f : Qd) (w : World) :
    Calls Try.prog 106 #[f.val] w (BoolIs (recB f) w) := by
  have HA := Lib.hid (fun w => specInB f.x 0 1000 w)
  have HB := Lib.hid (fun w => specInB f.y 0 1000 w)
  have HC := Lib.hid (fun w => specInB f.z 0 1000 w)
  have HD := Lib.hid (fun w => specInB f.u 0 1000 w)
  have HR := Lib.hid (show recB f = (inB f.x 0 1000 && inB f.y 0 1000 && inB f.z 0 1000 && inB f.u 0 1000 && decide (f.x + f.y + f.z + f.u = 1000)) from rfl)
  have HQ := Lib.hid (qdB_iff f)
  have HQ2 := Lib.hid (show qdB f = (inB f.x 0 1000 && inB f.y 0 1000 && inB f.z 0 1000 && inB f.u 0 1000) from rfl)
  have H0 := Lib.hid (heldQ1 w f 47)
  obtain ⟨x, y, z, u⟩ := f
  simp only at HA HB HC HD HR H0 HQ HQ2
  generalize recB ⟨x, y, z, u⟩ = r at *
  generalize qdB ⟨x, y, z, u⟩ = q at *
  generalize inB x 0 1000 = d1 at *
  generalize inB y 0 1000 = d2 at *
  generalize inB z 0 1000 = d3 at *
  generalize inB u 0 1000 = d4 at *
  unfold Qd.val at *
  by_cases hq : q = true
  · have hd : d1 = true ∧ d2 = true ∧ d3 = true ∧ d4 = true := by have := HQ2.out; rw [hq] at this; simpa [Bool.and_eq_true, and_assoc] using this.symm
    obtain ⟨rfl, rfl, rfl, rfl⟩ := hd
    obtain ⟨⟨l1, g1⟩, ⟨l2, g2⟩, ⟨l3, g3⟩, l4, g4⟩ := HQ.out.1 hq
    clear hq
    have e1 : IntKind.i64.wrap (x + y) = x + y := IntWalk.i64_in _ (by omega)
    have e2 : IntKind.i64.wrap (x + y + z) = x + y + z := IntWalk.i64_in _ (by omega)
    have e3 : IntKind.i64.wrap (x + y + z + u) = x + y + z + u := IntWalk.i64_in _ (by omega)
    go_enter Try.func106, Try.ntmps106
    go_wp2_with fail
    repeat' (first | ((first | (with_reducible refine (HA.out _).mono ?_) | (with_reducible refine (HB.out _).mono ?_) | (with_reducible refine (HC.out _).mono ?_) | (with_reducible refine (HD.out _).mono ?_) | fail); rintro e wn ⟨rfl, hb⟩; have H0 := Lib.hid (H0.out.step hb); clear hb; (try clear x0 x1 x2 x3); obtain ⟨x0, x1, x2, x3, _⟩ := H0.out.1; go_wp2_with fail) | fail)
    go_ret
    exact ⟨ret_bool (by rw [HR.out, Bool.eq_iff_iff]; simp), H0.out.below⟩
  · have hf : (d1 && d2 && d3 && d4) = false := by rw [← HQ2.out]; simpa using hq
    have HF := Lib.hid hf; clear hf hq
    cases d1 <;> cases d2 <;> cases d3 <;> cases d4
    all_goals first | (exact absurd HF.out (by decide)) | skip
    all_goals
      go_enter Try.func106, Try.ntmps106
      go_wp2_with fail
      repeat' (first | ((first | (with_reducible refine (HA.out _).mono ?_) | (with_reducible refine (HB.out _).mono ?_) | (with_reducible refine (HC.out _).mono ?_) | (with_reducible refine (HD.out _).mono ?_) | fail); rintro e wn ⟨rfl, hb⟩; have H0 := Lib.hid (H0.out.step hb); clear hb; (try clear x0 x1 x2 x3); obtain ⟨x0, x1, x2, x3, _⟩ := H0.out.1; go_wp2_with fail) | fail)
      go_ret
      exact ⟨ret_bool (by rw [HR.out]; simp), H0.out.below⟩

theorem implParts (f : Qd) (w : World) :
    Calls Try.prog 125 #[f.val] w (QdIs f w) := by
  obtain ⟨x, y, z, u⟩ := f
  unfold Qd.val
  go_enter Try.func125, Try.ntmps125
  go_wp2_with fail
  refine bodyPost_ret (v := .agg #[.int .i64 x, .int .i64 y, .int .i64 z, .int .i64 u]) (by simp [results, Try.results125, go_sem]) rfl ⟨rfl, below2 w _ _⟩

theorem at4 (x y z u : Int) (w : World) :
    (Instr.index 158 (.agg #[.int .i64 x, .int .i64 y, .int .i64 z, .int .i64 u]) (.int .i64 0)).run Try.prog w = .ok (.int .i64 x) w ∧
    (Instr.index 158 (.agg #[.int .i64 x, .int .i64 y, .int .i64 z, .int .i64 u]) (.int .i64 1)).run Try.prog w = .ok (.int .i64 y) w ∧
    (Instr.index 158 (.agg #[.int .i64 x, .int .i64 y, .int .i64 z, .int .i64 u]) (.int .i64 2)).run Try.prog w = .ok (.int .i64 z) w ∧
    (Instr.index 158 (.agg #[.int .i64 x, .int .i64 y, .int .i64 z, .int .i64 u]) (.int .i64 3)).run Try.prog w = .ok (.int .i64 u) w := by
  refine ⟨?_, ?_, ?_, ?_⟩ <;> kernel_rfl

set_option maxRecDepth 100000 in
set_option maxHeartbeats 1000000 in
theorem implRecipe (f : Qd) (w : World) :
    Calls Try.prog 109 #[f.val] w (BoolIs (recB f) w) := by
  have HA := Lib.hid (implParts f)
  have HR := Lib.hid (show recB f = (inB f.x 0 1000 && inB f.y 0 1000 && inB f.z 0 1000 && inB f.u 0 1000 && decide (f.x + f.y + f.z + f.u = 1000)) from rfl)
  have hr : recB f = decide (((0 ≤ f.x ∧ f.x ≤ 1000) ∧ (0 ≤ f.y ∧ f.y ≤ 1000) ∧ (0 ≤ f.z ∧ f.z ≤ 1000) ∧ (0 ≤ f.u ∧ f.u ≤ 1000)) ∧ f.x + f.y + f.z + f.u = 1000) := by rw [Bool.eq_iff_iff]; unfold recB; simp [qdB_iff]
  have H0 := Lib.hid (heldQ1 w f 47)
  clear HR
  obtain ⟨x, y, z, u⟩ := f
  simp only at hr
  generalize recB ⟨x, y, z, u⟩ = r at *
  have HR := Lib.hid hr; clear hr
  unfold QdIs at HA
  unfold Qd.val at *
  simp only at H0 HA
  have i0 : ∀ w : World, (Instr.index 158 (.agg #[.int .i64 x, .int .i64 y, .int .i64 z, .int .i64 u]) (.int .i64 0)).run Try.prog w = .ok (.int .i64 x) w := fun _ => by kernel_rfl
  have i1 : ∀ w : World, (Instr.index 158 (.agg #[.int .i64 x, .int .i64 y, .int .i64 z, .int .i64 u]) (.int .i64 1)).run Try.prog w = .ok (.int .i64 y) w := fun _ => by kernel_rfl
  have i2 : ∀ w : World, (Instr.index 158 (.agg #[.int .i64 x, .int .i64 y, .int .i64 z, .int .i64 u]) (.int .i64 2)).run Try.prog w = .ok (.int .i64 z) w := fun _ => by kernel_rfl
  have i3 : ∀ w : World, (Instr.index 158 (.agg #[.int .i64 x, .int .i64 y, .int .i64 z, .int .i64 u]) (.int .i64 3)).run Try.prog w = .ok (.int .i64 u) w := fun _ => by kernel_rfl
  by_cases hx : 0 ≤ x ∧ x ≤ 1000
  case neg =>
    have HX := Lib.hid hx
    go_enter Try.func109, Try.ntmps109
    go_wp2_with fail
    refine (HA.out _).mono ?_
    rintro e wH1 ⟨rfl, hb⟩
    have H1 := Lib.hid ((H0.out).step hb); clear hb
    try clear x0 x1 x2 x3
    obtain ⟨x0, x1, x2, x3, _⟩ := H1.out.1
    go_wp2_with fail
    refine wp_loop_rounds 5 ?_
    rw [rounds_succ]
    go_wp2_with fail
    all_goals first | (exfalso; have := HX.out; omega) | skip
    all_goals (go_ret; exact ⟨ret_bool (by rw [HR.out]; have := HX.out; simp; intros; omega), H1.out.below⟩)
  by_cases hy : 0 ≤ y ∧ y ≤ 1000
  case neg =>
    obtain ⟨k1, k2⟩ := hx
    have HX := Lib.hid hy; clear hy
    have e1 : IntKind.i64.wrap x = x := IntWalk.i64_in _ (by omega)
    go_enter Try.func109, Try.ntmps109
    go_wp2_with fail
    refine (HA.out _).mono ?_
    rintro e wH1 ⟨rfl, hb⟩
    have H1 := Lib.hid ((H0.out).step hb); clear hb
    try clear x0 x1 x2 x3
    obtain ⟨x0, x1, x2, x3, _⟩ := H1.out.1
    go_wp2_with fail
    refine wp_loop_rounds 5 ?_
    rw [rounds_succ]
    go_wp2_with fail
    rw [rounds_succ]
    go_wp2_with fail
    all_goals first | (exfalso; have := HX.out; omega) | skip
    all_goals (go_ret; exact ⟨ret_bool (by rw [HR.out]; have := HX.out; simp; intros; omega), H1.out.below⟩)
  by_cases hz : 0 ≤ z ∧ z ≤ 1000
  case neg =>
    obtain ⟨k1, k2⟩ := hx
    obtain ⟨k3, k4⟩ := hy
    have HX := Lib.hid hz; clear hz
    have e1 : IntKind.i64.wrap x = x := IntWalk.i64_in _ (by omega)
    have e2 : IntKind.i64.wrap (x + y) = x + y := IntWalk.i64_in _ (by omega)
    go_enter Try.func109, Try.ntmps109
    go_wp2_with fail
    refine (HA.out _).mono ?_
    rintro e wH1 ⟨rfl, hb⟩
    have H1 := Lib.hid ((H0.out).step hb); clear hb
    try clear x0 x1 x2 x3
    obtain ⟨x0, x1, x2, x3, _⟩ := H1.out.1
    go_wp2_with fail
    refine wp_loop_rounds 5 ?_
    rw [rounds_succ]
    go_wp2_with fail
    rw [rounds_succ]
    go_wp2_with fail
    rw [rounds_succ]
    go_wp2_with fail
    all_goals first | (exfalso; have := HX.out; omega) | skip
    all_goals (go_ret; exact ⟨ret_bool (by rw [HR.out]; have := HX.out; simp; intros; omega), H1.out.below⟩)
  obtain ⟨k1, k2⟩ := hx
  obtain ⟨k3, k4⟩ := hy
  obtain ⟨k5, k6⟩ := hz
  have e1 : IntKind.i64.wrap x = x := IntWalk.i64_in _ (by omega)
  have e2 : IntKind.i64.wrap (x + y) = x + y := IntWalk.i64_in _ (by omega)
  have e3 : IntKind.i64.wrap (x + y + z) = x + y + z := IntWalk.i64_in _ (by omega)
  by_cases hu : 0 ≤ u ∧ u ≤ 1000
  case neg =>
    have HX := Lib.hid hu; clear hu
    go_enter Try.func109, Try.ntmps109
    go_wp2_with fail
    refine (HA.out _).mono ?_
    rintro e wH1 ⟨rfl, hb⟩
    have H1 := Lib.hid ((H0.out).step hb); clear hb
    try clear x0 x1 x2 x3
    obtain ⟨x0, x1, x2, x3, _⟩ := H1.out.1
    go_wp2_with fail
    refine wp_loop_rounds 5 ?_
    rw [rounds_succ]
    go_wp2_with fail
    rw [rounds_succ]
    go_wp2_with fail
    rw [rounds_succ]
    go_wp2_with fail
    rw [rounds_succ]
    go_wp2_with fail
    all_goals first | (exfalso; have := HX.out; omega) | skip
    all_goals (go_ret; exact ⟨ret_bool (by rw [HR.out]; have := HX.out; simp; intros; omega), H1.out.below⟩)
  obtain ⟨k7, k8⟩ := hu
  have e4 : IntKind.i64.wrap (x + y + z + u) = x + y + z + u := IntWalk.i64_in _ (by omega)
  go_enter Try.func109, Try.ntmps109
  go_wp2_with fail
  refine (HA.out _).mono ?_
  rintro e wH1 ⟨rfl, hb⟩
  have H1 := Lib.hid ((H0.out).step hb); clear hb
  try clear x0 x1 x2 x3
  obtain ⟨x0, x1, x2, x3, _⟩ := H1.out.1
  go_wp2_with fail
  refine wp_loop_rounds 5 ?_
  rw [rounds_succ]
  go_wp2_with fail
  rw [rounds_succ]
  go_wp2_with fail
  rw [rounds_succ]
  go_wp2_with fail
  rw [rounds_succ]
  go_wp2_with fail
  rw [rounds_succ]
  go_wp2_with fail
  go_ret
  exact ⟨ret_bool (by rw [HR.out, Bool.eq_iff_iff]; simp; try omega), H1.out.below⟩

end Go.Proofs.Ytfppnaknnijobab
