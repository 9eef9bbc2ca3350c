/-
  Whether a crate can be carried, of the model and of the program.
-/
import Derived.Test.YtfppnaknnijobabCrW
namespace Go.Proofs.Ytfppnaknnijobab
open Go.RowKit
set_option linter.unusedVariables false
set_option linter.unusedSimpArgs false

noncomputable def crOkB (ws ps : List Int) (l : Int) : Bool := inB (crW ws ps l) 0 l

set_option maxRecDepth 100000 in
theorem specCrOk (ws ps : List Int) (l : Int) (v u : Value) (w : World) (hv : Seq w v ws) (hp : Seq w u ps) (hl : ps.length ≤ 1048576) :
    Calls Try.prog 28 #[v, .agg #[u, .int .i64 l]] w (BoolIs (crOkB ws ps l) w) := by
  have HV := Lib.hid hv
  have HP := Lib.hid hp
  have HA := Lib.hid (fun w h1 h2 => specCrW ws ps l v u w h1 h2 hl)
  have HR := Lib.hid (show crOkB ws ps l = inB (crW ws ps l) 0 l from rfl)
  obtain ⟨A, c, rfl⟩ := seq_form2 hv
  obtain ⟨A2, c2, rfl⟩ := seq_form2 hp
  clear hv hp
  generalize crW ws ps l = n at *
  generalize crOkB ws ps l = r at *
  have HB := Lib.hid (specInB n 0 l)
  have H0 := Lib.hid ((Held.none_ w).new2 w.heap.size rfl [.slice A2 ps.length c2, .int .i64 l] 38)
  simp only [newFs, List.cons_append, List.nil_append, List.append_nil] at H0
  go_enter Try.func28, Try.ntmps28
  obtain ⟨x0, x1, _⟩ := H0.out.1
  go_wp2_with fail
  refine regionW (fun W => Held _ W [(w.heap.size, 0, .slice A2 ps.length c2), (w.heap.size, 1, .int .i64 (l))]) (by kernel_rfl) H0.out.drew ?_
  refine takeW (i := 0) (v := ?_) (Stable.held _ _) rfl (by kernel_rfl) (by kernel_rfl) (by kernel_rfl) (fun _ _ _ h => h) ?_ ?_
  rotate_left
  · first | (refine Or.inl ⟨by rfl, fun W hS => detR_value (w' := W) ?_ (Below.refl _ _)⟩; have hH := hS; obtain ⟨x0, x1, _⟩ := hH.1; go_simp; first | done | with_reducible rfl) | fail
  simp only [Act.put, List.setIfInBounds_toArray, List.set_cons_zero, List.set_cons_succ]
  refine takeW (i := 1) (v := ?_) (Stable.held _ _) rfl (by kernel_rfl) (by kernel_rfl) (by kernel_rfl) (fun _ _ _ h => h) ?_ ?_
  rotate_left
  · first | (refine Or.inl ⟨by rfl, fun W hS => detR_value (w' := W) ?_ (Below.refl _ _)⟩; have hH := hS; obtain ⟨x0, x1, _⟩ := hH.1; go_simp; first | done | with_reducible rfl) | fail
  simp only [Act.put, List.setIfInBounds_toArray, List.set_cons_zero, List.set_cons_succ]
  refine takeW (i := 2) (v := ?_) (Stable.held _ _) rfl (by kernel_rfl) (by kernel_rfl) (by kernel_rfl) (fun _ _ _ h => h) ?_ ?_
  rotate_left
  · first | (refine Or.inl ⟨by rfl, fun W hS => ?_⟩; have hH := hS; refine detR_call (w' := W) (f := ?_) (args := ?_) ?_ ?_; rotate_left 2; (go_simp; (refine ⟨?_, ?_⟩ <;> with_reducible rfl)); (first | (with_reducible refine (HA.out _ (HV.out.step hH.below) (HP.out.step hH.below)).mono ?_) | fail); (first | (rintro e wn ⟨rfl, hb⟩; refine ⟨?_, hb⟩; with_reducible rfl) | (rintro e wn ⟨rfl, rfl⟩; refine ⟨?_, Below.refl _ _⟩; with_reducible rfl) | fail)) | fail
  simp only [Act.put, List.setIfInBounds_toArray, List.set_cons_zero, List.set_cons_succ]
  refine takeW (i := 3) (v := ?_) (Stable.held _ _) rfl (by kernel_rfl) (by kernel_rfl) (by kernel_rfl) (fun _ _ _ h => h) ?_ ?_
  rotate_left
  · first | (refine Or.inl ⟨by rfl, fun W hS => detR_value (w' := W) ?_ (Below.refl _ _)⟩; have hH := hS; obtain ⟨x0, x1, _⟩ := hH.1; go_simp; first | done | with_reducible rfl) | fail
  simp only [Act.put, List.setIfInBounds_toArray, List.set_cons_zero, List.set_cons_succ]
  refine takeW (i := 4) (v := ?_) (Stable.held _ _) rfl (by kernel_rfl) (by kernel_rfl) (by kernel_rfl) (fun _ _ _ h => h) ?_ ?_
  rotate_left
  · first | (refine Or.inl ⟨by rfl, fun W hS => detR_value (w' := W) ?_ (Below.refl _ _)⟩; have hH := hS; obtain ⟨x0, x1, _⟩ := hH.1; go_simp; first | done | with_reducible rfl) | fail
  simp only [Act.put, List.setIfInBounds_toArray, List.set_cons_zero, List.set_cons_succ]
  refine takeW (i := 5) (v := ?_) (Stable.held _ _) rfl (by kernel_rfl) (by kernel_rfl) (by kernel_rfl) (fun _ _ _ h => h) ?_ ?_
  rotate_left
  · first | (refine Or.inl ⟨by rfl, fun W hS => ?_⟩; have hH := hS; refine detR_call (w' := W) (f := ?_) (args := ?_) ?_ ?_; rotate_left 2; (go_simp; (refine ⟨?_, ?_⟩ <;> with_reducible rfl)); (first | (with_reducible refine (HB.out _).mono ?_) | fail); (first | (rintro e wn ⟨rfl, hb⟩; refine ⟨?_, hb⟩; with_reducible rfl) | (rintro e wn ⟨rfl, rfl⟩; refine ⟨?_, Below.refl _ _⟩; with_reducible rfl) | fail)) | fail
  simp only [Act.put, List.setIfInBounds_toArray, List.set_cons_zero, List.set_cons_succ]
  refine takeW (i := 6) (v := ?_) (Stable.held _ _) rfl (by kernel_rfl) (by kernel_rfl) (by kernel_rfl) (fun _ _ _ h => h) ?_ ?_
  rotate_left
  · first | (refine Or.inl ⟨by rfl, fun W hS => detR_value (w' := W) ?_ (Below.refl _ _)⟩; have hH := hS; obtain ⟨x0, x1, _⟩ := hH.1; go_simp; first | done | with_reducible rfl) | fail
  simp only [Act.put, List.setIfInBounds_toArray, List.set_cons_zero, List.set_cons_succ]
  refine doneW (by kernel_rfl) fun wH1 HG => ?_
  have hH := HG
  have H1 := Lib.hid hH; clear hH
  try clear x0 x1
  obtain ⟨x0, x1, _⟩ := H1.out.1
  go_wp2_with fail
  go_ret
  exact ⟨ret_bool (by rw [HR.out]), H1.out.below⟩

set_option maxRecDepth 100000 in
theorem implCrOk (ws ps : List Int) (l : Int) (v u : Value) (w : World) (hv : Seq w v ws) (hp : Seq w u ps) (hl : ps.length ≤ 1048576) :
    Calls Try.prog 29 #[v, .agg #[u, .int .i64 l]] w (BoolIs (crOkB ws ps l) w) := by
  have HV := Lib.hid hv
  have HP := Lib.hid hp
  have HA := Lib.hid (fun w h1 h2 => implCrW ws ps l v u w h1 h2 hl)
  have HR := Lib.hid (show crOkB ws ps l = inB (crW ws ps l) 0 l from rfl)
  obtain ⟨A, c, rfl⟩ := seq_form2 hv
  obtain ⟨A2, c2, rfl⟩ := seq_form2 hp
  clear hv hp
  generalize crW ws ps l = n at *
  generalize crOkB ws ps l = r at *
  have HB := Lib.hid (inB_iff n 0 l)
  have H0 := Lib.hid ((Held.none_ w).new2 w.heap.size rfl [.slice A2 ps.length c2, .int .i64 l] 38)
  simp only [newFs, List.cons_append, List.nil_append, List.append_nil] at H0
  go_enter Try.func29, Try.ntmps29
  obtain ⟨x0, x1, _⟩ := H0.out.1
  go_wp2_with fail
  repeat' (first | ((first | (with_reducible refine (HA.out _ (HV.out.step H0.out.below) (HP.out.step H0.out.below)).mono ?_) | fail); rintro e wn ⟨rfl, hb⟩; have H0 := Lib.hid (H0.out.step hb); clear hb; (try clear x0 x1); obtain ⟨x0, x1, _⟩ := H0.out.1; go_wp2_with fail) | fail)
  all_goals
    go_ret
    exact ⟨ret_bool (by rw [HR.out, Bool.eq_iff_iff, HB.out]; simp; try omega), H0.out.below⟩
end Go.Proofs.Ytfppnaknnijobab
