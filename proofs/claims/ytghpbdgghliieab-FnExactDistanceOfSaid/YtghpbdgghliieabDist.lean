/-
  The distance of two recipes, of the model and of the program.
-/
import Derived.Test.YtghpbdgghliieabRec
namespace Go.Proofs.Ytghpbdgghliieab
open Go.RowKit
set_option linter.unusedVariables false
set_option linter.unusedSimpArgs false

def gapI (a b : Int) : Int := max (a - b) (b - a)
theorem gapI_bd {a b : Int} (h1 : 0 ≤ a) (h2 : a ≤ 1000) (h3 : 0 ≤ b) (h4 : b ≤ 1000) : 0 ≤ gapI a b ∧ gapI a b ≤ 1000 := by unfold gapI; omega
def distI (r s : Qd) : Int := if recB r && recB s then gapI r.x s.x + gapI r.y s.y + gapI r.z s.z + gapI r.u s.u else -1

theorem specGap (a b : Int) (w : World) (h1 : 0 ≤ a) (h2 : a ≤ 1000) (h3 : 0 ≤ b) (h4 : b ≤ 1000) :
    Calls Try.prog 43 #[.int .i64 a, .int .i64 b] w (IntIs (gapI a b) w) := by
  have HR := Lib.hid (show gapI a b = max (a - b) (b - a) from rfl)
  generalize gapI a b = r at *
  have e1 : IntKind.i64.wrap (a - b) = a - b := IntWalk.i64_in _ (by omega)
  have e2 : IntKind.i64.wrap (b - a) = b - a := IntWalk.i64_in _ (by omega)
  go_enter Try.func43, Try.ntmps43
  go_wp2_with fail
  all_goals
    go_ret
    exact ⟨ret_int (by rw [HR.out]; try omega), Below.refl _ _⟩

set_option maxRecDepth 100000 in
theorem specDist (f g : Qd) (w : World) :
    Calls Try.prog 15 #[f.val, g.val] w (IntIs (distI f g) w) := by
  have HA := Lib.hid (specRecipe f)
  have HB := Lib.hid (specRecipe g)
  have HR := Lib.hid (show distI f g = if recB f && recB g then gapI f.x g.x + gapI f.y g.y + gapI f.z g.z + gapI f.u g.u else -1 from rfl)
  have HF := Lib.hid (show recB f = true → _ from fun h => (qdB_iff f).1 (by unfold recB at h; simp only [Bool.and_eq_true] at h; exact h.1))
  have HG := Lib.hid (show recB g = true → _ from fun h => (qdB_iff g).1 (by unfold recB at h; simp only [Bool.and_eq_true] at h; exact h.1))
  have H0 := Lib.hid (heldQ2 w f g 25 25)
  generalize distI f g = r at *
  generalize recB f = b1 at *
  generalize recB g = b2 at *
  obtain ⟨x, y, z, u⟩ := f
  obtain ⟨a, b, c, d⟩ := g
  unfold Qd.val at *
  simp only at H0 HA HB HR HF HG
  by_cases hb : (b1 && b2) = true
  · obtain ⟨rfl, rfl⟩ : b1 = true ∧ b2 = true := by simpa [Bool.and_eq_true] using hb
    clear hb
    obtain ⟨⟨k1, k2⟩, ⟨k3, k4⟩, ⟨k5, k6⟩, k7, k8⟩ := HF.out rfl
    obtain ⟨⟨l1, l2⟩, ⟨l3, l4⟩, ⟨l5, l6⟩, l7, l8⟩ := HG.out rfl
    have H1' := Lib.hid (fun w => specGap x a w k1 k2 l1 l2)
    have H2' := Lib.hid (fun w => specGap y b w k3 k4 l3 l4)
    have H3' := Lib.hid (fun w => specGap z c w k5 k6 l5 l6)
    have H4' := Lib.hid (fun w => specGap u d w k7 k8 l7 l8)
    obtain ⟨m1, n1⟩ := gapI_bd k1 k2 l1 l2
    obtain ⟨m2, n2⟩ := gapI_bd k3 k4 l3 l4
    obtain ⟨m3, n3⟩ := gapI_bd k5 k6 l5 l6
    obtain ⟨m4, n4⟩ := gapI_bd k7 k8 l7 l8
    generalize gapI x a = g1 at *
    generalize gapI y b = g2 at *
    generalize gapI z c = g3 at *
    generalize gapI u d = g4 at *
    have e1 : IntKind.i64.wrap (g1 + g2) = g1 + g2 := IntWalk.i64_in _ (by omega)
    have e2 : IntKind.i64.wrap (g1 + g2 + g3) = g1 + g2 + g3 := IntWalk.i64_in _ (by omega)
    have e3 : IntKind.i64.wrap (g1 + g2 + g3 + g4) = g1 + g2 + g3 + g4 := IntWalk.i64_in _ (by omega)
    go_enter Try.func15, Try.ntmps15
    go_wp2_with fail
    repeat' (first | ((first | (with_reducible refine (HA.out _).mono ?_) | (with_reducible refine (HB.out _).mono ?_) | fail); rintro e wn ⟨rfl, hb⟩; have H0 := Lib.hid (H0.out.step hb); clear hb; (try clear x0 x1 x2 x3 x4 x5 x6 x7); obtain ⟨x0, x1, x2, x3, x4, x5, x6, x7, _⟩ := H0.out.1; go_wp2_with fail) | fail)
    refine regionD (S := fun W => Held _ W [(w.heap.size+1, 0, .int .i64 (a)), (w.heap.size+1, 1, .int .i64 (b)), (w.heap.size+1, 2, .int .i64 (c)), (w.heap.size+1, 3, .int .i64 (d)), (w.heap.size, 0, .int .i64 (x)), (w.heap.size, 1, .int .i64 (y)), (w.heap.size, 2, .int .i64 (z)), (w.heap.size, 3, .int .i64 (u))]) (by kernel_rfl) H0.out.drew ?_
    iterate 24 (refine takeT (v := ?_) rfl (by kernel_rfl) (by kernel_rfl) (by kernel_rfl) ?_ ?_; rotate_left; (first | (refine Or.inr ⟨by rfl, ?_⟩; with_reducible rfl) | (refine Or.inl ⟨by rfl, fun W hS => detRes_value (w' := W) ?_ hS⟩; obtain ⟨x0, x1, x2, x3, x4, x5, x6, x7, _⟩ := hS.1; go_simp; first | done | with_reducible rfl) | (refine Or.inl ⟨by rfl, fun W hS => ?_⟩; refine detRes_call (w' := W) (f := ?_) (args := ?_) ?_ ?_; rotate_left 2; (go_simp; (refine ⟨?_, ?_⟩ <;> with_reducible rfl)); (first | (with_reducible refine (H1'.out _).mono ?_) | (with_reducible refine (H2'.out _).mono ?_) | (with_reducible refine (H3'.out _).mono ?_) | (with_reducible refine (H4'.out _).mono ?_) | fail); (first | (rintro e wn ⟨rfl, hb⟩; refine ⟨?_, hS.step hb⟩; with_reducible rfl) | (rintro e wn ⟨rfl, rfl⟩; refine ⟨?_, hS⟩; with_reducible rfl) | fail)) | fail); (simp only [Act.put, List.setIfInBounds_toArray, List.set_cons_zero, List.set_cons_succ]))
    refine doneD (by kernel_rfl) fun wH1 HS => ?_
    have H1 := Lib.hid HS; clear HS
    try clear x0 x1 x2 x3 x4 x5 x6 x7
    obtain ⟨x0, x1, x2, x3, x4, x5, x6, x7, _⟩ := H1.out.1
    go_wp2_with fail
    go_ret
    exact ⟨ret_int (by rw [HR.out]; simp), H1.out.below⟩
  · have HQ := Lib.hid hb; clear hb HF HG
    cases b1 <;> cases b2
    all_goals first | (exact absurd (by rfl) HQ.out) | skip
    all_goals
      go_enter Try.func15, Try.ntmps15
      go_wp2_with fail
      repeat' (first | ((first | (with_reducible refine (HA.out _).mono ?_) | (with_reducible refine (HB.out _).mono ?_) | fail); rintro e wn ⟨rfl, hb⟩; have H0 := Lib.hid (H0.out.step hb); clear hb; (try clear x0 x1 x2 x3 x4 x5 x6 x7); obtain ⟨x0, x1, x2, x3, x4, x5, x6, x7, _⟩ := H0.out.1; go_wp2_with fail) | fail)
      go_ret
      exact ⟨ret_int (by rw [HR.out]; simp), H0.out.below⟩

def dS (f g : Qd) : Nat → Int
  | 0 => 0
  | 1 => gapI f.x g.x
  | 2 => gapI f.x g.x + gapI f.y g.y
  | 3 => gapI f.x g.x + gapI f.y g.y + gapI f.z g.z
  | _ => gapI f.x g.x + gapI f.y g.y + gapI f.z g.z + gapI f.u g.u

set_option maxRecDepth 100000 in
set_option maxHeartbeats 1000000 in
theorem implDist (f g : Qd) (w : World) :
    Calls Try.prog 16 #[f.val, g.val] w (IntIs (distI f g) w) := by
  have HA := Lib.hid (implRecipe f)
  have HB := Lib.hid (implRecipe g)
  have HC := Lib.hid (implParts f)
  have HD := Lib.hid (implParts g)
  unfold QdIs at HC HD
  have HR := Lib.hid (show distI f g = if recB f && recB g then dS f g 4 else -1 from rfl)
  have HF := Lib.hid (show recB f = true → _ from fun h => (qdB_iff f).1 (by unfold recB at h; simp only [Bool.and_eq_true] at h; exact h.1))
  have HG := Lib.hid (show recB g = true → _ from fun h => (qdB_iff g).1 (by unfold recB at h; simp only [Bool.and_eq_true] at h; exact h.1))
  have HS0 := Lib.hid (show dS f g 0 = 0 from rfl)
  have HS1 := Lib.hid (show dS f g 1 = dS f g 0 + gapI f.x g.x from (Int.zero_add _).symm)
  have HS2 := Lib.hid (show dS f g 2 = dS f g 1 + gapI f.y g.y from rfl)
  have HS3 := Lib.hid (show dS f g 3 = dS f g 2 + gapI f.z g.z from rfl)
  have HS4 := Lib.hid (show dS f g 4 = dS f g 3 + gapI f.u g.u from rfl)
  have H0 := Lib.hid (heldQ2 w f g 25 25)
  generalize distI f g = r at *
  generalize recB f = b1 at *
  generalize recB g = b2 at *
  generalize dS f g = S at *
  obtain ⟨x, y, z, u⟩ := f
  obtain ⟨a, b, c, d⟩ := g
  unfold Qd.val at *
  simp only at H0 HA HB HC HD HR HF HG HS0 HS1 HS2 HS3 HS4
  by_cases hb : (b1 && b2) = true
  · obtain ⟨rfl, rfl⟩ : b1 = true ∧ b2 = true := by simpa [Bool.and_eq_true] using hb
    clear hb
    have HF2 := Lib.hid (HF.out rfl)
    have HG2 := Lib.hid (HG.out rfl)
    clear HF HG
    have i0 : ∀ w : World, (Instr.index 71 (.agg #[.int .i64 x, .int .i64 y, .int .i64 z, .int .i64 u]) (.int .i64 0)).run Try.prog w = .ok (.int .i64 x) w := fun _ => by kernel_rfl
    have i1 : ∀ w : World, (Instr.index 71 (.agg #[.int .i64 x, .int .i64 y, .int .i64 z, .int .i64 u]) (.int .i64 1)).run Try.prog w = .ok (.int .i64 y) w := fun _ => by kernel_rfl
    have i2 : ∀ w : World, (Instr.index 71 (.agg #[.int .i64 x, .int .i64 y, .int .i64 z, .int .i64 u]) (.int .i64 2)).run Try.prog w = .ok (.int .i64 z) w := fun _ => by kernel_rfl
    have i3 : ∀ w : World, (Instr.index 71 (.agg #[.int .i64 x, .int .i64 y, .int .i64 z, .int .i64 u]) (.int .i64 3)).run Try.prog w = .ok (.int .i64 u) w := fun _ => by kernel_rfl
    go_enter Try.func16, Try.ntmps16
    go_wp2_with fail
    repeat' (first | ((first | (with_reducible refine (HA.out _).mono ?_) | (with_reducible refine (HB.out _).mono ?_) | fail); rintro e wn ⟨rfl, hb⟩; have H0 := Lib.hid (H0.out.step hb); clear hb; (try clear x0 x1 x2 x3 x4 x5 x6 x7); obtain ⟨x0, x1, x2, x3, x4, x5, x6, x7, _⟩ := H0.out.1; go_wp2_with fail) | fail)
    refine (HD.out _).mono ?_
    rintro e wH1 ⟨rfl, hb⟩
    have H1 := Lib.hid ((H0.out).step hb); clear hb
    try clear x0 x1 x2 x3 x4 x5 x6 x7
    obtain ⟨x0, x1, x2, x3, x4, x5, x6, x7, _⟩ := H1.out.1
    obtain ⟨y0, y1, y2, y3, y4, y5, y6, y7, _⟩ := H1.out.2.1
    go_wp2_with fail
    have H2 := Lib.hid (H1.out.new2 wH1.heap.size rfl [.int .i64 a, .int .i64 b, .int .i64 c, .int .i64 d] 71)
    clear x0 x1 x2 x3 x4 x5 x6 x7
    clear y0 y1 y2 y3 y4 y5 y6 y7
    refine (HC.out _).mono ?_
    rintro e w3 ⟨rfl, hb⟩
    have H3 := Lib.hid (H2.out.step hb); clear hb
    go_wp2_with fail
    go_loopw [5, 21] (fun v i wr => ∃ m : Nat, m ≤ 4 ∧ i = .int .i64 m ∧ v = .int .i64 (S m) ∧ Held w wr [(wH1.heap.size, 0, .int .i64 a), (wH1.heap.size, 1, .int .i64 b), (wH1.heap.size, 2, .int .i64 c), (wH1.heap.size, 3, .int .i64 d), (w.heap.size+1, 0, .int .i64 a), (w.heap.size+1, 1, .int .i64 b), (w.heap.size+1, 2, .int .i64 c), (w.heap.size+1, 3, .int .i64 d), (w.heap.size, 0, .int .i64 x), (w.heap.size, 1, .int .i64 y), (w.heap.size, 2, .int .i64 z), (w.heap.size, 3, .int .i64 u)]) (fun _ i _ => 4 - (intOf i).toNat)
    case atStart => exact ⟨0, by omega, rfl, by rw [HS0.out], H3.out⟩
    case round =>
      obtain ⟨m, hm, hi, hv, hh⟩ := hrel
      have H4 := Lib.hid hh; clear hh
      obtain ⟨⟨k1, k2⟩, ⟨k3, k4⟩, ⟨k5, k6⟩, k7, k8⟩ := HF2.out
      obtain ⟨⟨l1, l2⟩, ⟨l3, l4⟩, ⟨l5, l6⟩, l7, l8⟩ := HG2.out
      obtain ⟨m1, n1⟩ := gapI_bd k1 k2 l1 l2
      obtain ⟨m2, n2⟩ := gapI_bd k3 k4 l3 l4
      obtain ⟨m3, n3⟩ := gapI_bd k5 k6 l5 l6
      obtain ⟨m4, n4⟩ := gapI_bd k7 k8 l7 l8
      have j0 := HS0.out
      have j1 := HS1.out
      have j2 := HS2.out
      have j3 := HS3.out
      rcases (show m = 0 ∨ m = 1 ∨ m = 2 ∨ m = 3 ∨ m = 4 from by omega) with rfl | rfl | rfl | rfl | rfl
      · obtain rfl := (show _ = Value.int .i64 (0 : Int) from hi)
        have hs : 0 ≤ S 0 ∧ S 0 ≤ 3000 := by omega
        clear hi m1 n1 m2 n2 m3 n3 m4 n4 j0 j1 j2 j3 hm
        have HN := HS1
        generalize S 0 = sv at *
        subst hv
        have s1 : IntKind.i64.wrap (x - a) = x - a := IntWalk.i64_in _ (by omega)
        have s2 : IntKind.i64.wrap (a - x) = a - x := IntWalk.i64_in _ (by omega)
        have e1 : IntKind.i64.wrap (sv + (x - a)) = sv + (x - a) := IntWalk.i64_in _ (by omega)
        have e2 : IntKind.i64.wrap (sv + (a - x)) = sv + (a - x) := IntWalk.i64_in _ (by omega)
        obtain ⟨x0, x1, x2, x3, x4, x5, x6, x7, x8, x9, x10, x11, _⟩ := H4.out.1
        go_wp2_with fail
        refine regionD (S := fun W => Held _ W [(wH1.heap.size, 0, .int .i64 (a)), (wH1.heap.size, 1, .int .i64 (b)), (wH1.heap.size, 2, .int .i64 (c)), (wH1.heap.size, 3, .int .i64 (d)), (w.heap.size+1, 0, .int .i64 (a)), (w.heap.size+1, 1, .int .i64 (b)), (w.heap.size+1, 2, .int .i64 (c)), (w.heap.size+1, 3, .int .i64 (d)), (w.heap.size, 0, .int .i64 (x)), (w.heap.size, 1, .int .i64 (y)), (w.heap.size, 2, .int .i64 (z)), (w.heap.size, 3, .int .i64 (u))]) (by kernel_rfl) H4.out.drew ?_
        iterate 14 (refine takeT (v := ?_) rfl (by kernel_rfl) (by kernel_rfl) (by kernel_rfl) ?_ ?_; rotate_left; (first | (refine Or.inr ⟨by rfl, ?_⟩; with_reducible rfl) | (refine Or.inl ⟨by rfl, fun W hS => detRes_value (w' := W) ?_ hS⟩; obtain ⟨x0, x1, x2, x3, x4, x5, x6, x7, x8, x9, x10, x11, _⟩ := hS.1; go_simp; first | done | with_reducible rfl) | fail); (simp only [Act.put, List.setIfInBounds_toArray, List.set_cons_zero, List.set_cons_succ]))
        refine doneD (by kernel_rfl) fun wH5 HS => ?_
        have H5 := Lib.hid HS; clear HS
        try clear x0 x1 x2 x3 x4 x5 x6 x7 x8 x9 x10 x11
        obtain ⟨x0, x1, x2, x3, x4, x5, x6, x7, x8, x9, x10, x11, _⟩ := H5.out.1
        go_wp2_with fail
        all_goals
          exact ⟨⟨1, by omega, rfl, by rw [HN.out]; exact congrArg (Value.int .i64) (by unfold gapI; first | omega | (split <;> first | (rw [e1]; omega) | (rw [e2]; omega))), H5.out⟩, by simp [intOf]⟩
      · obtain rfl := (show _ = Value.int .i64 (1 : Int) from hi)
        have hs : 0 ≤ S 1 ∧ S 1 ≤ 3000 := by omega
        clear hi m1 n1 m2 n2 m3 n3 m4 n4 j0 j1 j2 j3 hm
        have HN := HS2
        generalize S 1 = sv at *
        subst hv
        have s1 : IntKind.i64.wrap (y - b) = y - b := IntWalk.i64_in _ (by omega)
        have s2 : IntKind.i64.wrap (b - y) = b - y := IntWalk.i64_in _ (by omega)
        have e1 : IntKind.i64.wrap (sv + (y - b)) = sv + (y - b) := IntWalk.i64_in _ (by omega)
        have e2 : IntKind.i64.wrap (sv + (b - y)) = sv + (b - y) := IntWalk.i64_in _ (by omega)
        obtain ⟨x0, x1, x2, x3, x4, x5, x6, x7, x8, x9, x10, x11, _⟩ := H4.out.1
        go_wp2_with fail
        refine regionD (S := fun W => Held _ W [(wH1.heap.size, 0, .int .i64 (a)), (wH1.heap.size, 1, .int .i64 (b)), (wH1.heap.size, 2, .int .i64 (c)), (wH1.heap.size, 3, .int .i64 (d)), (w.heap.size+1, 0, .int .i64 (a)), (w.heap.size+1, 1, .int .i64 (b)), (w.heap.size+1, 2, .int .i64 (c)), (w.heap.size+1, 3, .int .i64 (d)), (w.heap.size, 0, .int .i64 (x)), (w.heap.size, 1, .int .i64 (y)), (w.heap.size, 2, .int .i64 (z)), (w.heap.size, 3, .int .i64 (u))]) (by kernel_rfl) H4.out.drew ?_
        iterate 14 (refine takeT (v := ?_) rfl (by kernel_rfl) (by kernel_rfl) (by kernel_rfl) ?_ ?_; rotate_left; (first | (refine Or.inr ⟨by rfl, ?_⟩; with_reducible rfl) | (refine Or.inl ⟨by rfl, fun W hS => detRes_value (w' := W) ?_ hS⟩; obtain ⟨x0, x1, x2, x3, x4, x5, x6, x7, x8, x9, x10, x11, _⟩ := hS.1; go_simp; first | done | with_reducible rfl) | fail); (simp only [Act.put, List.setIfInBounds_toArray, List.set_cons_zero, List.set_cons_succ]))
        refine doneD (by kernel_rfl) fun wH5 HS => ?_
        have H5 := Lib.hid HS; clear HS
        try clear x0 x1 x2 x3 x4 x5 x6 x7 x8 x9 x10 x11
        obtain ⟨x0, x1, x2, x3, x4, x5, x6, x7, x8, x9, x10, x11, _⟩ := H5.out.1
        go_wp2_with fail
        all_goals
          exact ⟨⟨2, by omega, rfl, by rw [HN.out]; exact congrArg (Value.int .i64) (by unfold gapI; first | omega | (split <;> first | (rw [e1]; omega) | (rw [e2]; omega))), H5.out⟩, by simp [intOf]⟩
      · obtain rfl := (show _ = Value.int .i64 (2 : Int) from hi)
        have hs : 0 ≤ S 2 ∧ S 2 ≤ 3000 := by omega
        clear hi m1 n1 m2 n2 m3 n3 m4 n4 j0 j1 j2 j3 hm
        have HN := HS3
        generalize S 2 = sv at *
        subst hv
        have s1 : IntKind.i64.wrap (z - c) = z - c := IntWalk.i64_in _ (by omega)
        have s2 : IntKind.i64.wrap (c - z) = c - z := IntWalk.i64_in _ (by omega)
        have e1 : IntKind.i64.wrap (sv + (z - c)) = sv + (z - c) := IntWalk.i64_in _ (by omega)
        have e2 : IntKind.i64.wrap (sv + (c - z)) = sv + (c - z) := IntWalk.i64_in _ (by omega)
        obtain ⟨x0, x1, x2, x3, x4, x5, x6, x7, x8, x9, x10, x11, _⟩ := H4.out.1
        go_wp2_with fail
        refine regionD (S := fun W => Held _ W [(wH1.heap.size, 0, .int .i64 (a)), (wH1.heap.size, 1, .int .i64 (b)), (wH1.heap.size, 2, .int .i64 (c)), (wH1.heap.size, 3, .int .i64 (d)), (w.heap.size+1, 0, .int .i64 (a)), (w.heap.size+1, 1, .int .i64 (b)), (w.heap.size+1, 2, .int .i64 (c)), (w.heap.size+1, 3, .int .i64 (d)), (w.heap.size, 0, .int .i64 (x)), (w.heap.size, 1, .int .i64 (y)), (w.heap.size, 2, .int .i64 (z)), (w.heap.size, 3, .int .i64 (u))]) (by kernel_rfl) H4.out.drew ?_
        iterate 14 (refine takeT (v := ?_) rfl (by kernel_rfl) (by kernel_rfl) (by kernel_rfl) ?_ ?_; rotate_left; (first | (refine Or.inr ⟨by rfl, ?_⟩; with_reducible rfl) | (refine Or.inl ⟨by rfl, fun W hS => detRes_value (w' := W) ?_ hS⟩; obtain ⟨x0, x1, x2, x3, x4, x5, x6, x7, x8, x9, x10, x11, _⟩ := hS.1; go_simp; first | done | with_reducible rfl) | fail); (simp only [Act.put, List.setIfInBounds_toArray, List.set_cons_zero, List.set_cons_succ]))
        refine doneD (by kernel_rfl) fun wH5 HS => ?_
        have H5 := Lib.hid HS; clear HS
        try clear x0 x1 x2 x3 x4 x5 x6 x7 x8 x9 x10 x11
        obtain ⟨x0, x1, x2, x3, x4, x5, x6, x7, x8, x9, x10, x11, _⟩ := H5.out.1
        go_wp2_with fail
        all_goals
          exact ⟨⟨3, by omega, rfl, by rw [HN.out]; exact congrArg (Value.int .i64) (by unfold gapI; first | omega | (split <;> first | (rw [e1]; omega) | (rw [e2]; omega))), H5.out⟩, by simp [intOf]⟩
      · obtain rfl := (show _ = Value.int .i64 (3 : Int) from hi)
        have hs : 0 ≤ S 3 ∧ S 3 ≤ 3000 := by omega
        clear hi m1 n1 m2 n2 m3 n3 m4 n4 j0 j1 j2 j3 hm
        have HN := HS4
        generalize S 3 = sv at *
        subst hv
        have s1 : IntKind.i64.wrap (u - d) = u - d := IntWalk.i64_in _ (by omega)
        have s2 : IntKind.i64.wrap (d - u) = d - u := IntWalk.i64_in _ (by omega)
        have e1 : IntKind.i64.wrap (sv + (u - d)) = sv + (u - d) := IntWalk.i64_in _ (by omega)
        have e2 : IntKind.i64.wrap (sv + (d - u)) = sv + (d - u) := IntWalk.i64_in _ (by omega)
        obtain ⟨x0, x1, x2, x3, x4, x5, x6, x7, x8, x9, x10, x11, _⟩ := H4.out.1
        go_wp2_with fail
        refine regionD (S := fun W => Held _ W [(wH1.heap.size, 0, .int .i64 (a)), (wH1.heap.size, 1, .int .i64 (b)), (wH1.heap.size, 2, .int .i64 (c)), (wH1.heap.size, 3, .int .i64 (d)), (w.heap.size+1, 0, .int .i64 (a)), (w.heap.size+1, 1, .int .i64 (b)), (w.heap.size+1, 2, .int .i64 (c)), (w.heap.size+1, 3, .int .i64 (d)), (w.heap.size, 0, .int .i64 (x)), (w.heap.size, 1, .int .i64 (y)), (w.heap.size, 2, .int .i64 (z)), (w.heap.size, 3, .int .i64 (u))]) (by kernel_rfl) H4.out.drew ?_
        iterate 14 (refine takeT (v := ?_) rfl (by kernel_rfl) (by kernel_rfl) (by kernel_rfl) ?_ ?_; rotate_left; (first | (refine Or.inr ⟨by rfl, ?_⟩; with_reducible rfl) | (refine Or.inl ⟨by rfl, fun W hS => detRes_value (w' := W) ?_ hS⟩; obtain ⟨x0, x1, x2, x3, x4, x5, x6, x7, x8, x9, x10, x11, _⟩ := hS.1; go_simp; first | done | with_reducible rfl) | fail); (simp only [Act.put, List.setIfInBounds_toArray, List.set_cons_zero, List.set_cons_succ]))
        refine doneD (by kernel_rfl) fun wH5 HS => ?_
        have H5 := Lib.hid HS; clear HS
        try clear x0 x1 x2 x3 x4 x5 x6 x7 x8 x9 x10 x11
        obtain ⟨x0, x1, x2, x3, x4, x5, x6, x7, x8, x9, x10, x11, _⟩ := H5.out.1
        go_wp2_with fail
        all_goals
          exact ⟨⟨4, by omega, rfl, by rw [HN.out]; exact congrArg (Value.int .i64) (by unfold gapI; first | omega | (split <;> first | (rw [e1]; omega) | (rw [e2]; omega))), H5.out⟩, by simp [intOf]⟩
      · obtain rfl := (show _ = Value.int .i64 (4 : Int) from hi)
        subst hv
        go_wp2_with fail
        go_ret
        exact ⟨ret_int (by rw [HR.out]; simp), H4.out.below⟩
  · have HQ := Lib.hid hb; clear hb HF HG
    cases b1 <;> cases b2
    all_goals first | (exact absurd (by rfl) HQ.out) | skip
    all_goals
      go_enter Try.func16, Try.ntmps16
      go_wp2_with fail
      repeat' (first | ((first | (with_reducible refine (HA.out _).mono ?_) | (with_reducible refine (HB.out _).mono ?_) | fail); rintro e wn ⟨rfl, hb⟩; have H0 := Lib.hid (H0.out.step hb); clear hb; (try clear x0 x1 x2 x3 x4 x5 x6 x7); obtain ⟨x0, x1, x2, x3, x4, x5, x6, x7, _⟩ := H0.out.1; go_wp2_with fail) | fail)
      go_ret
      exact ⟨ret_int (by rw [HR.out]; simp), H0.out.below⟩
end Go.Proofs.Ytghpbdgghliieab
