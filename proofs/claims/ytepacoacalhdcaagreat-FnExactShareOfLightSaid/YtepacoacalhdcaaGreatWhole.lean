/-
  IsWhole, of the model and of the program.
-/
import Derived.Test.YtepacoacalhdcaaGreatG4
namespace Go.Proofs.YtepacoacalhdcaaGreat
open Go.RowKit
set_option linter.unusedVariables false
set_option linter.unusedSimpArgs false

def wholeB (ns ls : List Nd) : Bool := winB ns ls && decide (0 < ls.length) && decide ((partL ns ls 0).length = ns.length)

theorem fltN_full (p : Nat → Bool) : ∀ n, (fltN p n).length = n ↔ ∀ i, i < n → p i = true
  | 0 => by simp [fltN]
  | n + 1 => by
    have ih := fltN_full p n
    have hl := fltN_len p n
    unfold fltN
    by_cases h : p n = true
    · rw [if_pos h, List.length_append, List.length_singleton]
      constructor
      · intro e i hi
        by_cases hin : i = n
        · subst hin; exact h
        · exact ih.1 (by omega) i (by omega)
      · intro hh
        have := ih.2 fun i hi => hh i (by omega)
        omega
    · rw [if_neg h]
      constructor
      · intro e; omega
      · intro hh; exact absurd (hh n (Nat.lt_succ_self _)) h

theorem whole_iff (ns ls : List Nd) : (partL ns ls 0).length = ns.length ↔ ∀ i, i < ns.length → lab ls ls.length i = 0 := by
  have h0 : lab ls ls.length 0 = 0 := by have := lab_le ls ls.length 0; omega
  unfold partL
  rw [fltN_full]
  constructor
  · intro h i hi
    have := h i hi
    simp only [decide_eq_true_eq] at this
    omega
  · intro h i hi
    rw [h i hi, h0]; rfl

set_option maxRecDepth 100000 in
set_option maxHeartbeats 2000000 in
theorem implWhole (ns ls : List Nd) (vn vl : Value) (w : World) (hn : Prs w vn ns) (hl : Prs w vl ls) :
    Calls Tryz.prog 134 #[.agg #[vn, vl]] w (BoolIs (wholeB ns ls) w) := by
  have HN := Lib.hid hn
  have HL := Lib.hid hl
  have hlen := hn.len
  obtain ⟨A, c, rfl⟩ := prs_form2 hn
  obtain ⟨A2, c2, rfl⟩ := prs_form2 hl
  clear hn hl
  have H0 := Lib.hid (held_pair w (.slice A ns.length c) (.slice A2 ls.length c2) 32)
  have HW := Lib.hid (fun w h1 h2 => implWin ns ls (.slice A ns.length c) (.slice A2 ls.length c2) w h1 h2)
  have HD := Lib.hid (drawingOf_any A A2 ns.length c ls.length c2)
  unfold ValIs at HD
  by_cases hw : winB ns ls = true
  · have h20 := ((winB_iff ns ls).1 hw).1.2
    have h1 := ((winB_iff ns ls).1 hw).1.1.1
    by_cases hl0 : 0 < ls.length
    · have hr : wholeB ns ls = decide ((partL ns ls 0).length = ns.length) := by
        unfold wholeB; rw [hw, decide_eq_true hl0]; rfl
      have HP := Lib.hid (fun W (hB : Below w.heap.size w W) => (implPart ns ls (.slice A ns.length c) (.slice A2 ls.length c2) 0 W (HN.out.step hB) (HL.out.step hB) hw h1).mono (R' := fun e w' => ∃ v, e = .returned v ∧ Ints w' w.heap.size v (partL ns ls 0) ∧ Below W.heap.size W w') fun e w' ⟨v, he, ho, hb⟩ => ⟨v, he, ho.mono hB.size, hb⟩)
      have hpl : (partL ns ls 0).length ≤ ns.length := fltN_len _ _
      rw [hw] at HW
      clear hw
      have g0 : (0 : Int) < (ls.length : Int) := by omega
      generalize wholeB ns ls = r at *
      generalize partL ns ls 0 = ps at *
      by_cases hq : ps.length = ns.length
      · have HR := Lib.hid (show r = true from by rw [hr, decide_eq_true hq])
        have gq : ((ps.length : Int) == (ns.length : Int)) = true := by simp [hq]
        clear hr hq
        go_enter Tryz.func134, Tryz.ntmps134
        go_wp2_with fail
        refine regionW (fun W => Held _ W [(w.heap.size, 0, .slice A ns.length c), (w.heap.size, 1, .slice A2 ls.length c2)]) (by kernel_rfl) H0.out.drew ?_
        refine takeW (i := 0) (v := ?_) (Stable.held _ _) rfl (by kernel_rfl) (by kernel_rfl) (by kernel_rfl) (fun _ _ _ h => h) ?_ ?_
        rotate_left
        · first | (refine Or.inl ⟨by rfl, fun W hS => detR_value (w' := W) ?_ (Below.refl _ _)⟩; have hH := hS; obtain ⟨x0, x1, _⟩ := hH.1; go_simp; first | done | with_reducible rfl) | fail
        simp only [Act.put, List.setIfInBounds_toArray, List.set_cons_zero, List.set_cons_succ]
        refine takeW (i := 1) (v := ?_) (Stable.held _ _) rfl (by kernel_rfl) (by kernel_rfl) (by kernel_rfl) (fun _ _ _ h => h) ?_ ?_
        rotate_left
        · first | (refine Or.inl ⟨by rfl, fun W hS => ?_⟩; have hH := hS; refine detR_call (w' := W) (f := ?_) (args := ?_) ?_ ?_; rotate_left 2; (go_simp; (refine ⟨?_, ?_⟩ <;> with_reducible rfl)); (first | (with_reducible refine (HW.out _ (HN.out.step hH.below) (HL.out.step hH.below)).mono ?_) | fail); (first | (rintro e wn ⟨rfl, hb⟩; refine ⟨?_, hb⟩; with_reducible rfl) | (rintro e wn ⟨rfl, rfl⟩; refine ⟨?_, Below.refl _ _⟩; with_reducible rfl) | fail)) | fail
        simp only [Act.put, List.setIfInBounds_toArray, List.set_cons_zero, List.set_cons_succ]
        refine takeW (i := 2) (v := ?_) (Stable.held _ _) rfl (by kernel_rfl) (by kernel_rfl) (by kernel_rfl) (fun _ _ _ h => h) ?_ ?_
        rotate_left
        · first | (refine Or.inl ⟨by rfl, fun W hS => detR_value (w' := W) ?_ (Below.refl _ _)⟩; have hH := hS; obtain ⟨x0, x1, _⟩ := hH.1; go_simp; first | done | with_reducible rfl) | fail
        simp only [Act.put, List.setIfInBounds_toArray, List.set_cons_zero, List.set_cons_succ]
        refine takeW (i := 3) (v := ?_) (Stable.held _ _) rfl (by kernel_rfl) (by kernel_rfl) (by kernel_rfl) (fun _ _ _ h => h) ?_ ?_
        rotate_left
        · first | (refine Or.inr ⟨by rfl, ?_⟩; with_reducible rfl) | (refine Or.inl ⟨by rfl, fun W hS => detR_value (w' := W) ?_ (Below.refl _ _)⟩; have hH := hS; obtain ⟨x0, x1, _⟩ := hH.1; go_simp; first | done | with_reducible rfl) | fail
        simp only [Act.put, List.setIfInBounds_toArray, List.set_cons_zero, List.set_cons_succ]
        refine takeW (i := 4) (v := ?_) (Stable.held _ _) rfl (by kernel_rfl) (by kernel_rfl) (by kernel_rfl) (fun _ _ _ h => h) ?_ ?_
        rotate_left
        · first | (refine Or.inr ⟨by rfl, ?_⟩; with_reducible rfl) | (refine Or.inl ⟨by rfl, fun W hS => detR_value (w' := W) ?_ (Below.refl _ _)⟩; have hH := hS; obtain ⟨x0, x1, _⟩ := hH.1; go_simp; first | done | with_reducible rfl) | fail
        simp only [Act.put, List.setIfInBounds_toArray, List.set_cons_zero, List.set_cons_succ]
        refine takeW (i := 5) (v := ?_) (Stable.held _ _) rfl (by kernel_rfl) (by kernel_rfl) (by kernel_rfl) (fun _ _ _ h => h) ?_ ?_
        rotate_left
        · first | (refine Or.inr ⟨by rfl, ?_⟩; with_reducible rfl) | (refine Or.inl ⟨by rfl, fun W hS => detR_value (w' := W) ?_ (Below.refl _ _)⟩; have hH := hS; obtain ⟨x0, x1, _⟩ := hH.1; go_simp; first | done | with_reducible rfl) | fail
        simp only [Act.put, List.setIfInBounds_toArray, List.set_cons_zero, List.set_cons_succ]
        refine takeW (i := 6) (v := ?_) (Stable.held _ _) rfl (by kernel_rfl) (by kernel_rfl) (by kernel_rfl) (fun _ _ _ h => h) ?_ ?_
        rotate_left
        · first | (refine Or.inr ⟨by rfl, ?_⟩; with_reducible rfl) | (refine Or.inl ⟨by rfl, fun W hS => detR_value (w' := W) ?_ (Below.refl _ _)⟩; have hH := hS; obtain ⟨x0, x1, _⟩ := hH.1; go_simp; first | done | with_reducible rfl) | fail
        simp only [Act.put, List.setIfInBounds_toArray, List.set_cons_zero, List.set_cons_succ]
        refine takeW (i := 7) (v := ?_) (Stable.held _ _) rfl (by kernel_rfl) (by kernel_rfl) (by kernel_rfl) (fun _ _ _ h => h) ?_ ?_
        rotate_left
        · first | (refine Or.inl ⟨by rfl, fun W hS => detR_value (w' := W) ?_ (Below.refl _ _)⟩; have hH := hS; obtain ⟨x0, x1, _⟩ := hH.1; go_simp; first | done | with_reducible rfl) | fail
        simp only [Act.put, List.setIfInBounds_toArray, List.set_cons_zero, List.set_cons_succ]
        refine takeW (i := 8) (v := ?_) (Stable.held _ _) rfl (by kernel_rfl) (by kernel_rfl) (by kernel_rfl) (fun _ _ _ h => h) ?_ ?_
        rotate_left
        · first | (refine Or.inl ⟨by rfl, fun W hS => detR_value (w' := W) ?_ (Below.refl _ _)⟩; have hH := hS; obtain ⟨x0, x1, _⟩ := hH.1; go_simp; first | done | with_reducible rfl) | fail
        simp only [Act.put, List.setIfInBounds_toArray, List.set_cons_zero, List.set_cons_succ]
        refine takeW (i := 9) (v := ?_) (Stable.held _ _) rfl (by kernel_rfl) (by kernel_rfl) (by kernel_rfl) (fun _ _ _ h => h) ?_ ?_
        rotate_left
        · first | (refine Or.inr ⟨by rfl, ?_⟩; with_reducible rfl) | (refine Or.inl ⟨by rfl, fun W hS => detR_value (w' := W) ?_ (Below.refl _ _)⟩; have hH := hS; obtain ⟨x0, x1, _⟩ := hH.1; go_simp; first | done | with_reducible rfl) | fail
        simp only [Act.put, List.setIfInBounds_toArray, List.set_cons_zero, List.set_cons_succ]
        refine takeW (i := 10) (v := ?_) (Stable.held _ _) rfl (by kernel_rfl) (by kernel_rfl) (by kernel_rfl) (fun _ _ _ h => h) ?_ ?_
        rotate_left
        · first | (refine Or.inr ⟨by rfl, ?_⟩; with_reducible rfl) | (refine Or.inl ⟨by rfl, fun W hS => ?_⟩; have hH := hS; refine detR_call (w' := W) (f := ?_) (args := ?_) ?_ ?_; rotate_left 2; (go_simp; (refine ⟨?_, ?_⟩ <;> with_reducible rfl)); (first | (with_reducible refine (HD.out _).mono ?_) | fail); (first | (rintro e wn ⟨rfl, hb⟩; refine ⟨?_, hb⟩; with_reducible rfl) | (rintro e wn ⟨rfl, rfl⟩; refine ⟨?_, Below.refl _ _⟩; with_reducible rfl) | fail)) | fail
        simp only [Act.put, List.setIfInBounds_toArray, List.set_cons_zero, List.set_cons_succ]
        refine takeW (i := 13) (v := ?_) (Stable.held _ _) rfl (by kernel_rfl) (by kernel_rfl) (by kernel_rfl) (fun _ _ _ h => h) ?_ ?_
        rotate_left
        · first | (refine Or.inr ⟨by rfl, ?_⟩; with_reducible rfl) | (refine Or.inl ⟨by rfl, fun W hS => detR_value (w' := W) ?_ (Below.refl _ _)⟩; have hH := hS; obtain ⟨x0, x1, _⟩ := hH.1; go_simp; first | done | with_reducible rfl) | fail
        simp only [Act.put, List.setIfInBounds_toArray, List.set_cons_zero, List.set_cons_succ]
        refine takeW (i := 14) (v := ?_) (Stable.held _ _) rfl (by kernel_rfl) (by kernel_rfl) (by kernel_rfl) (fun _ _ _ h => h) ?_ ?_
        rotate_left
        · first | (refine Or.inr ⟨by rfl, ?_⟩; with_reducible rfl) | (refine Or.inl ⟨by rfl, fun W hS => detR_value (w' := W) ?_ (Below.refl _ _)⟩; have hH := hS; obtain ⟨x0, x1, _⟩ := hH.1; go_simp; first | done | with_reducible rfl) | fail
        simp only [Act.put, List.setIfInBounds_toArray, List.set_cons_zero, List.set_cons_succ]
        refine takeW (i := 15) (v := ?_) (Stable.held _ _) rfl (by kernel_rfl) (by kernel_rfl) (by kernel_rfl) (fun _ _ _ h => h) ?_ ?_
        rotate_left
        · first | (refine Or.inr ⟨by rfl, ?_⟩; with_reducible rfl) | (refine Or.inl ⟨by rfl, fun W hS => detR_value (w' := W) ?_ (Below.refl _ _)⟩; have hH := hS; obtain ⟨x0, x1, _⟩ := hH.1; go_simp; first | done | with_reducible rfl) | fail
        simp only [Act.put, List.setIfInBounds_toArray, List.set_cons_zero, List.set_cons_succ]
        refine freeX (i := 11) (fun v W => Ints W w.heap.size v ps) (Stable.held _ _) (fun v => stable_ints w.heap.size v ps) rfl (by kernel_rfl) (by rfl) (fun W hS => ?_) (fun v hex => ?_)
        · have hH := hS; obtain ⟨x0, x1, _⟩ := hH.1; refine freeR_call (w' := W) (f := ?_) (args := ?_) ?_ ?_; rotate_left 2; (go_simp; (refine ⟨?_, ?_⟩ <;> with_reducible rfl)); exact HP.out W hH.below
        obtain ⟨WX, hex⟩ := hex
        obtain ⟨a11, c11, rfl, -, -⟩ := hex.form
        try clear hex
        try clear WX
        simp only [Act.put, List.setIfInBounds_toArray, List.set_cons_zero, List.set_cons_succ]
        refine takeW (i := 12) (v := ?_) (Stable.and (Stable.held _ _) (stable_ints w.heap.size (.slice a11 ps.length c11) ps)) rfl (by kernel_rfl) (by kernel_rfl) (by kernel_rfl) (fun _ _ _ h => h) ?_ ?_
        rotate_left
        · first | (refine Or.inr ⟨by rfl, ?_⟩; with_reducible rfl) | (refine Or.inl ⟨by rfl, fun W hS => detR_value (w' := W) ?_ (Below.refl _ _)⟩; obtain ⟨hH, r11⟩ := hS; obtain ⟨x0, x1, _⟩ := hH.1; go_simp; first | done | with_reducible rfl) | fail
        simp only [Act.put, List.setIfInBounds_toArray, List.set_cons_zero, List.set_cons_succ]
        refine takeW (i := 16) (v := ?_) (Stable.and (Stable.held _ _) (stable_ints w.heap.size (.slice a11 ps.length c11) ps)) rfl (by kernel_rfl) (by kernel_rfl) (by kernel_rfl) (fun _ _ _ h => h) ?_ ?_
        rotate_left
        · first | (refine Or.inr ⟨by rfl, ?_⟩; with_reducible rfl) | (refine Or.inl ⟨by rfl, fun W hS => detR_value (w' := W) ?_ (Below.refl _ _)⟩; obtain ⟨hH, r11⟩ := hS; obtain ⟨x0, x1, _⟩ := hH.1; go_simp; first | done | with_reducible rfl) | fail
        simp only [Act.put, List.setIfInBounds_toArray, List.set_cons_zero, List.set_cons_succ]
        refine takeW (i := 17) (v := ?_) (Stable.and (Stable.held _ _) (stable_ints w.heap.size (.slice a11 ps.length c11) ps)) rfl (by kernel_rfl) (by kernel_rfl) (by kernel_rfl) (fun _ _ _ h => h) ?_ ?_
        rotate_left
        · first | (refine Or.inl ⟨by rfl, fun W hS => detR_value (w' := W) ?_ (Below.refl _ _)⟩; obtain ⟨hH, r11⟩ := hS; obtain ⟨x0, x1, _⟩ := hH.1; go_simp; first | done | with_reducible rfl) | fail
        simp only [Act.put, List.setIfInBounds_toArray, List.set_cons_zero, List.set_cons_succ]
        refine takeW (i := 18) (v := ?_) (Stable.and (Stable.held _ _) (stable_ints w.heap.size (.slice a11 ps.length c11) ps)) rfl (by kernel_rfl) (by kernel_rfl) (by kernel_rfl) (fun _ _ _ h => h) ?_ ?_
        rotate_left
        · first | (refine Or.inl ⟨by rfl, fun W hS => detR_value (w' := W) ?_ (Below.refl _ _)⟩; obtain ⟨hH, r11⟩ := hS; obtain ⟨x0, x1, _⟩ := hH.1; go_simp; first | done | with_reducible rfl) | fail
        simp only [Act.put, List.setIfInBounds_toArray, List.set_cons_zero, List.set_cons_succ]
        refine doneW (by kernel_rfl) fun wH1 HG => ?_
        obtain ⟨hH, r11⟩ := HG
        have H1 := Lib.hid hH; clear hH
        have MH1_o11 := Lib.hid r11; clear r11
        try clear x0 x1
        go_wp2_with fail
        go_ret
        exact ⟨ret_bool (by rw [HR.out]), H1.out.below⟩
      · have HR := Lib.hid (show r = false from by rw [hr, decide_eq_false hq])
        have gq : ((ps.length : Int) == (ns.length : Int)) = false := by rw [beq_eq_false_iff_ne]; omega
        clear hr hq
        go_enter Tryz.func134, Tryz.ntmps134
        go_wp2_with fail
        refine regionW (fun W => Held _ W [(w.heap.size, 0, .slice A ns.length c), (w.heap.size, 1, .slice A2 ls.length c2)]) (by kernel_rfl) H0.out.drew ?_
        refine takeW (i := 0) (v := ?_) (Stable.held _ _) rfl (by kernel_rfl) (by kernel_rfl) (by kernel_rfl) (fun _ _ _ h => h) ?_ ?_
        rotate_left
        · first | (refine Or.inl ⟨by rfl, fun W hS => detR_value (w' := W) ?_ (Below.refl _ _)⟩; have hH := hS; obtain ⟨x0, x1, _⟩ := hH.1; go_simp; first | done | with_reducible rfl) | fail
        simp only [Act.put, List.setIfInBounds_toArray, List.set_cons_zero, List.set_cons_succ]
        refine takeW (i := 1) (v := ?_) (Stable.held _ _) rfl (by kernel_rfl) (by kernel_rfl) (by kernel_rfl) (fun _ _ _ h => h) ?_ ?_
        rotate_left
        · first | (refine Or.inl ⟨by rfl, fun W hS => ?_⟩; have hH := hS; refine detR_call (w' := W) (f := ?_) (args := ?_) ?_ ?_; rotate_left 2; (go_simp; (refine ⟨?_, ?_⟩ <;> with_reducible rfl)); (first | (with_reducible refine (HW.out _ (HN.out.step hH.below) (HL.out.step hH.below)).mono ?_) | fail); (first | (rintro e wn ⟨rfl, hb⟩; refine ⟨?_, hb⟩; with_reducible rfl) | (rintro e wn ⟨rfl, rfl⟩; refine ⟨?_, Below.refl _ _⟩; with_reducible rfl) | fail)) | fail
        simp only [Act.put, List.setIfInBounds_toArray, List.set_cons_zero, List.set_cons_succ]
        refine takeW (i := 2) (v := ?_) (Stable.held _ _) rfl (by kernel_rfl) (by kernel_rfl) (by kernel_rfl) (fun _ _ _ h => h) ?_ ?_
        rotate_left
        · first | (refine Or.inl ⟨by rfl, fun W hS => detR_value (w' := W) ?_ (Below.refl _ _)⟩; have hH := hS; obtain ⟨x0, x1, _⟩ := hH.1; go_simp; first | done | with_reducible rfl) | fail
        simp only [Act.put, List.setIfInBounds_toArray, List.set_cons_zero, List.set_cons_succ]
        refine takeW (i := 3) (v := ?_) (Stable.held _ _) rfl (by kernel_rfl) (by kernel_rfl) (by kernel_rfl) (fun _ _ _ h => h) ?_ ?_
        rotate_left
        · first | (refine Or.inr ⟨by rfl, ?_⟩; with_reducible rfl) | (refine Or.inl ⟨by rfl, fun W hS => detR_value (w' := W) ?_ (Below.refl _ _)⟩; have hH := hS; obtain ⟨x0, x1, _⟩ := hH.1; go_simp; first | done | with_reducible rfl) | fail
        simp only [Act.put, List.setIfInBounds_toArray, List.set_cons_zero, List.set_cons_succ]
        refine takeW (i := 4) (v := ?_) (Stable.held _ _) rfl (by kernel_rfl) (by kernel_rfl) (by kernel_rfl) (fun _ _ _ h => h) ?_ ?_
        rotate_left
        · first | (refine Or.inr ⟨by rfl, ?_⟩; with_reducible rfl) | (refine Or.inl ⟨by rfl, fun W hS => detR_value (w' := W) ?_ (Below.refl _ _)⟩; have hH := hS; obtain ⟨x0, x1, _⟩ := hH.1; go_simp; first | done | with_reducible rfl) | fail
        simp only [Act.put, List.setIfInBounds_toArray, List.set_cons_zero, List.set_cons_succ]
        refine takeW (i := 5) (v := ?_) (Stable.held _ _) rfl (by kernel_rfl) (by kernel_rfl) (by kernel_rfl) (fun _ _ _ h => h) ?_ ?_
        rotate_left
        · first | (refine Or.inr ⟨by rfl, ?_⟩; with_reducible rfl) | (refine Or.inl ⟨by rfl, fun W hS => detR_value (w' := W) ?_ (Below.refl _ _)⟩; have hH := hS; obtain ⟨x0, x1, _⟩ := hH.1; go_simp; first | done | with_reducible rfl) | fail
        simp only [Act.put, List.setIfInBounds_toArray, List.set_cons_zero, List.set_cons_succ]
        refine takeW (i := 6) (v := ?_) (Stable.held _ _) rfl (by kernel_rfl) (by kernel_rfl) (by kernel_rfl) (fun _ _ _ h => h) ?_ ?_
        rotate_left
        · first | (refine Or.inr ⟨by rfl, ?_⟩; with_reducible rfl) | (refine Or.inl ⟨by rfl, fun W hS => detR_value (w' := W) ?_ (Below.refl _ _)⟩; have hH := hS; obtain ⟨x0, x1, _⟩ := hH.1; go_simp; first | done | with_reducible rfl) | fail
        simp only [Act.put, List.setIfInBounds_toArray, List.set_cons_zero, List.set_cons_succ]
        refine takeW (i := 7) (v := ?_) (Stable.held _ _) rfl (by kernel_rfl) (by kernel_rfl) (by kernel_rfl) (fun _ _ _ h => h) ?_ ?_
        rotate_left
        · first | (refine Or.inl ⟨by rfl, fun W hS => detR_value (w' := W) ?_ (Below.refl _ _)⟩; have hH := hS; obtain ⟨x0, x1, _⟩ := hH.1; go_simp; first | done | with_reducible rfl) | fail
        simp only [Act.put, List.setIfInBounds_toArray, List.set_cons_zero, List.set_cons_succ]
        refine takeW (i := 8) (v := ?_) (Stable.held _ _) rfl (by kernel_rfl) (by kernel_rfl) (by kernel_rfl) (fun _ _ _ h => h) ?_ ?_
        rotate_left
        · first | (refine Or.inl ⟨by rfl, fun W hS => detR_value (w' := W) ?_ (Below.refl _ _)⟩; have hH := hS; obtain ⟨x0, x1, _⟩ := hH.1; go_simp; first | done | with_reducible rfl) | fail
        simp only [Act.put, List.setIfInBounds_toArray, List.set_cons_zero, List.set_cons_succ]
        refine takeW (i := 9) (v := ?_) (Stable.held _ _) rfl (by kernel_rfl) (by kernel_rfl) (by kernel_rfl) (fun _ _ _ h => h) ?_ ?_
        rotate_left
        · first | (refine Or.inr ⟨by rfl, ?_⟩; with_reducible rfl) | (refine Or.inl ⟨by rfl, fun W hS => detR_value (w' := W) ?_ (Below.refl _ _)⟩; have hH := hS; obtain ⟨x0, x1, _⟩ := hH.1; go_simp; first | done | with_reducible rfl) | fail
        simp only [Act.put, List.setIfInBounds_toArray, List.set_cons_zero, List.set_cons_succ]
        refine takeW (i := 10) (v := ?_) (Stable.held _ _) rfl (by kernel_rfl) (by kernel_rfl) (by kernel_rfl) (fun _ _ _ h => h) ?_ ?_
        rotate_left
        · first | (refine Or.inr ⟨by rfl, ?_⟩; with_reducible rfl) | (refine Or.inl ⟨by rfl, fun W hS => ?_⟩; have hH := hS; refine detR_call (w' := W) (f := ?_) (args := ?_) ?_ ?_; rotate_left 2; (go_simp; (refine ⟨?_, ?_⟩ <;> with_reducible rfl)); (first | (with_reducible refine (HD.out _).mono ?_) | fail); (first | (rintro e wn ⟨rfl, hb⟩; refine ⟨?_, hb⟩; with_reducible rfl) | (rintro e wn ⟨rfl, rfl⟩; refine ⟨?_, Below.refl _ _⟩; with_reducible rfl) | fail)) | fail
        simp only [Act.put, List.setIfInBounds_toArray, List.set_cons_zero, List.set_cons_succ]
        refine takeW (i := 13) (v := ?_) (Stable.held _ _) rfl (by kernel_rfl) (by kernel_rfl) (by kernel_rfl) (fun _ _ _ h => h) ?_ ?_
        rotate_left
        · first | (refine Or.inr ⟨by rfl, ?_⟩; with_reducible rfl) | (refine Or.inl ⟨by rfl, fun W hS => detR_value (w' := W) ?_ (Below.refl _ _)⟩; have hH := hS; obtain ⟨x0, x1, _⟩ := hH.1; go_simp; first | done | with_reducible rfl) | fail
        simp only [Act.put, List.setIfInBounds_toArray, List.set_cons_zero, List.set_cons_succ]
        refine takeW (i := 14) (v := ?_) (Stable.held _ _) rfl (by kernel_rfl) (by kernel_rfl) (by kernel_rfl) (fun _ _ _ h => h) ?_ ?_
        rotate_left
        · first | (refine Or.inr ⟨by rfl, ?_⟩; with_reducible rfl) | (refine Or.inl ⟨by rfl, fun W hS => detR_value (w' := W) ?_ (Below.refl _ _)⟩; have hH := hS; obtain ⟨x0, x1, _⟩ := hH.1; go_simp; first | done | with_reducible rfl) | fail
        simp only [Act.put, List.setIfInBounds_toArray, List.set_cons_zero, List.set_cons_succ]
        refine takeW (i := 15) (v := ?_) (Stable.held _ _) rfl (by kernel_rfl) (by kernel_rfl) (by kernel_rfl) (fun _ _ _ h => h) ?_ ?_
        rotate_left
        · first | (refine Or.inr ⟨by rfl, ?_⟩; with_reducible rfl) | (refine Or.inl ⟨by rfl, fun W hS => detR_value (w' := W) ?_ (Below.refl _ _)⟩; have hH := hS; obtain ⟨x0, x1, _⟩ := hH.1; go_simp; first | done | with_reducible rfl) | fail
        simp only [Act.put, List.setIfInBounds_toArray, List.set_cons_zero, List.set_cons_succ]
        refine freeX (i := 11) (fun v W => Ints W w.heap.size v ps) (Stable.held _ _) (fun v => stable_ints w.heap.size v ps) rfl (by kernel_rfl) (by rfl) (fun W hS => ?_) (fun v hex => ?_)
        · have hH := hS; obtain ⟨x0, x1, _⟩ := hH.1; refine freeR_call (w' := W) (f := ?_) (args := ?_) ?_ ?_; rotate_left 2; (go_simp; (refine ⟨?_, ?_⟩ <;> with_reducible rfl)); exact HP.out W hH.below
        obtain ⟨WX, hex⟩ := hex
        obtain ⟨a11, c11, rfl, -, -⟩ := hex.form
        try clear hex
        try clear WX
        simp only [Act.put, List.setIfInBounds_toArray, List.set_cons_zero, List.set_cons_succ]
        refine takeW (i := 12) (v := ?_) (Stable.and (Stable.held _ _) (stable_ints w.heap.size (.slice a11 ps.length c11) ps)) rfl (by kernel_rfl) (by kernel_rfl) (by kernel_rfl) (fun _ _ _ h => h) ?_ ?_
        rotate_left
        · first | (refine Or.inr ⟨by rfl, ?_⟩; with_reducible rfl) | (refine Or.inl ⟨by rfl, fun W hS => detR_value (w' := W) ?_ (Below.refl _ _)⟩; obtain ⟨hH, r11⟩ := hS; obtain ⟨x0, x1, _⟩ := hH.1; go_simp; first | done | with_reducible rfl) | fail
        simp only [Act.put, List.setIfInBounds_toArray, List.set_cons_zero, List.set_cons_succ]
        refine takeW (i := 16) (v := ?_) (Stable.and (Stable.held _ _) (stable_ints w.heap.size (.slice a11 ps.length c11) ps)) rfl (by kernel_rfl) (by kernel_rfl) (by kernel_rfl) (fun _ _ _ h => h) ?_ ?_
        rotate_left
        · first | (refine Or.inr ⟨by rfl, ?_⟩; with_reducible rfl) | (refine Or.inl ⟨by rfl, fun W hS => detR_value (w' := W) ?_ (Below.refl _ _)⟩; obtain ⟨hH, r11⟩ := hS; obtain ⟨x0, x1, _⟩ := hH.1; go_simp; first | done | with_reducible rfl) | fail
        simp only [Act.put, List.setIfInBounds_toArray, List.set_cons_zero, List.set_cons_succ]
        refine takeW (i := 17) (v := ?_) (Stable.and (Stable.held _ _) (stable_ints w.heap.size (.slice a11 ps.length c11) ps)) rfl (by kernel_rfl) (by kernel_rfl) (by kernel_rfl) (fun _ _ _ h => h) ?_ ?_
        rotate_left
        · first | (refine Or.inl ⟨by rfl, fun W hS => detR_value (w' := W) ?_ (Below.refl _ _)⟩; obtain ⟨hH, r11⟩ := hS; obtain ⟨x0, x1, _⟩ := hH.1; go_simp; first | done | with_reducible rfl) | fail
        simp only [Act.put, List.setIfInBounds_toArray, List.set_cons_zero, List.set_cons_succ]
        refine takeW (i := 18) (v := ?_) (Stable.and (Stable.held _ _) (stable_ints w.heap.size (.slice a11 ps.length c11) ps)) rfl (by kernel_rfl) (by kernel_rfl) (by kernel_rfl) (fun _ _ _ h => h) ?_ ?_
        rotate_left
        · first | (refine Or.inl ⟨by rfl, fun W hS => detR_value (w' := W) ?_ (Below.refl _ _)⟩; obtain ⟨hH, r11⟩ := hS; obtain ⟨x0, x1, _⟩ := hH.1; go_simp; first | done | with_reducible rfl) | fail
        simp only [Act.put, List.setIfInBounds_toArray, List.set_cons_zero, List.set_cons_succ]
        refine doneW (by kernel_rfl) fun wH1 HG => ?_
        obtain ⟨hH, r11⟩ := HG
        have H1 := Lib.hid hH; clear hH
        have MH1_o11 := Lib.hid r11; clear r11
        try clear x0 x1
        go_wp2_with fail
        go_ret
        exact ⟨ret_bool (by rw [HR.out]), H1.out.below⟩
    · have HR := Lib.hid (show wholeB ns ls = false from by unfold wholeB; rw [decide_eq_false hl0]; simp)
      rw [hw] at HW
      clear hw
      have g0 : (ls.length : Int) ≤ 0 := by omega
      generalize wholeB ns ls = r at *
      go_enter Tryz.func134, Tryz.ntmps134
      go_wp2_with fail
      refine regionD (S := fun W => Held _ W [(w.heap.size, 0, .slice A ns.length c), (w.heap.size, 1, .slice A2 ls.length c2)]) (by kernel_rfl) H0.out.drew ?_
      iterate 19 (refine takeT (v := ?_) rfl (by kernel_rfl) (by kernel_rfl) (by kernel_rfl) ?_ ?_; rotate_left; (first | (refine Or.inr ⟨by rfl, ?_⟩; with_reducible rfl) | (refine Or.inl ⟨by rfl, fun W hS => detRes_value (w' := W) ?_ hS⟩; obtain ⟨x0, x1, _⟩ := hS.1; go_simp; first | done | with_reducible rfl) | (refine Or.inl ⟨by rfl, fun W hS => ?_⟩; refine detRes_call (w' := W) (f := ?_) (args := ?_) ?_ ?_; rotate_left 2; (go_simp; (refine ⟨?_, ?_⟩ <;> with_reducible rfl)); (first | (with_reducible refine (HW.out _ (HN.out.step hS.below) (HL.out.step hS.below)).mono ?_) | fail); (first | (rintro e wn ⟨rfl, hb⟩; refine ⟨?_, hS.step hb⟩; with_reducible rfl) | (rintro e wn ⟨rfl, rfl⟩; refine ⟨?_, hS⟩; with_reducible rfl) | fail)) | fail); (simp only [Act.put, List.setIfInBounds_toArray, List.set_cons_zero, List.set_cons_succ]))
      refine doneD (by kernel_rfl) fun wH1 HS => ?_
      have H1 := Lib.hid HS; clear HS
      try clear x0 x1
      obtain ⟨x0, x1, _⟩ := H1.out.1
      go_wp2_with fail
      go_ret
      exact ⟨ret_bool (by rw [HR.out]), H1.out.below⟩
  · have HR := Lib.hid (show wholeB ns ls = false from by unfold wholeB; rw [show winB ns ls = false by simpa using hw]; rfl)
    rw [show winB ns ls = false by simpa using hw] at HW
    clear hw
    generalize wholeB ns ls = r at *
    go_enter Tryz.func134, Tryz.ntmps134
    go_wp2_with fail
    refine regionD (S := fun W => Held _ W [(w.heap.size, 0, .slice A ns.length c), (w.heap.size, 1, .slice A2 ls.length c2)]) (by kernel_rfl) H0.out.drew ?_
    iterate 19 (refine takeT (v := ?_) rfl (by kernel_rfl) (by kernel_rfl) (by kernel_rfl) ?_ ?_; rotate_left; (first | (refine Or.inr ⟨by rfl, ?_⟩; with_reducible rfl) | (refine Or.inl ⟨by rfl, fun W hS => detRes_value (w' := W) ?_ hS⟩; obtain ⟨x0, x1, _⟩ := hS.1; go_simp; first | done | with_reducible rfl) | (refine Or.inl ⟨by rfl, fun W hS => ?_⟩; refine detRes_call (w' := W) (f := ?_) (args := ?_) ?_ ?_; rotate_left 2; (go_simp; (refine ⟨?_, ?_⟩ <;> with_reducible rfl)); (first | (with_reducible refine (HW.out _ (HN.out.step hS.below) (HL.out.step hS.below)).mono ?_) | fail); (first | (rintro e wn ⟨rfl, hb⟩; refine ⟨?_, hS.step hb⟩; with_reducible rfl) | (rintro e wn ⟨rfl, rfl⟩; refine ⟨?_, hS⟩; with_reducible rfl) | fail)) | fail); (simp only [Act.put, List.setIfInBounds_toArray, List.set_cons_zero, List.set_cons_succ]))
    refine doneD (by kernel_rfl) fun wH1 HS => ?_
    have H1 := Lib.hid HS; clear HS
    try clear x0 x1
    obtain ⟨x0, x1, _⟩ := H1.out.1
    go_wp2_with fail
    go_ret
    exact ⟨ret_bool (by rw [HR.out]), H1.out.below⟩

set_option maxRecDepth 100000 in
set_option maxHeartbeats 2000000 in
theorem specWhole (ns ls : List Nd) (vn vl : Value) (w : World) (hn : Prs w vn ns) (hl : Prs w vl ls) :
    Calls Tryz.prog 78 #[.agg #[vn, vl]] w (BoolIs (wholeB ns ls) w) := by
  have HN := Lib.hid hn
  have HL := Lib.hid hl
  have hlen := hn.len
  obtain ⟨A, c, rfl⟩ := prs_form2 hn
  obtain ⟨A2, c2, rfl⟩ := prs_form2 hl
  clear hn hl
  have H0 := Lib.hid (held_pair w (.slice A ns.length c) (.slice A2 ls.length c2) 32)
  have HW := Lib.hid (fun w h1 h2 => specWin ns ls (.slice A ns.length c) (.slice A2 ls.length c2) w h1 h2)
  by_cases hw : winB ns ls = true
  · have h20 := ((winB_iff ns ls).1 hw).1.2
    have h12 := ((winB_iff ns ls).1 hw).1.1.2
    have h1 := ((winB_iff ns ls).1 hw).1.1.1
    by_cases hl0 : 0 < ls.length
    · have hr : wholeB ns ls = decide ((partL ns ls 0).length = ns.length) := by
        unfold wholeB; rw [hw, decide_eq_true hl0]; rfl
      have HT := Lib.hid (show (∀ i, i < ns.length → lab ls ls.length i = 0) → wholeB ns ls = true from fun h => by rw [hr]; exact decide_eq_true ((whole_iff ns ls).2 h))
      have HF := Lib.hid (show ∀ i, i < ns.length → lab ls ls.length i ≠ 0 → wholeB ns ls = false from fun i hi h => by rw [hr]; exact decide_eq_false fun e => h ((whole_iff ns ls).1 e i hi))
      have HP := Lib.hid (fun w h1 h2 => specParts ns ls (.slice A ns.length c) (.slice A2 ls.length c2) w h1 h2 hw)
      unfold IntsNew at HP
      have HLA := Lib.hid (fun i (hi : i < ns.length) => (show atZ (labsL ns ls) i = (lab ls ls.length i : Nat) from genL_at _ hi))
      have HLL := Lib.hid (show (labsL ns ls).length = ns.length from genL_len _ _)
      rw [hw] at HW
      clear hw hr
      have g0 : ((ls.length : Int) == 0) = false := by rw [beq_eq_false_iff_ne]; omega
      generalize wholeB ns ls = r at *
      generalize labsL ns ls = lb at *
      generalize lab ls ls.length = LB at *
      go_enter Tryz.func78, Tryz.ntmps78
      go_wp2_with fail
      refine (HW.out _ (HN.out.step H0.out.below) (HL.out.step H0.out.below)).mono ?_
      rintro e wH1 ⟨rfl, hb⟩
      have H1 := Lib.hid ((H0.out).step hb); clear hb
      try clear x0 x1
      obtain ⟨x0, x1, _⟩ := H1.out.1
      go_wp2_with fail
      refine (HP.out _ (HN.out.step H1.out.below) (HL.out.step H1.out.below)).mono ?_
      rintro e w2 ⟨vl', rfl, hi, hb⟩
      have H2 := Lib.hid (H1.out.step hb)
      obtain ⟨gl, cl, rfl⟩ := hi.some_ (by rw [HLL.out]; omega)
      have HS2 := Lib.hid hi
      rw [HLL.out] at HS2 ⊢
      clear hi hb x0 x1 H1
      go_wp2_with fail
      go_loopw [4] (fun i wr => ∃ m : Nat, m ≤ ns.length ∧ i = .int .i64 m ∧ (∀ j, j < m → LB j = 0) ∧ wr = w2) (fun i _ => ns.length - (intOf i).toNat)
      case atStart => exact ⟨0, Nat.zero_le _, rfl, fun j hj => by omega, rfl⟩
      case round =>
        obtain ⟨m, hm, rfl, hz, rfl⟩ := hrel
        have HZ := Lib.hid hz; clear hz
        by_cases hlt : m < ns.length
        · have hlg := HLL.out
          obtain ⟨c0, -, -, -, -⟩ := HS2.out.at_ (j := m) (by omega)
          rw [HLA.out m hlt] at c0
          have HFM := Lib.hid (HF.out m hlt)
          have HZN := Lib.hid (show LB m = 0 → ∀ j, j < m + 1 → LB j = 0 from fun h j hj => by
            by_cases e : j = m
            · subst e; exact h
            · exact HZ.out j (by omega))
          have hz1 : (m : Int) < (ns.length : Int) := by omega
          have hz2 : (0 : Int) ≤ m := by omega
          generalize hlm : LB m = lm at *
          clear hlg hlm
          by_cases hq : lm = 0
          · have gq : ((lm : Int) != 0) = false := by simp [hq]
            have HQ := Lib.hid hq; clear hq
            go_wp2_with fail
            exact ⟨⟨m + 1, by omega, by go_num, HZN.out HQ.out, trivial⟩, by simp [intOf]; omega⟩
          · have gq : ((lm : Int) != 0) = true := by rw [bne_iff_ne]; omega
            have HQ := Lib.hid hq; clear hq
            go_wp2_with fail
            go_ret
            exact ⟨ret_bool (by rw [HFM.out HQ.out]), H2.out.below⟩
        · obtain rfl : m = ns.length := by omega
          go_wp2_with fail
          go_ret
          exact ⟨ret_bool (by rw [HT.out HZ.out]), H2.out.below⟩
    · have HR := Lib.hid (show wholeB ns ls = false from by unfold wholeB; rw [decide_eq_false hl0]; simp)
      rw [hw] at HW
      clear hw
      have g0 : ((ls.length : Int) == 0) = true := by rw [beq_iff_eq]; omega
      generalize wholeB ns ls = r at *
      go_enter Tryz.func78, Tryz.ntmps78
      go_wp2_with fail
      refine (HW.out _ (HN.out.step H0.out.below) (HL.out.step H0.out.below)).mono ?_
      rintro e wH1 ⟨rfl, hb⟩
      have H1 := Lib.hid ((H0.out).step hb); clear hb
      try clear x0 x1
      obtain ⟨x0, x1, _⟩ := H1.out.1
      go_wp2_with fail
      go_ret
      exact ⟨ret_bool (by rw [HR.out]), H1.out.below⟩
  · have HR := Lib.hid (show wholeB ns ls = false from by unfold wholeB; rw [show winB ns ls = false by simpa using hw]; rfl)
    rw [show winB ns ls = false by simpa using hw] at HW
    clear hw
    generalize wholeB ns ls = r at *
    go_enter Tryz.func78, Tryz.ntmps78
    go_wp2_with fail
    refine (HW.out _ (HN.out.step H0.out.below) (HL.out.step H0.out.below)).mono ?_
    rintro e wH1 ⟨rfl, hb⟩
    have H1 := Lib.hid ((H0.out).step hb); clear hb
    try clear x0 x1
    obtain ⟨x0, x1, _⟩ := H1.out.1
    go_wp2_with fail
    go_ret
    exact ⟨ret_bool (by rw [HR.out]), H1.out.below⟩
end Go.Proofs.YtepacoacalhdcaaGreat
