/-
  Sheets of glass, of the model and of the program: valid ones, fitting, cuts, pieces.
-/
import Derived.Test.YtcaochbmcfefaaaNode
import Derived.Test.YtcaochbmcfefaaaHeld
import Derived.Test.YtcaochbmcfefaaaNodeB
import Derived.Test.YtcaochbmcfefaaaDet
import Derived.BigGuardPart
import Derived.Deep.QuietTactic
import Derived.BigQuiet
import Derived.Deep.Draws
namespace Go.Proofs.Ytcaochbmcfefaaa
open Go.RowKit
set_option linter.unusedVariables false
set_option linter.unusedSimpArgs false

theorem specInB (x a b : Int) (w : World) :
    Calls Try.prog 45 #[.int .i64 x, .int .i64 a, .int .i64 b] w (BoolIs (inB x a b) w) :=
  (specIn x a b w).mono fun e w' h => ⟨h.1, h.2 ▸ Below.refl _ _⟩
def PairIs (n : Nd) (w : World) (e : Ending) (w' : World) : Prop := e = .returned n.val ∧ Below w.heap.size w w'
theorem toSheet_any (n : Nd) (w : World) :
    Calls Try.prog 16 #[n.val] w (PairIs n w) := by
  obtain ⟨x, y⟩ := n
  unfold Nd.val
  go_enter Try.func16, Try.ntmps16
  go_wp2_with fail
  refine bodyPost_ret (v := .agg #[.int .i64 x, .int .i64 y]) (by simp [results, Try.results16, go_sem]) rfl ⟨rfl, below3 w _ _ _⟩

def shB (s : Nd) : Bool := inB s.x 1 40 && inB s.y 1 40
theorem shB_iff (s : Nd) : shB s = true ↔ (1 ≤ s.x ∧ s.x ≤ 40) ∧ (1 ≤ s.y ∧ s.y ≤ 40) := by simp [shB, inB]

theorem implSheet (s : Nd) (w : World) :
    Calls Try.prog 46 #[s.val] w (BoolIs (shB s) w) := by
  obtain ⟨x, y⟩ := s
  have hr : shB ⟨x, y⟩ = decide ((1 ≤ x ∧ x ≤ 40) ∧ (1 ≤ y ∧ y ≤ 40)) := by rw [Bool.eq_iff_iff, shB_iff]; simp
  unfold Nd.val
  generalize shB ⟨x, y⟩ = r at *
  have HR := Lib.hid hr; clear hr
  go_enter Try.func46, Try.ntmps46
  go_wp2
  all_goals
    go_ret
    exact ⟨ret_bool (by rw [HR.out, Bool.eq_iff_iff]; simp; omega), (Below.refl _ _).alloc (Nat.le_refl _) _⟩

theorem implSheetOk (s : Nd) (w : World) :
    Calls Try.prog 17 #[s.val] w (BoolIs (shB s) w) := by
  have HI := Lib.hid (implSheet s)
  have H0 := Lib.hid (held1 w s 25)
  obtain ⟨x, y⟩ := s
  generalize shB ⟨x, y⟩ = r at *
  unfold Nd.val at *
  go_enter Try.func17, Try.ntmps17
  go_wp2_with fail
  repeat' (first | ((first | (with_reducible refine (HI.out _).mono ?_) | fail); rintro e wn ⟨rfl, hb⟩; have H0 := Lib.hid (H0.out.step hb); clear hb; (try clear x0 x1); obtain ⟨x0, x1, _⟩ := H0.out.1; go_wp2_with fail) | fail)
  go_ret
  exact ⟨rfl, H0.out.below⟩

theorem specSheetOk (s : Nd) (w : World) :
    Calls Try.prog 15 #[s.val] w (BoolIs (shB s) w) := by
  have HA := Lib.hid (fun w => specInB s.x 1 40 w)
  have HB := Lib.hid (fun w => specInB s.y 1 40 w)
  have HR := Lib.hid (show shB s = (inB s.x 1 40 && inB s.y 1 40) from rfl)
  have H0 := Lib.hid (held1 w s 25)
  obtain ⟨x, y⟩ := s
  simp only at HA HB HR
  generalize shB ⟨x, y⟩ = r at *
  generalize inB x 1 40 = b1 at *
  generalize inB y 1 40 = b2 at *
  unfold Nd.val at *
  cases b1 <;> cases b2
  all_goals
    go_enter Try.func15, Try.ntmps15
    go_wp2_with fail
    repeat' (first | ((first | (with_reducible refine (HA.out _).mono ?_) | (with_reducible refine (HB.out _).mono ?_) | fail); rintro e wn ⟨rfl, hb⟩; have H0 := Lib.hid (H0.out.step hb); clear hb; (try clear x0 x1); obtain ⟨x0, x1, _⟩ := H0.out.1; go_wp2_with fail) | fail)
    go_ret
    exact ⟨ret_bool (by rw [HR.out]; simp), H0.out.below⟩

def holdsB (s p : Nd) : Bool := decide (p.x ≤ s.x) && decide (p.y ≤ s.y)
theorem implHolds (s p : Nd) (w : World) :
    Calls Try.prog 47 #[s.val, p.val] w (BoolIs (holdsB s p) w) := by
  have hr : holdsB s p = (decide (p.x ≤ s.x) && decide (p.y ≤ s.y)) := rfl
  obtain ⟨x, y⟩ := s
  obtain ⟨px, py⟩ := p
  simp only at hr
  generalize holdsB ⟨x, y⟩ ⟨px, py⟩ = r at *
  have HR := Lib.hid hr; clear hr
  unfold Nd.val
  go_enter Try.func47, Try.ntmps47
  go_wp2
  all_goals
    go_ret
    exact ⟨ret_bool (by rw [HR.out, Bool.eq_iff_iff]; simp; omega), below2 w _ _⟩

theorem implTurnedSheet (s : Nd) (w : World) :
    Calls Try.prog 48 #[s.val] w (PairIs ⟨s.y, s.x⟩ w) := by
  obtain ⟨x, y⟩ := s
  unfold Nd.val
  go_enter Try.func48, Try.ntmps48
  go_wp2_with fail
  refine bodyPost_ret (v := .agg #[.int .i64 y, .int .i64 x]) (by simp [results, Try.results48, go_sem]) rfl ⟨rfl, below2 w _ _⟩

def fitsB (s p : Nd) (g : Bool) : Bool := shB s && shB p && (holdsB s p || (!g && holdsB s ⟨p.y, p.x⟩))
theorem implFits (s p : Nd) (g : Bool) (w : World) :
    Calls Try.prog 19 #[s.val, p.val, .bool g] w (BoolIs (fitsB s p g) w) := by
  have HA := Lib.hid (implSheet s)
  have HB := Lib.hid (implSheet p)
  have HC := Lib.hid (implHolds s p)
  have HD := Lib.hid (implHolds s ⟨p.y, p.x⟩)
  have HT := Lib.hid (implTurnedSheet p)
  have HR := Lib.hid (show fitsB s p g = (shB s && shB p && (holdsB s p || (!g && holdsB s ⟨p.y, p.x⟩))) from rfl)
  have H0 := Lib.hid (held2 w s p 25 25)
  generalize fitsB s p g = r at *
  generalize shB s = b1 at *
  generalize shB p = b2 at *
  generalize holdsB s p = b3 at *
  generalize holdsB s ⟨p.y, p.x⟩ = b4 at *
  obtain ⟨x, y⟩ := s
  obtain ⟨px, py⟩ := p
  unfold PairIs at HT
  unfold Nd.val at *
  simp only at H0 HA HB HC HD HT
  cases b1
  · go_enter Try.func19, Try.ntmps19
    go_wp2_with fail
    repeat' (first | ((first | (with_reducible refine (HA.out _).mono ?_) | (with_reducible refine (HB.out _).mono ?_) | fail); rintro e wn ⟨rfl, hb⟩; have H0 := Lib.hid (H0.out.step hb); clear hb; (try clear x0 x1 x2 x3); obtain ⟨x0, x1, x2, x3, _⟩ := H0.out.1; go_wp2_with fail) | fail)
    go_ret
    exact ⟨ret_bool (by rw [HR.out]; simp), H0.out.below⟩
  cases b2
  · go_enter Try.func19, Try.ntmps19
    go_wp2_with fail
    repeat' (first | ((first | (with_reducible refine (HA.out _).mono ?_) | (with_reducible refine (HB.out _).mono ?_) | fail); rintro e wn ⟨rfl, hb⟩; have H0 := Lib.hid (H0.out.step hb); clear hb; (try clear x0 x1 x2 x3); obtain ⟨x0, x1, x2, x3, _⟩ := H0.out.1; go_wp2_with fail) | fail)
    go_ret
    exact ⟨ret_bool (by rw [HR.out]; simp), H0.out.below⟩
  cases b3 <;> cases g <;> cases b4
  all_goals
    go_enter Try.func19, Try.ntmps19
    go_wp2_with fail
    repeat' (first | ((first | (with_reducible refine (HA.out _).mono ?_) | (with_reducible refine (HB.out _).mono ?_) | fail); rintro e wn ⟨rfl, hb⟩; have H0 := Lib.hid (H0.out.step hb); clear hb; (try clear x0 x1 x2 x3); obtain ⟨x0, x1, x2, x3, _⟩ := H0.out.1; go_wp2_with fail) | fail)
    refine regionD (S := fun W => Held _ W [(w.heap.size, 0, .int .i64 (x)), (w.heap.size, 1, .int .i64 (y)), (w.heap.size+1, 0, .int .i64 (px)), (w.heap.size+1, 1, .int .i64 (py))]) (by kernel_rfl) H0.out.drew ?_
    iterate 14 (refine takeT (v := ?_) rfl (by kernel_rfl) (by kernel_rfl) (by kernel_rfl) ?_ ?_; rotate_left; (first | (refine Or.inr ⟨by rfl, ?_⟩; with_reducible rfl) | (refine Or.inl ⟨by rfl, fun W hS => detRes_value (w' := W) ?_ hS⟩; obtain ⟨x0, x1, x2, x3, _⟩ := hS.1; go_simp; first | done | with_reducible rfl) | (refine Or.inl ⟨by rfl, fun W hS => ?_⟩; refine detRes_call (w' := W) (f := ?_) (args := ?_) ?_ ?_; rotate_left 2; (go_simp; (refine ⟨?_, ?_⟩ <;> with_reducible rfl)); (first | (with_reducible refine (HC.out _).mono ?_) | (with_reducible refine (HD.out _).mono ?_) | (with_reducible refine (HT.out _).mono ?_) | fail); (first | (rintro e wn ⟨rfl, hb⟩; refine ⟨?_, hS.step hb⟩; with_reducible rfl) | (rintro e wn ⟨rfl, rfl⟩; refine ⟨?_, hS⟩; with_reducible rfl) | fail)) | fail); (simp only [Act.put, List.setIfInBounds_toArray, List.set_cons_zero, List.set_cons_succ]))
    refine doneD (by kernel_rfl) fun wH1 HS => ?_
    have H1 := Lib.hid HS; clear HS
    try clear x0 x1 x2 x3
    obtain ⟨x0, x1, x2, x3, _⟩ := H1.out.1
    go_wp2_with fail
    go_ret
    exact ⟨ret_bool (by rw [HR.out]; simp), H1.out.below⟩

theorem specFits (s p : Nd) (g : Bool) (w : World) :
    Calls Try.prog 18 #[s.val, p.val, .bool g] w (BoolIs (fitsB s p g) w) := by
  have HA := Lib.hid (specSheetOk s)
  have HB := Lib.hid (specSheetOk p)
  have hr : fitsB s p g = (shB s && shB p && ((decide (p.x ≤ s.x) && decide (p.y ≤ s.y)) || (!g && (decide (p.y ≤ s.x) && decide (p.x ≤ s.y))))) := rfl
  have H0 := Lib.hid (held2 w s p 25 25)
  generalize fitsB s p g = r at *
  generalize shB s = b1 at *
  generalize shB p = b2 at *
  obtain ⟨x, y⟩ := s
  obtain ⟨px, py⟩ := p
  simp only at H0 HA HB hr
  have HR := Lib.hid hr; clear hr
  unfold Nd.val at *
  cases b1 <;> cases b2 <;> cases g
  all_goals
    go_enter Try.func18, Try.ntmps18
    go_wp2_with fail
    repeat' (first | ((first | (with_reducible refine (HA.out _).mono ?_) | (with_reducible refine (HB.out _).mono ?_) | fail); rintro e wn ⟨rfl, hb⟩; have H0 := Lib.hid (H0.out.step hb); clear hb; (try clear x0 x1 x2 x3); obtain ⟨x0, x1, x2, x3, _⟩ := H0.out.1; go_wp2_with fail) | fail)
  all_goals
    go_ret
    exact ⟨ret_bool (by rw [HR.out, Bool.eq_iff_iff]; simp; try omega), H0.out.below⟩

def cutsI (s p : Nd) : Int := if fitsB s p true = true then (cond (decide (s.x = p.x)) 0 1) + (cond (decide (s.y = p.y)) 0 1) else -1

theorem implCuts (s p : Nd) (w : World) :
    Calls Try.prog 21 #[s.val, p.val] w (IntIs (cutsI s p) w) := by
  have HF := Lib.hid (implFits s p true)
  have HR := Lib.hid (show cutsI s p = if fitsB s p true = true then (cond (decide (s.x = p.x)) 0 1) + (cond (decide (s.y = p.y)) 0 1) else -1 from rfl)
  have H0 := Lib.hid (held2 w s p 25 25)
  generalize cutsI s p = r at *
  generalize fitsB s p true = b at *
  obtain ⟨x, y⟩ := s
  obtain ⟨px, py⟩ := p
  unfold Nd.val at *
  simp only at H0 HF HR
  have g1 : (x != px) = !decide (x = px) := by rfl
  have g2 : (y != py) = !decide (y = py) := by rfl
  generalize decide (x = px) = d1 at *
  generalize decide (y = py) = d2 at *
  cases b <;> cases d1 <;> cases d2
  all_goals
    simp only [Bool.not_true, Bool.not_false] at g1 g2
    go_enter Try.func21, Try.ntmps21
    go_wp2_with fail
    repeat' (first | ((first | (with_reducible refine (HF.out _).mono ?_) | fail); rintro e wn ⟨rfl, hb⟩; have H0 := Lib.hid (H0.out.step hb); clear hb; (try clear x0 x1 x2 x3); obtain ⟨x0, x1, x2, x3, _⟩ := H0.out.1; go_wp2_with fail) | fail)
    go_ret
    exact ⟨ret_int (by rw [HR.out]; simp), H0.out.below⟩

theorem specCuts (s p : Nd) (w : World) :
    Calls Try.prog 20 #[s.val, p.val] w (IntIs (cutsI s p) w) := by
  have HF := Lib.hid (specFits s p true)
  have HR := Lib.hid (show cutsI s p = if fitsB s p true = true then (cond (decide (s.x = p.x)) 0 1) + (cond (decide (s.y = p.y)) 0 1) else -1 from rfl)
  have H0 := Lib.hid (held2 w s p 25 25)
  generalize cutsI s p = r at *
  generalize fitsB s p true = b at *
  obtain ⟨x, y⟩ := s
  obtain ⟨px, py⟩ := p
  unfold Nd.val at *
  simp only at H0 HF HR
  have g1 : (x != px) = !decide (x = px) := by rfl
  have g2 : (y != py) = !decide (y = py) := by rfl
  generalize decide (x = px) = d1 at *
  generalize decide (y = py) = d2 at *
  cases b <;> cases d1 <;> cases d2
  all_goals
    simp only [Bool.not_true, Bool.not_false] at g1 g2
    go_enter Try.func20, Try.ntmps20
    go_wp2_with fail
    repeat' (first | ((first | (with_reducible refine (HF.out _).mono ?_) | fail); rintro e wn ⟨rfl, hb⟩; have H0 := Lib.hid (H0.out.step hb); clear hb; (try clear x0 x1 x2 x3); obtain ⟨x0, x1, x2, x3, _⟩ := H0.out.1; go_wp2_with fail) | fail)
    go_ret
    exact ⟨ret_int (by rw [HR.out]; simp), H0.out.below⟩

def mostI (s p : Nd) : Int := if shB s && shB p then s.x / p.x * (s.y / p.y) else 0
theorem specMost (s p : Nd) (w : World) :
    Calls Try.prog 22 #[s.val, p.val] w (IntIs (mostI s p) w) := by
  have HA := Lib.hid (specSheetOk s)
  have HB := Lib.hid (specSheetOk p)
  have HR := Lib.hid (show mostI s p = if shB s && shB p then s.x / p.x * (s.y / p.y) else 0 from rfl)
  have HI1 := Lib.hid (shB_iff s)
  have HI2 := Lib.hid (shB_iff p)
  have H0 := Lib.hid (held2 w s p 25 25)
  generalize mostI s p = r at *
  generalize shB s = b1 at *
  generalize shB p = b2 at *
  obtain ⟨x, y⟩ := s
  obtain ⟨px, py⟩ := p
  unfold Nd.val at *
  simp only at H0 HA HB HR HI1 HI2
  cases b1
  · go_enter Try.func22, Try.ntmps22
    go_wp2_with fail
    repeat' (first | ((first | (with_reducible refine (HA.out _).mono ?_) | (with_reducible refine (HB.out _).mono ?_) | fail); rintro e wn ⟨rfl, hb⟩; have H0 := Lib.hid (H0.out.step hb); clear hb; (try clear x0 x1 x2 x3); obtain ⟨x0, x1, x2, x3, _⟩ := H0.out.1; go_wp2_with fail) | fail)
    go_ret
    exact ⟨ret_int (by rw [HR.out]; simp), H0.out.below⟩
  cases b2
  · go_enter Try.func22, Try.ntmps22
    go_wp2_with fail
    repeat' (first | ((first | (with_reducible refine (HA.out _).mono ?_) | (with_reducible refine (HB.out _).mono ?_) | fail); rintro e wn ⟨rfl, hb⟩; have H0 := Lib.hid (H0.out.step hb); clear hb; (try clear x0 x1 x2 x3); obtain ⟨x0, x1, x2, x3, _⟩ := H0.out.1; go_wp2_with fail) | fail)
    go_ret
    exact ⟨ret_int (by rw [HR.out]; simp), H0.out.below⟩
  obtain ⟨⟨a1, a2⟩, a3, a4⟩ := HI1.out.1 rfl
  obtain ⟨⟨c1, c2⟩, c3, c4⟩ := HI2.out.1 rfl
  have n1 : ¬ px = 0 := by omega
  have n2 : ¬ py = 0 := by omega
  have z1 : 0 ≤ x := by omega
  have z2 : 0 ≤ y := by omega
  have u1 : 0 ≤ x / px := Int.ediv_nonneg z1 (by omega)
  have u2 : 0 ≤ y / py := Int.ediv_nonneg z2 (by omega)
  have u3 : x / px ≤ x := Int.ediv_le_self _ z1
  have u4 : y / py ≤ y := Int.ediv_le_self _ z2
  have e1 : IntKind.i64.wrap (x / px) = x / px := IntWalk.i64_in _ (by omega)
  have e2 : IntKind.i64.wrap (y / py) = y / py := IntWalk.i64_in _ (by omega)
  go_enter Try.func22, Try.ntmps22
  go_wp2_with fail
  repeat' (first | ((first | (with_reducible refine (HA.out _).mono ?_) | (with_reducible refine (HB.out _).mono ?_) | fail); rintro e wn ⟨rfl, hb⟩; have H0 := Lib.hid (H0.out.step hb); clear hb; (try clear x0 x1 x2 x3); obtain ⟨x0, x1, x2, x3, _⟩ := H0.out.1; go_wp2_with fail) | fail)
  refine regionD (S := fun W => Held _ W [(w.heap.size, 0, .int .i64 (x)), (w.heap.size, 1, .int .i64 (y)), (w.heap.size+1, 0, .int .i64 (px)), (w.heap.size+1, 1, .int .i64 (py))]) (by kernel_rfl) H0.out.drew ?_
  iterate 12 (refine takeT (v := ?_) rfl (by kernel_rfl) (by kernel_rfl) (by kernel_rfl) ?_ ?_; rotate_left; (first | (refine Or.inr ⟨by rfl, ?_⟩; with_reducible rfl) | (refine Or.inl ⟨by rfl, fun W hS => detRes_value (w' := W) ?_ hS⟩; obtain ⟨x0, x1, x2, x3, _⟩ := hS.1; go_simp; first | done | with_reducible rfl) | fail); (simp only [Act.put, List.setIfInBounds_toArray, List.set_cons_zero, List.set_cons_succ]))
  refine doneD (by kernel_rfl) fun wH1 HS => ?_
  have H1 := Lib.hid HS; clear HS
  try clear x0 x1 x2 x3
  obtain ⟨x0, x1, x2, x3, _⟩ := H1.out.1
  go_wp2_with fail
  go_ret
  obtain ⟨p1, p2⟩ := prod_bd (p := x / px) (q := y / py) 40 (by omega) (by omega) (by omega) (by omega)
  exact ⟨ret_int (by rw [HR.out, Int.tdiv_eq_ediv_of_nonneg z1, Int.tdiv_eq_ediv_of_nonneg z2, e1, e2, IntWalk.i64_in _ (by omega)]; rfl), H1.out.below⟩

theorem implMost (s p : Nd) (w : World) :
    Calls Try.prog 23 #[s.val, p.val] w (IntIs (mostI s p) w) := by
  have HA := Lib.hid (implSheet s)
  have HB := Lib.hid (implSheet p)
  have HR := Lib.hid (show mostI s p = if shB s && shB p then s.x / p.x * (s.y / p.y) else 0 from rfl)
  have HI1 := Lib.hid (shB_iff s)
  have HI2 := Lib.hid (shB_iff p)
  have H0 := Lib.hid (held2 w s p 25 25)
  generalize mostI s p = r at *
  generalize shB s = b1 at *
  generalize shB p = b2 at *
  obtain ⟨x, y⟩ := s
  obtain ⟨px, py⟩ := p
  unfold Nd.val at *
  simp only at H0 HA HB HR HI1 HI2
  cases b1
  · go_enter Try.func23, Try.ntmps23
    go_wp2_with fail
    repeat' (first | ((first | (with_reducible refine (HA.out _).mono ?_) | (with_reducible refine (HB.out _).mono ?_) | fail); rintro e wn ⟨rfl, hb⟩; have H0 := Lib.hid (H0.out.step hb); clear hb; (try clear x0 x1 x2 x3); obtain ⟨x0, x1, x2, x3, _⟩ := H0.out.1; go_wp2_with fail) | fail)
    go_ret
    exact ⟨ret_int (by rw [HR.out]; simp), H0.out.below⟩
  cases b2
  · go_enter Try.func23, Try.ntmps23
    go_wp2_with fail
    repeat' (first | ((first | (with_reducible refine (HA.out _).mono ?_) | (with_reducible refine (HB.out _).mono ?_) | fail); rintro e wn ⟨rfl, hb⟩; have H0 := Lib.hid (H0.out.step hb); clear hb; (try clear x0 x1 x2 x3); obtain ⟨x0, x1, x2, x3, _⟩ := H0.out.1; go_wp2_with fail) | fail)
    go_ret
    exact ⟨ret_int (by rw [HR.out]; simp), H0.out.below⟩
  obtain ⟨⟨a1, a2⟩, a3, a4⟩ := HI1.out.1 rfl
  obtain ⟨⟨c1, c2⟩, c3, c4⟩ := HI2.out.1 rfl
  have n1 : ¬ px = 0 := by omega
  have n2 : ¬ py = 0 := by omega
  have z1 : 0 ≤ x := by omega
  have z2 : 0 ≤ y := by omega
  have u1 : 0 ≤ x / px := Int.ediv_nonneg z1 (by omega)
  have u2 : 0 ≤ y / py := Int.ediv_nonneg z2 (by omega)
  have u3 : x / px ≤ x := Int.ediv_le_self _ z1
  have u4 : y / py ≤ y := Int.ediv_le_self _ z2
  have e1 : IntKind.i64.wrap (x / px) = x / px := IntWalk.i64_in _ (by omega)
  have e2 : IntKind.i64.wrap (y / py) = y / py := IntWalk.i64_in _ (by omega)
  go_enter Try.func23, Try.ntmps23
  go_wp2_with fail
  repeat' (first | ((first | (with_reducible refine (HA.out _).mono ?_) | (with_reducible refine (HB.out _).mono ?_) | fail); rintro e wn ⟨rfl, hb⟩; have H0 := Lib.hid (H0.out.step hb); clear hb; (try clear x0 x1 x2 x3); obtain ⟨x0, x1, x2, x3, _⟩ := H0.out.1; go_wp2_with fail) | fail)
  refine regionD (S := fun W => Held _ W [(w.heap.size, 0, .int .i64 (x)), (w.heap.size, 1, .int .i64 (y)), (w.heap.size+1, 0, .int .i64 (px)), (w.heap.size+1, 1, .int .i64 (py))]) (by kernel_rfl) H0.out.drew ?_
  iterate 12 (refine takeT (v := ?_) rfl (by kernel_rfl) (by kernel_rfl) (by kernel_rfl) ?_ ?_; rotate_left; (first | (refine Or.inr ⟨by rfl, ?_⟩; with_reducible rfl) | (refine Or.inl ⟨by rfl, fun W hS => detRes_value (w' := W) ?_ hS⟩; obtain ⟨x0, x1, x2, x3, _⟩ := hS.1; go_simp; first | done | with_reducible rfl) | fail); (simp only [Act.put, List.setIfInBounds_toArray, List.set_cons_zero, List.set_cons_succ]))
  refine doneD (by kernel_rfl) fun wH1 HS => ?_
  have H1 := Lib.hid HS; clear HS
  try clear x0 x1 x2 x3
  obtain ⟨x0, x1, x2, x3, _⟩ := H1.out.1
  go_wp2_with fail
  go_ret
  obtain ⟨p1, p2⟩ := prod_bd (p := x / px) (q := y / py) 40 (by omega) (by omega) (by omega) (by omega)
  exact ⟨ret_int (by rw [HR.out, Int.tdiv_eq_ediv_of_nonneg z1, Int.tdiv_eq_ediv_of_nonneg z2, e1, e2, IntWalk.i64_in _ (by omega)]; rfl), H1.out.below⟩
end Go.Proofs.Ytcaochbmcfefaaa
