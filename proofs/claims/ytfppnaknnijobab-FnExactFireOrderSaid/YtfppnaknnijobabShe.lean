/-
  Sheets of glass, of the model and of the program: valid ones, fitting, cuts, pieces.
-/
import Derived.Test.YtfppnaknnijobabNode
import Derived.Test.YtfppnaknnijobabHeld
import Derived.Test.YtfppnaknnijobabNodeB
import Derived.Test.YtfppnaknnijobabDet
import Derived.BigGuardPart
import Derived.Deep.QuietTactic
import Derived.BigQuiet
import Derived.Deep.Draws
namespace Go.Proofs.Ytfppnaknnijobab
open Go.RowKit
set_option linter.unusedVariables false
set_option linter.unusedSimpArgs false

theorem specInB (x a b : Int) (w : World) :
    Calls Try.prog 73 #[.int .i64 x, .int .i64 a, .int .i64 b] w (BoolIs (inB x a b) w) :=
  (specIn x a b w).mono fun e w' h => ⟨h.1, h.2 ▸ Below.refl _ _⟩

def PairIs (n : Nd) (w : World) (e : Ending) (w' : World) : Prop := e = .returned n.val ∧ Below w.heap.size w w'

theorem toSheet_any (n : Nd) (w : World) :
    Calls Try.prog 38 #[n.val] w (PairIs n w) := by
  obtain ⟨x, y⟩ := n
  unfold Nd.val
  go_enter Try.func38, Try.ntmps38
  go_wp2_with fail
  refine bodyPost_ret (v := .agg #[.int .i64 x, .int .i64 y]) (by simp [results, Try.results38, go_sem]) rfl ⟨rfl, below3 w _ _ _⟩

def shB (s : Nd) : Bool := inB s.x 1 40 && inB s.y 1 40
theorem shB_iff (s : Nd) : shB s = true ↔ (1 ≤ s.x ∧ s.x ≤ 40) ∧ (1 ≤ s.y ∧ s.y ≤ 40) := by simp [shB, inB]

theorem implSheet (s : Nd) (w : World) :
    Calls Try.prog 92 #[s.val] w (BoolIs (shB s) w) := by
  obtain ⟨x, y⟩ := s
  have hr : shB ⟨x, y⟩ = decide ((1 ≤ x ∧ x ≤ 40) ∧ (1 ≤ y ∧ y ≤ 40)) := by rw [Bool.eq_iff_iff, shB_iff]; simp
  unfold Nd.val
  generalize shB ⟨x, y⟩ = r at *
  have HR := Lib.hid hr; clear hr
  go_enter Try.func92, Try.ntmps92
  go_wp2
  all_goals
    go_ret
    exact ⟨ret_bool (by rw [HR.out, Bool.eq_iff_iff]; simp; omega), (Below.refl _ _).alloc (Nat.le_refl _) _⟩

theorem specSheetOk (s : Nd) (w : World) :
    Calls Try.prog 88 #[s.val] w (BoolIs (shB s) w) := by
  have HA := Lib.hid (fun w => specInB s.x 1 40 w)
  have HB := Lib.hid (fun w => specInB s.y 1 40 w)
  have HR := Lib.hid (show shB s = (inB s.x 1 40 && inB s.y 1 40) from rfl)
  have H0 := Lib.hid (held1 w s 60)
  obtain ⟨x, y⟩ := s
  simp only at HA HB HR
  generalize shB ⟨x, y⟩ = r at *
  generalize inB x 1 40 = b1 at *
  generalize inB y 1 40 = b2 at *
  unfold Nd.val at *
  cases b1 <;> cases b2
  all_goals
    go_enter Try.func88, Try.ntmps88
    go_wp2_with fail
    repeat' (first | ((first | (with_reducible refine (HA.out _).mono ?_) | (with_reducible refine (HB.out _).mono ?_) | fail); rintro e wn ⟨rfl, hb⟩; have H0 := Lib.hid (H0.out.step hb); clear hb; (try clear x0 x1); obtain ⟨x0, x1, _⟩ := H0.out.1; go_wp2_with fail) | fail)
    go_ret
    exact ⟨ret_bool (by rw [HR.out]; simp), H0.out.below⟩

end Go.Proofs.Ytfppnaknnijobab
