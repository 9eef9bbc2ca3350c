/-
  Whether two darts lie on one walk, of the model and of the program.
-/
import Derived.Test.YtmcbbjobjogkmabGreatWalkJ
import Derived.Test.YtmcbbjobjogkmabGreatG3
namespace Go.Proofs.YtmcbbjobjogkmabGreat
open Go.RowKit
set_option linter.unusedVariables false
set_option linter.unusedSimpArgs false

theorem indexNil (x : Int) (w : World) (A : Option Addr) (c : Nat) : Calls Tryz.prog 81 #[.slice A 0 c, .int .i64 x] w (IntIs (-1) w) := by
  go_enter Tryz.func81, Tryz.ntmps81
  go_wp2_with fail
  refine wp_loop_rounds 1 ?_
  rw [rounds_succ]
  go_wp2_with fail
  go_ret
  exact ⟨rfl, Below.refl _ _⟩

theorem containsNil (x : Int) (w : World) (A : Option Addr) (c : Nat) : Calls Tryz.prog 66 #[.slice A 0 c, .int .i64 x] w (BoolIs false w) := by
  have HX := Lib.hid (fun w => indexNil x w A c)
  have H0 := Lib.hid (Held.none_ w)
  go_enter Tryz.func66, Tryz.ntmps66
  go_wp2_with fail
  refine (HX.out _).mono ?_
  rintro e wH1 ⟨rfl, hb⟩
  have H1 := Lib.hid ((H0.out).step hb); clear hb
  go_wp2_with fail
  go_ret
  exact ⟨rfl, H1.out.below⟩

theorem containsI2 {w : World} {B : Nat} {v : Value} {xs : List Int} (x : Int) (h : Ints w B v xs) (hlen : xs.length ≤ 1048576) :
    Calls Tryz.prog 66 #[v, .int .i64 x] w (BoolIs (xs.contains x) w) := by
  have hs := h.seq.form
  obtain ⟨A, c, rfl, _, hx⟩ := h.form
  cases xs with
  | nil => exact (containsNil x w A c).mono fun e w' h => ⟨by rw [h.1]; rfl, h.2⟩
  | cons a t =>
    obtain ⟨g, rfl, _, _, _, _⟩ := hx 0 (by simp)
    exact (containsI x h hlen).mono fun e w' h => ⟨h.1, h.2 ▸ Below.refl _ _⟩

end Go.Proofs.YtmcbbjobjogkmabGreat
