/-
  slices.Contains at a slice of ints.
-/
import Derived.Test.YtepacoacalhdcaaGreatWalkS
import Derived.Test.YtepacoacalhdcaaGreatShelf
import Derived.Test.YtepacoacalhdcaaGreatG22
namespace Go.Proofs.YtepacoacalhdcaaGreat
open Go.RowKit
set_option linter.unusedVariables false
set_option linter.unusedSimpArgs false

theorem containsQ {w : World} {v : Value} {xs : List Int} (x : Int) (h : Seq w v xs) (hlen : xs.length ≤ 1048576) :
    Calls Tryz.prog 105 #[v, .int .i64 x] w (BoolIs (xs.contains x) w) := by
  obtain ⟨A, c, rfl⟩ := seq_form2 h
  by_cases h0 : xs.length = 0
  · obtain rfl : xs = [] := List.eq_nil_of_length_eq_zero h0
    exact containsNil x w A c
  · obtain ⟨b, o, rfl, hbl, hcs⟩ := seq_at h 0 (by omega)
    have := Any.slices_Contains_int Tryz.lays107 b o xs.length c xs x w (Nat.le_refl _) (by omega) (fun j hj => by rw [hcs j hj]; rfl)
    rw [List.take_length] at this
    exact this.mono fun e w' h => ⟨h.1, by rw [h.2]; exact Below.refl _ _⟩
end Go.Proofs.YtepacoacalhdcaaGreat
