/-
  Facts on the whole program that each row asks for.
-/
import Derived.Test.YtepacoacalhdcaaGreatRows
import Derived.JoinedOf
namespace Go.Proofs.YtepacoacalhdcaaGreat

theorem and_yes {a b : Bool} (h1 : a = true) (h2 : b = true) : (a && b) = true := by rw [h1, h2]; rfl

theorem jEnter : Tryz.pinned.checked.prog.mayEnter = true := by kernel_rfl

theorem jHeard : Tryz.pinned.checked.prog.stopsHeard = true := by kernel_rfl

theorem jLaid : laidOutB Tryz.pinned.checked.prog = true := by kernel_rfl

theorem jMaps : mapsRowed Tryz.pinned.checked.prog = true := by kernel_rfl
end Go.Proofs.YtepacoacalhdcaaGreat
