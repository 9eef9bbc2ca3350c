/-
  LeadBetween, of the model and of the program.
-/
import Derived.Test.YtfppnaknnijobabWinS
import Derived.Test.YtfppnaknnijobabWinJ
namespace Go.Proofs.Ytfppnaknnijobab
open Go.RowKit
set_option linter.unusedVariables false
set_option linter.unusedSimpArgs false

/-- The first of n places from k on at which xs has p; -1 if there is none. -/
def fstGo (xs : List Nd) (p : Nd) : Nat → Nat → Int
  | _, 0 => -1
  | k, n + 1 => if atN xs k = p then (k : Int) else fstGo xs p (k + 1) n
def fstI (xs : List Nd) (p : Nd) : Int := fstGo xs p 0 xs.length
theorem fstGo_step {xs : List Nd} {p : Nd} {k : Nat} (h : k < xs.length) : fstGo xs p k (xs.length - k) = if atN xs k = p then (k : Int) else fstGo xs p (k + 1) (xs.length - (k + 1)) := by
  rw [show xs.length - k = (xs.length - (k + 1)) + 1 by omega]; rfl
theorem fstGo_end (xs : List Nd) (p : Nd) : fstGo xs p xs.length (xs.length - xs.length) = -1 := by rw [Nat.sub_self]; rfl
def betI (ns ls : List Nd) (a b : Int) : Int := if winB ns ls = true then fstI ls ⟨min a b, max a b⟩ else -1

end Go.Proofs.Ytfppnaknnijobab
