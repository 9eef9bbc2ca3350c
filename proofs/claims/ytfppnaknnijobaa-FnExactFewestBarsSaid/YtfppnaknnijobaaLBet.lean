/-
  LeadBetween, of the model and of the program.
-/
import Derived.Test.YtfppnaknnijobaaWinS
import Derived.Test.YtfppnaknnijobaaWinJ
namespace Go.Proofs.Ytfppnaknnijobaa
open Go.RowKit
set_option linter.unusedVariables false
set_option linter.unusedSimpArgs false

/-- The first of n places from k on at which xs has p; -1 if there is none. -/
def fstGo (xs : List Nd) (p : Nd) : Nat → Nat → Int
  | _, 0 => -1
  | k, n + 1 => if atN xs k = p then (k : Int) else fstGo xs p (k + 1) n
def fstI (xs : List Nd) (p : Nd) : Int := fstGo xs p 0 xs.length
theorem fstGo_step {xs : List Nd} {p : Nd} {k : Nat} (h : k < xs.length) : fstGo xs p k (xs.length - k) = if atN xs k = p then (k : Int) else fstGo xs p (k + 1) (xs.length - (k + 1)) := by
  rw [show xs.length - k = (xs.length - (k + 1)) + 1 by omega]; rfl
theorem fstGo_end (xs : List Nd) (p : Nd) : fstGo xs p xs.length (xs.length - xs.length) = -1 := by rw [Nat.sub_self]; rfl
def betI (ns ls : List Nd) (a b : Int) : Int := if winB ns ls = true then fstI ls ⟨min a b, max a b⟩ else -1

theorem leadOf_any (a b : Int) (w : World) :
    Calls Try.prog 80 #[.int .i64 a, .int .i64 b] w (fun e w' => e = .returned (.agg #[.int .i64 (min a b), .int .i64 (max a b)]) ∧ Below w.heap.size w w') := by
  have e1 := min_if a b
  have e2 := max_if a b
  generalize min a b = m1 at *
  generalize max a b = m2 at *
  go_enter Try.func80, Try.ntmps80
  go_wp2_with fail
  refine bodyPost_ret (v := .agg #[.int .i64 m1, .int .i64 m2]) (by simp [results, Try.results80, go_sem]) rfl ⟨rfl, (Below.refl _ _).alloc (Nat.le_refl _) _⟩

theorem eqLd (a b : Nd) (w : World) : (Op.equalIn 10000 66 (.agg #[.int .i64 a.x, .int .i64 a.y]) (.agg #[.int .i64 b.x, .int .i64 b.y])).run Try.prog w = .ok (decide (a = b)) w := by
  obtain ⟨ax, ay⟩ := a
  obtain ⟨bx, by'⟩ := b
  simp only [Nd.mk.injEq]
  by_cases h1 : ax = bx
  · subst h1
    by_cases h2 : ay = by'
    · subst h2; go_simp
    · have h3 : (ay == by') = false := by rw [beq_eq_false_iff_ne]; exact h2
      go_simp
  · have h3 : (ax == bx) = false := by rw [beq_eq_false_iff_ne]; exact h1
    go_simp

end Go.Proofs.Ytfppnaknnijobaa
