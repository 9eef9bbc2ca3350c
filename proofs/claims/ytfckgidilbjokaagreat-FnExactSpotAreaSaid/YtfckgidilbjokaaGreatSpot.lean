/-
  The spot of light of a node, of the model and of the program.
-/
import Derived.Test.YtfckgidilbjokaaGreatSun
import Derived.Test.YtfckgidilbjokaaGreatG1
import Derived.Test.YtfckgidilbjokaaGreatImplNode
namespace Go.Proofs.YtfckgidilbjokaaGreat
open Go.RowKit
set_option linter.unusedVariables false
set_option linter.unusedSimpArgs false

/-- The answer: place, depth, parts, and whether there is one. -/
structure Sp where
  p : Int
  d : Int
  f : Int
  ok : Bool
def Sp.val (s : Sp) : Value := .tuple #[.int .i64 s.p, .int .i64 s.d, .int .i64 s.f, .bool s.ok]
def spotS (n : Nd) (k : Int) (s : Tr) : Sp := if okB n && (sunB s && inB k 0 1000) then ⟨n.x * s.y + (k + n.y) * s.x, (k + n.y) * s.z, s.y, true⟩ else ⟨0, 0, 0, false⟩
def SpIs (v : Sp) (w : World) (e : Ending) (w' : World) : Prop := e = .returned v.val ∧ Below w.heap.size w w'

theorem implSill (k : Int) (w : World) : Calls Tryz.prog 84 #[.int .i64 k] w (BoolIs (inB k 0 1000) w) := by
  have hr : inB k 0 1000 = decide (0 ≤ k ∧ k ≤ 1000) := by rw [Bool.eq_iff_iff, inB_iff]; simp
  generalize inB k 0 1000 = r at *
  have HR := Lib.hid hr; clear hr
  go_enter Tryz.func84, Tryz.ntmps84
  go_wp2
  all_goals
    go_ret
    exact ⟨ret_bool (by rw [HR.out, Bool.eq_iff_iff]; simp; omega), Below.refl _ _⟩

def roomB (n : Nd) (k : Int) (s : Tr) (d : Int) : Bool := (spotS n k s).ok && (inB d 0 1000 && decide ((spotS n k s).d ≤ d * (spotS n k s).f))
theorem spotS_bd (n : Nd) (k : Int) (s : Tr) : 0 ≤ (spotS n k s).f ∧ (spotS n k s).f ≤ 1000 := by
  unfold spotS
  by_cases h : (okB n && (sunB s && inB k 0 1000)) = true
  · rw [if_pos h]
    simp only [Bool.and_eq_true] at h
    have := (triB_iff (-1000) 1000 1 1000 1 100 s).1 h.2.1
    simp only
    omega
  · rw [if_neg h]; simp

end Go.Proofs.YtfckgidilbjokaaGreat
