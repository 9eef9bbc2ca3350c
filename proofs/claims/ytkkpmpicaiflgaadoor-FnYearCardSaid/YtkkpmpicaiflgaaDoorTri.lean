/-
  Structs of three ints in view; what is asked of a firing, a stain, a sun.
-/
import Derived.Test.YtkkpmpicaiflgaaDoorShe
import Derived.Test.YtkkpmpicaiflgaaDoorSeq
import Derived.LoopTactic
import Derived.Outline
import Derived.Laws.StructEq
namespace Go.Proofs.YtkkpmpicaiflgaaDoor
open Go.RowKit
set_option linter.unusedVariables false
set_option linter.unusedSimpArgs false

structure Tr where
  x : Int
  y : Int
  z : Int
deriving DecidableEq
def Tr.val (t : Tr) : Value := .agg #[.int .i64 t.x, .int .i64 t.y, .int .i64 t.z]
def TriIs (t : Tr) (w : World) (e : Ending) (w' : World) : Prop := e = .returned t.val ∧ Below w.heap.size w w'
theorem heldT1 (w : World) (a : Tr) (T : TypeId) : Held w (w.alloc (.cells #[.int .i64 a.x, .int .i64 a.y, .int .i64 a.z] T)) [(w.heap.size, 0, .int .i64 a.x), (w.heap.size, 1, .int .i64 a.y), (w.heap.size, 2, .int .i64 a.z)] :=
  (Held.none_ w).new2 w.heap.size rfl [.int .i64 a.x, .int .i64 a.y, .int .i64 a.z] T
theorem heldT2 (w : World) (a b : Tr) (T U : TypeId) : Held w ((w.alloc (.cells #[.int .i64 a.x, .int .i64 a.y, .int .i64 a.z] T)).alloc (.cells #[.int .i64 b.x, .int .i64 b.y, .int .i64 b.z] U)) [(w.heap.size + 1, 0, .int .i64 b.x), (w.heap.size + 1, 1, .int .i64 b.y), (w.heap.size + 1, 2, .int .i64 b.z), (w.heap.size, 0, .int .i64 a.x), (w.heap.size, 1, .int .i64 a.y), (w.heap.size, 2, .int .i64 a.z)] :=
  (heldT1 w a T).new2 (w.heap.size + 1) (by simp) [.int .i64 b.x, .int .i64 b.y, .int .i64 b.z] U

/-- Each of the three is in its range. -/
def triB (a1 a2 b1 b2 c1 c2 : Int) (t : Tr) : Bool := inB t.x a1 a2 && inB t.y b1 b2 && inB t.z c1 c2
theorem triB_iff (a1 a2 b1 b2 c1 c2 : Int) (t : Tr) : triB a1 a2 b1 b2 c1 c2 t = true ↔ (a1 ≤ t.x ∧ t.x ≤ a2) ∧ (b1 ≤ t.y ∧ t.y ≤ b2) ∧ (c1 ≤ t.z ∧ t.z ≤ c2) := by simp [triB, inB, and_assoc]
def fireB (t : Tr) : Bool := triB 400 900 1 24 1 100 t
def stainB (t : Tr) : Bool := triB 0 1000 0 1000 0 1000 t
def sunB (t : Tr) : Bool := triB (-1000) 1000 1 1000 1 100 t

theorem Ints.lit (w : World) (b B : Nat) (hb : b = w.heap.size) (hB : B ≤ b) (xs : List Int) (h : xs.length ≤ 1000000) (cs : Array Value) (hc : cs = (xs.map fun x => Value.int .i64 x).toArray) :
    Ints (w.alloc (.cells cs 3)) B (.slice (some ⟨b, 0, none⟩) xs.length xs.length) xs := by
  subst hb hc
  have := World.ownsRow_lit (base := B) (e := 3) (size := 1) w (xs.map fun x => Value.int .i64 x).toArray xs.length hB (by unfold maxLen; omega) (by simp)
  unfold Ints
  simpa using this

end Go.Proofs.YtkkpmpicaiflgaaDoor
