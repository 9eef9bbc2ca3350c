/-
  What the rows' lists of variables give to a walk: the table of powers of ten, and the two errors of strconv.
-/
import Derived.Test.YtghpbdgghliieabDoorCards
import Derived.Test.YtghpbdgghliieabDoorTie
import Derived.Test.YtghpbdgghliieabDoorFmt
import Derived.WalkKit
import Derived.ProofKit
import Derived.OpenShut
import Derived.Deep.DeepHandedRow
import Derived.Deep.DeepWitnessRowRef
import Derived.LaidSub
import Derived.Lib.LaidTab
import Derived.Stop.LaidErr
namespace Go.Proofs.YtghpbdgghliieabDoor
open Go.ChangeShapes Go.WideShapes Go.ChangeAt Go.RowKit
set_option linter.unusedVariables false
set_option linter.unusedSimpArgs false

theorem gPow : Tryd.prog.globalNamed "internal/strconv.uint64pow10" = some 1 := by kernel_rfl
theorem gPowType : (Tryd.prog.globals[1]?).map (·.type) = some 71 := by kernel_rfl
theorem cellsPow : Tryd.prog.cellsOf 71 = 20 := by kernel_rfl
theorem cellsU64 : Tryd.prog.cellsOf 64 = 1 := by kernel_rfl
theorem powData : (Rows.laid_internal_strconv_uint64pow10 : DataW Unit) = Lib.tabData .u64 Lib.pow10Tab := by rfl

def keepPow (x : String × DataW Unit) : Bool := x.1 == "internal/strconv.uint64pow10"
theorem tab_of {l : List (String × DataW Unit)} {W : World} (h : laidMetH Tryd.prog l W) (hl : l.filter keepPow = [("internal/strconv.uint64pow10", Rows.laid_internal_strconv_uint64pow10)]) : Tab W := by
  have h1 := h.filter keepPow
  rw [hl, powData] at h1
  exact Lib.tabIs_of_head (rest := []) gPow gPowType Tryd.underlying71 Tryd.underlying64 cellsU64 cellsPow h1

theorem tab_below {W W' : World} (h : Tab W) (hb : Below W.heap.size W W') (hg : 1 < W.heap.size) : Tab W' := var?_below hb gPow hg h
theorem tab_lt {W : World} (h : Tab W) : 1 < W.heap.size :=
  World.block_lt_of_cell? W _ (Lib.TabIs.cell h gPow 0 (by decide))

/-- A block's cells put in place of what it held. -/
def setB (h : Array Obj) (g : Nat) (cs : Array Value) : Array Obj := h.modify g fun
  | .cells _ t frozen => .cells cs t frozen
  | o => o
end Go.Proofs.YtghpbdgghliieabDoor
