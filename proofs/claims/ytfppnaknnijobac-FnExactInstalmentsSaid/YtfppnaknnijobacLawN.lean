/-
  The laws' helpers on nodes and leads: toNode, toLead, their slices, sizes, equality.
-/
import Derived.Test.YtfppnaknnijobacOwn
import Derived.Test.YtfppnaknnijobacNodeB
import Derived.Test.YtfppnaknnijobacDet
import Derived.LoopTactic
import Derived.Outline
namespace Go.Proofs.Ytfppnaknnijobac
open Go.RowKit
set_option linter.unusedVariables false
set_option linter.unusedSimpArgs false

def NodeIs (n : Nd) (w : World) (e : Ending) (w' : World) : Prop := e = .returned n.val ∧ Below w.heap.size w w'

theorem made_half (n : Nat) (xs : List Nd) : Half (madeCells (Value.agg #[.int .i64 0, .int .i64 0]).cells (n * 2)) n xs 0 := by
  refine ⟨size_madeCells _ _, fun j hj => ⟨0, 0, ?_, ?_⟩, fun j hj => by omega⟩
  · simp [madeCells, Value.cells, Array.getElem?_map, Array.getElem?_range, show j * 2 < n * 2 by omega]
  · have : (j * 2 + 1) % 2 = 1 := by omega
    simp [madeCells, Value.cells, Array.getElem?_map, Array.getElem?_range, show j * 2 + 1 < n * 2 by omega, this]

def MineIs (T : TypeId) (xs : List Nd) (w : World) (e : Ending) (w' : World) : Prop := ∃ v, e = .returned v ∧ Mine w' w.heap.size T v xs ∧ Below w.heap.size w w'

end Go.Proofs.Ytfppnaknnijobac
