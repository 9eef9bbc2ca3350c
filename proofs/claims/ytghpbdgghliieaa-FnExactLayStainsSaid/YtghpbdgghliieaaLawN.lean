/-
  The laws' helpers on nodes and leads: toNode, toLead, their slices, sizes, equality.
-/
import Derived.Test.YtghpbdgghliieaaOwn
import Derived.Test.YtghpbdgghliieaaNodeB
import Derived.Test.YtghpbdgghliieaaDet
import Derived.LoopTactic
import Derived.Outline
namespace Go.Proofs.Ytghpbdgghliieaa
open Go.RowKit
set_option linter.unusedVariables false
set_option linter.unusedSimpArgs false

def NodeIs (n : Nd) (w : World) (e : Ending) (w' : World) : Prop := e = .returned n.val ∧ Below w.heap.size w w'

theorem toNode_any (n : Nd) (w : World) :
    Calls Try.prog 22 #[n.val] w (NodeIs n w) := by
  obtain ⟨x, y⟩ := n
  unfold Nd.val
  go_enter Try.func22, Try.ntmps22
  go_wp2_with fail
  refine bodyPost_ret (v := .agg #[.int .i64 x, .int .i64 y]) (by simp [results, Try.results22, go_sem]) rfl ⟨rfl, below3 w _ _ _⟩

theorem infoNode : (Try.prog.info? 44).map (fun i => (i.zero, i.size, i.bytes)) = some (some (.agg #[.int .i64 0, .int .i64 0]), 2, 16) := by kernel_rfl

theorem made_half (n : Nat) (xs : List Nd) : Half (madeCells (Value.agg #[.int .i64 0, .int .i64 0]).cells (n * 2)) n xs 0 := by
  refine ⟨size_madeCells _ _, fun j hj => ⟨0, 0, ?_, ?_⟩, fun j hj => by omega⟩
  · simp [madeCells, Value.cells, Array.getElem?_map, Array.getElem?_range, show j * 2 < n * 2 by omega]
  · have : (j * 2 + 1) % 2 = 1 := by omega
    simp [madeCells, Value.cells, Array.getElem?_map, Array.getElem?_range, show j * 2 + 1 < n * 2 by omega, this]

def MineIs (T : TypeId) (xs : List Nd) (w : World) (e : Ending) (w' : World) : Prop := ∃ v, e = .returned v ∧ Mine w' w.heap.size T v xs ∧ Below w.heap.size w w'

end Go.Proofs.Ytghpbdgghliieaa
