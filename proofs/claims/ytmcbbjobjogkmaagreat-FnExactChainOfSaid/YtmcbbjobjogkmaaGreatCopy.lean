/-
  Copies of windows, of the model and of the program.
-/
import Derived.Test.YtmcbbjobjogkmaaGreatMarkO
import Derived.Test.YtmcbbjobjogkmaaGreatWinI
import Derived.WalkSpells
namespace Go.Proofs.YtmcbbjobjogkmaaGreat
open Go.RowKit
set_option linter.unusedVariables false
set_option linter.unusedSimpArgs false

def CopyIs (ns ls : List Nd) (w : World) (e : Ending) (w' : World) : Prop := ∃ v1 v2, e = .returned (.agg #[v1, v2]) ∧ WinO w' w.heap.size v1 v2 ns ls ∧ Below w.heap.size w w'

theorem win_node : (75 : TypeId) ≠ 32 := by decide

theorem win_lead : (58 : TypeId) ≠ 32 := by decide

theorem hz2 (w : World) (o o2 : Obj) : ((w.alloc o).alloc o2).heap[w.heap.size + 1]? = some o2 := by
  have := heap_alloc_new (w.alloc o) o2
  simpa using this

theorem NewE.setRow {W : World} {B b n : Nat} {T U : TypeId} {v : Value} (h : NewE B T v W) (hb : BlkN b U n W) (hne : T ≠ U) (cs : Array Value) : NewE B T v (W.setRow b cs) := by
  obtain ⟨g, hv, hB, hg⟩ := h
  refine ⟨g, hv, hB, (setRow_other W b g cs fun e => ?_).trans hg⟩
  obtain ⟨cs', hc, _⟩ := hb
  rw [e] at hg
  rw [hg] at hc
  injection hc with hc
  injection hc with _ hc _
  exact hne hc

end Go.Proofs.YtmcbbjobjogkmaaGreat
