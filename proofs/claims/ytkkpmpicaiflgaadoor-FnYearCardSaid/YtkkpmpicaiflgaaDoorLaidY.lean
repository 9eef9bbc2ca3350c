/-
  What the rows' lists of variables give to a walk: the lengths of the days.
-/
import Derived.Test.YtkkpmpicaiflgaaDoorCards
import Derived.Test.YtkkpmpicaiflgaaDoorTie
import Derived.Test.YtkkpmpicaiflgaaDoorYear
import Derived.WalkKit
import Derived.ProofKit
import Derived.OpenShut
import Derived.ShutString
import Derived.ChangeOld
import Derived.Deep.DeepHandedRow
import Derived.Deep.DeepWitnessRowRef
import Derived.LaidSub
import Derived.Lib.LaidTab
import Derived.Stop.LaidErr
import Derived.ChangeVars
namespace Go.Proofs.YtkkpmpicaiflgaaDoor
open Go.ChangeShapes Go.WideShapes Go.ChangeAt Go.RowKit
set_option linter.unusedVariables false
set_option linter.unusedSimpArgs false

def Tab (w : World) : Prop := Lib.TabIs Tryd.prog w "loop.example/g03303/impl.dayLengths" .i64 days
theorem gDay : Tryd.prog.globalNamed "loop.example/g03303/impl.dayLengths" = some 0 := by kernel_rfl
theorem gDayType : (Tryd.prog.globals[0]?).map (·.type) = some 32 := by kernel_rfl
theorem cellsDay : Tryd.prog.cellsOf 32 = 12 := by kernel_rfl
theorem cellsInt : Tryd.prog.cellsOf 3 = 1 := by kernel_rfl
theorem dayData : (Rows.laid_loop_example_g03303_impl_dayLengths : DataW Unit) = Lib.tabData .i64 days := by rfl
def keepDay (x : String × DataW Unit) : Bool := x.1 == "loop.example/g03303/impl.dayLengths"
theorem tab_of {l : List (String × DataW Unit)} {W : World} (h : laidMetH Tryd.prog l W) (hl : l.filter keepDay = [("loop.example/g03303/impl.dayLengths", Rows.laid_loop_example_g03303_impl_dayLengths)]) : Tab W := by
  have h1 := h.filter keepDay
  rw [hl, dayData] at h1
  exact Lib.tabIs_of_head (rest := []) gDay gDayType Tryd.underlying32 Tryd.underlying3 cellsInt cellsDay h1
theorem tab_below {W W' : World} (h : Tab W) (hb : Below W.heap.size W W') (hg : 0 < W.heap.size) : Tab W' := var?_below hb gDay hg h
theorem tab_lt {W : World} (h : Tab W) : 0 < W.heap.size :=
  World.block_lt_of_cell? W _ (Lib.TabIs.cell h gDay 0 (by decide))

def own_cells : Array Value := (days.map fun z => Value.int .i64 z).toArray
def own_places : List MemPlace := MemPlace.row ⟨0, 0, none⟩ own_cells.size ++ []
theorem own_reads {H : Type} (enc : TypeId × Value → H) (w : World) (sp : Nat → Bool) : DataW.trod enc Tryd.prog w 0 sp true 3 32 own_cells.toList = some (Rows.laid_loop_example_g03303_impl_dayLengths, []) := by kernel_rfl
theorem own_vars {H : Type} (enc : TypeId × Value → H) {w : World} (h : Tab w) (sp : Nat → Bool) : DataW.TrodVars enc Tryd.prog w sp ["loop.example/g03303/impl.dayLengths"] [Rows.laid_loop_example_g03303_impl_dayLengths] own_places :=
  trodVars_mk1 gDay gDayType h (own_reads enc w sp)

/-- A block's cells put in place of what it held. -/
def setB (h : Array Obj) (g : Nat) (cs : Array Value) : Array Obj := h.modify g fun
  | .cells _ t frozen => .cells cs t frozen
  | o => o

end Go.Proofs.YtkkpmpicaiflgaaDoor
