/-
  NARROWER THAN 'FOR EVERY INPUT', by the rows' own cells (each row's printed sentence says how): FnExactDayLength: laid · FnExactClearMinutes: laid · FnExactYearMinutes: laid · FnExactBestMonth: laid · FnExactMonthsAbove: laid.
  DERIVED. THE GIVEN ROWS OF THIS SEAT. 5 by the template 'for every input the law returns true; each argument reads behind the call as it read before'; 0 by the template 'total and deterministic' (their statements: YtghpbdgghliieaaDoorTotals.lean).
  GIVEN WITH THE SEED: the statements are not yours to turn. If you find one false, say at which input.
  Laid BY PROGRAM, IN A SANDBOX (cutbox-rows.mjs): the forced cells as the released guide's own fill.sh prints them over the translation 3a474433b47dd3cd… (all of the seat's roots in one cut). By AI agents, Wed Nov 11 2026. No macro, syntax, notation, axiom, sorry.
-/
import Derived.Test.YtghpbdgghliieaaDoorChecked
import GoSem.Claim
import GoSem.ClaimJoined
import GoSem.ClaimMapViews
import Derived.JoinedTies
import Derived.KernelRfl
namespace Go.Proofs.YtghpbdgghliieaaDoor
/- THE CELL 'sum', in the pinned program and in every row, IS THE sha256 OF THE DUMP (.gsa) THAT YtghpbdgghliieaaDoorProg.lean LOADS. Nothing in Lean hashes anything: it is a label: what it is worth is what the hold of that sum in a sandbox is worth. -/
noncomputable def Tryd.pinned : Pinned := { name := "ytghpbdgghliieaadoor", sum := "3a474433b47dd3cdd4b9b19d1380e461aacb7339bf55330828a4a9ecef59cd73", checked := Tryd.checked }
namespace Rows
def none {H : Type} : Left H := { results := [], args := [] }

/- WHAT THE LISTED PACKAGE-LEVEL VARIABLES READ AS WHEN THE CALL BEGINS. Each datum BY PROGRAM (the guide's laid-datum.mjs) off the statement by which the dump's own 'gosem.cut.vars' lays the variable. In a bare row this is a premise. The card (YtghpbdgghliieaaDoorCards.lean) ties it to the program's text. -/
def laid_loop_example_g03303_impl_dayLengths {H : Type} : DataW H := .agg [.lit (.int .i64 490), .lit (.int .i64 580), .lit (.int .i64 705), .lit (.int .i64 830), .lit (.int .i64 935), .lit (.int .i64 990), .lit (.int .i64 965), .lit (.int .i64 875), .lit (.int .i64 755), .lit (.int .i64 630), .lit (.int .i64 520), .lit (.int .i64 465)]

/-- 'laws.FnExactDayLength': WHATEVER THE INPUT: true; the input reads as it did. -/
def fnExactDayLengthSpec : ChangeSpec := { name := "fnExactDayLength", vars := ["loop.example/g03303/impl.dayLengths"], fn := fun _ => fun
  | [d, g1] => { results := [.lit (.bool true)], args := [d], vars := [g1] }
  | _ => none }
def fnExactDayLengthRow : OpenClaim := { program := "ytghpbdgghliieaadoor", sum := "3a474433b47dd3cdd4b9b19d1380e461aacb7339bf55330828a4a9ecef59cd73", func := "loop.example/g03303/laws.FnExactDayLength", spec := "fnExactDayLength", named := ["loop.example/g03303/impl.dayLengths"], apart := false, laid := [("loop.example/g03303/impl.dayLengths", laid_loop_example_g03303_impl_dayLengths)] }
def FnExactDayLengthSaid : Prop := fnExactDayLengthRow.holds Tryd.pinned (OpenSpec.ofChange fnExactDayLengthSpec)

/-- ITS FALSE NEIGHBOUR: 'it returns false'. Refute it at one input. -/
def fnExactDayLengthWrong : ChangeSpec := { name := "fnExactDayLength", vars := ["loop.example/g03303/impl.dayLengths"], fn := fun _ => fun
  | [d, g1] => { results := [.lit (.bool false)], args := [d], vars := [g1] }
  | _ => none }
def FnExactDayLengthWrongFalsely : Prop := fnExactDayLengthRow.holds Tryd.pinned (OpenSpec.ofChange fnExactDayLengthWrong)

/-- 'laws.FnExactClearMinutes': WHATEVER THE INPUT: true; the input reads as it did. -/
def fnExactClearMinutesSpec : ChangeSpec := { name := "fnExactClearMinutes", vars := ["loop.example/g03303/impl.dayLengths"], fn := fun _ => fun
  | [d1, d2, g1] => { results := [.lit (.bool true)], args := [d1, d2], vars := [g1] }
  | _ => none }
def fnExactClearMinutesRow : OpenClaim := { program := "ytghpbdgghliieaadoor", sum := "3a474433b47dd3cdd4b9b19d1380e461aacb7339bf55330828a4a9ecef59cd73", func := "loop.example/g03303/laws.FnExactClearMinutes", spec := "fnExactClearMinutes", named := ["loop.example/g03303/impl.dayLengths"], apart := false, laid := [("loop.example/g03303/impl.dayLengths", laid_loop_example_g03303_impl_dayLengths)] }
def FnExactClearMinutesSaid : Prop := fnExactClearMinutesRow.holds Tryd.pinned (OpenSpec.ofChange fnExactClearMinutesSpec)

/-- ITS FALSE NEIGHBOUR: 'it returns false'. Refute it at one input. -/
def fnExactClearMinutesWrong : ChangeSpec := { name := "fnExactClearMinutes", vars := ["loop.example/g03303/impl.dayLengths"], fn := fun _ => fun
  | [d1, d2, g1] => { results := [.lit (.bool false)], args := [d1, d2], vars := [g1] }
  | _ => none }
def FnExactClearMinutesWrongFalsely : Prop := fnExactClearMinutesRow.holds Tryd.pinned (OpenSpec.ofChange fnExactClearMinutesWrong)

/-- 'laws.FnExactYearMinutes': WHATEVER THE INPUT: true; the input reads as it did. -/
def fnExactYearMinutesSpec : ChangeSpec := { name := "fnExactYearMinutes", vars := ["loop.example/g03303/impl.dayLengths"], fn := fun _ => fun
  | [d, g1] => { results := [.lit (.bool true)], args := [d], vars := [g1] }
  | _ => none }
def fnExactYearMinutesRow : OpenClaim := { program := "ytghpbdgghliieaadoor", sum := "3a474433b47dd3cdd4b9b19d1380e461aacb7339bf55330828a4a9ecef59cd73", func := "loop.example/g03303/laws.FnExactYearMinutes", spec := "fnExactYearMinutes", named := ["loop.example/g03303/impl.dayLengths"], apart := false, laid := [("loop.example/g03303/impl.dayLengths", laid_loop_example_g03303_impl_dayLengths)] }
def FnExactYearMinutesSaid : Prop := fnExactYearMinutesRow.holds Tryd.pinned (OpenSpec.ofChange fnExactYearMinutesSpec)

/-- ITS FALSE NEIGHBOUR: 'it returns false'. Refute it at one input. -/
def fnExactYearMinutesWrong : ChangeSpec := { name := "fnExactYearMinutes", vars := ["loop.example/g03303/impl.dayLengths"], fn := fun _ => fun
  | [d, g1] => { results := [.lit (.bool false)], args := [d], vars := [g1] }
  | _ => none }
def FnExactYearMinutesWrongFalsely : Prop := fnExactYearMinutesRow.holds Tryd.pinned (OpenSpec.ofChange fnExactYearMinutesWrong)

/-- 'laws.FnExactBestMonth': WHATEVER THE INPUT: true; the input reads as it did. -/
def fnExactBestMonthSpec : ChangeSpec := { name := "fnExactBestMonth", vars := ["loop.example/g03303/impl.dayLengths"], fn := fun _ => fun
  | [d, g1] => { results := [.lit (.bool true)], args := [d], vars := [g1] }
  | _ => none }
def fnExactBestMonthRow : OpenClaim := { program := "ytghpbdgghliieaadoor", sum := "3a474433b47dd3cdd4b9b19d1380e461aacb7339bf55330828a4a9ecef59cd73", func := "loop.example/g03303/laws.FnExactBestMonth", spec := "fnExactBestMonth", named := ["loop.example/g03303/impl.dayLengths"], apart := false, laid := [("loop.example/g03303/impl.dayLengths", laid_loop_example_g03303_impl_dayLengths)] }
def FnExactBestMonthSaid : Prop := fnExactBestMonthRow.holds Tryd.pinned (OpenSpec.ofChange fnExactBestMonthSpec)

/-- ITS FALSE NEIGHBOUR: 'it returns false'. Refute it at one input. -/
def fnExactBestMonthWrong : ChangeSpec := { name := "fnExactBestMonth", vars := ["loop.example/g03303/impl.dayLengths"], fn := fun _ => fun
  | [d, g1] => { results := [.lit (.bool false)], args := [d], vars := [g1] }
  | _ => none }
def FnExactBestMonthWrongFalsely : Prop := fnExactBestMonthRow.holds Tryd.pinned (OpenSpec.ofChange fnExactBestMonthWrong)

/-- 'laws.FnExactMonthsAbove': WHATEVER THE INPUT: true; the input reads as it did. -/
def fnExactMonthsAboveSpec : ChangeSpec := { name := "fnExactMonthsAbove", vars := ["loop.example/g03303/impl.dayLengths"], fn := fun _ => fun
  | [d1, d2, g1] => { results := [.lit (.bool true)], args := [d1, d2], vars := [g1] }
  | _ => none }
def fnExactMonthsAboveRow : OpenClaim := { program := "ytghpbdgghliieaadoor", sum := "3a474433b47dd3cdd4b9b19d1380e461aacb7339bf55330828a4a9ecef59cd73", func := "loop.example/g03303/laws.FnExactMonthsAbove", spec := "fnExactMonthsAbove", named := ["loop.example/g03303/impl.dayLengths"], apart := false, laid := [("loop.example/g03303/impl.dayLengths", laid_loop_example_g03303_impl_dayLengths)] }
def FnExactMonthsAboveSaid : Prop := fnExactMonthsAboveRow.holds Tryd.pinned (OpenSpec.ofChange fnExactMonthsAboveSpec)

/-- ITS FALSE NEIGHBOUR: 'it returns false'. Refute it at one input. -/
def fnExactMonthsAboveWrong : ChangeSpec := { name := "fnExactMonthsAbove", vars := ["loop.example/g03303/impl.dayLengths"], fn := fun _ => fun
  | [d1, d2, g1] => { results := [.lit (.bool false)], args := [d1, d2], vars := [g1] }
  | _ => none }
def FnExactMonthsAboveWrongFalsely : Prop := fnExactMonthsAboveRow.holds Tryd.pinned (OpenSpec.ofChange fnExactMonthsAboveWrong)

/- THE SECOND FORM. 'bulk': how many values and letters a reading holds, each counted each time it is reached (what is shared counts as often as it is met; a slice's spare places count too). A statement '..UptoSaid' is the law's where the arguments, and the package variables that the reading takes, are together of bulk at most 1048576: NARROWER than '..Said'. Prove '..Said' where nothing that the law and all that it calls make is longer than what came in: it says more and counts as full. Else prove '..UptoSaid'. A law counts once. -/
mutual
def uptoBulk {H : Type} : DataW H → Nat
  | .lit (.string bytes) => bytes.length + 1
  | .lit _ => 1
  | .nil => 1
  | .ptr d => uptoBulk d + 1
  | .slice elems spare => uptoBulkAll elems + uptoBulkAll spare + 1
  | .agg parts => uptoBulkAll parts + 1
  | .iface _ d => uptoBulk d + 1
  | .map entries => uptoBulkEntries entries + 1
  | .held _ => 1
def uptoBulkAll {H : Type} : List (DataW H) → Nat
  | [] => 0
  | d :: r => uptoBulk d + uptoBulkAll r
def uptoBulkEntries {H : Type} : List (Lit × DataW H) → Nat
  | [] => 0
  | x :: r => uptoBulkEntry x + uptoBulkEntries r
def uptoBulkEntry {H : Type} : Lit × DataW H → Nat
  | (.string bytes, d) => bytes.length + uptoBulk d + 1
  | (_, d) => uptoBulk d + 1
 end
def uptoSmall : (H : Type) → List (DataW H) → Bool := fun _ ds => decide (uptoBulkAll ds ≤ 1048576)
def OpenSpec.upto (s : _root_.Go.ChangeSpec) : _root_.Go.OpenSpec := { _root_.Go.OpenSpec.ofChange s with cond := some uptoSmall }

/-- 'laws.FnExactDayLength', WHERE WHAT IT READS IS OF BULK AT MOST 1048576: true; the input reads as it did. -/
def fnExactDayLengthUptoRow : OpenClaim := { program := "ytghpbdgghliieaadoor", sum := "3a474433b47dd3cdd4b9b19d1380e461aacb7339bf55330828a4a9ecef59cd73", func := "loop.example/g03303/laws.FnExactDayLength", spec := "fnExactDayLength", named := ["loop.example/g03303/impl.dayLengths"], apart := false, laid := [("loop.example/g03303/impl.dayLengths", laid_loop_example_g03303_impl_dayLengths)], narrowed := true }
def FnExactDayLengthUptoSaid : Prop := fnExactDayLengthUptoRow.holds Tryd.pinned (OpenSpec.upto fnExactDayLengthSpec)

/-- 'laws.FnExactClearMinutes', WHERE WHAT IT READS IS OF BULK AT MOST 1048576: true; the input reads as it did. -/
def fnExactClearMinutesUptoRow : OpenClaim := { program := "ytghpbdgghliieaadoor", sum := "3a474433b47dd3cdd4b9b19d1380e461aacb7339bf55330828a4a9ecef59cd73", func := "loop.example/g03303/laws.FnExactClearMinutes", spec := "fnExactClearMinutes", named := ["loop.example/g03303/impl.dayLengths"], apart := false, laid := [("loop.example/g03303/impl.dayLengths", laid_loop_example_g03303_impl_dayLengths)], narrowed := true }
def FnExactClearMinutesUptoSaid : Prop := fnExactClearMinutesUptoRow.holds Tryd.pinned (OpenSpec.upto fnExactClearMinutesSpec)

/-- 'laws.FnExactYearMinutes', WHERE WHAT IT READS IS OF BULK AT MOST 1048576: true; the input reads as it did. -/
def fnExactYearMinutesUptoRow : OpenClaim := { program := "ytghpbdgghliieaadoor", sum := "3a474433b47dd3cdd4b9b19d1380e461aacb7339bf55330828a4a9ecef59cd73", func := "loop.example/g03303/laws.FnExactYearMinutes", spec := "fnExactYearMinutes", named := ["loop.example/g03303/impl.dayLengths"], apart := false, laid := [("loop.example/g03303/impl.dayLengths", laid_loop_example_g03303_impl_dayLengths)], narrowed := true }
def FnExactYearMinutesUptoSaid : Prop := fnExactYearMinutesUptoRow.holds Tryd.pinned (OpenSpec.upto fnExactYearMinutesSpec)

/-- 'laws.FnExactBestMonth', WHERE WHAT IT READS IS OF BULK AT MOST 1048576: true; the input reads as it did. -/
def fnExactBestMonthUptoRow : OpenClaim := { program := "ytghpbdgghliieaadoor", sum := "3a474433b47dd3cdd4b9b19d1380e461aacb7339bf55330828a4a9ecef59cd73", func := "loop.example/g03303/laws.FnExactBestMonth", spec := "fnExactBestMonth", named := ["loop.example/g03303/impl.dayLengths"], apart := false, laid := [("loop.example/g03303/impl.dayLengths", laid_loop_example_g03303_impl_dayLengths)], narrowed := true }
def FnExactBestMonthUptoSaid : Prop := fnExactBestMonthUptoRow.holds Tryd.pinned (OpenSpec.upto fnExactBestMonthSpec)

/-- 'laws.FnExactMonthsAbove', WHERE WHAT IT READS IS OF BULK AT MOST 1048576: true; the input reads as it did. -/
def fnExactMonthsAboveUptoRow : OpenClaim := { program := "ytghpbdgghliieaadoor", sum := "3a474433b47dd3cdd4b9b19d1380e461aacb7339bf55330828a4a9ecef59cd73", func := "loop.example/g03303/laws.FnExactMonthsAbove", spec := "fnExactMonthsAbove", named := ["loop.example/g03303/impl.dayLengths"], apart := false, laid := [("loop.example/g03303/impl.dayLengths", laid_loop_example_g03303_impl_dayLengths)], narrowed := true }
def FnExactMonthsAboveUptoSaid : Prop := fnExactMonthsAboveUptoRow.holds Tryd.pinned (OpenSpec.upto fnExactMonthsAboveSpec)

end Rows
end Go.Proofs.YtghpbdgghliieaaDoor
