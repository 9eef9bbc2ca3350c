/-
  No cell of these rows narrows 'for every input' (looked for: loops, veiled, ifaces, maps, wideKeys, modest, calm, conditions, laid).
  DERIVED. THE GIVEN ROWS OF THIS SEAT. 12 by the template 'for every input the law returns true; each argument reads behind the call as it read before'; 0 by the template 'total and deterministic' (their statements: YtfppnaknnijobabTotals.lean).
  GIVEN WITH THE SEED: the statements are not yours to turn. If you find one false, say at which input.
  Laid BY PROGRAM, IN A SANDBOX (cutbox-rows.mjs): the forced cells as the released guide's own fill.sh prints them over the translation 745ef90e4184bc40… (all of the seat's roots in one cut). By AI agents, Wed Nov 11 2026. No macro, syntax, notation, axiom, sorry.
-/
import Derived.Test.YtfppnaknnijobabChecked
import GoSem.Claim
import GoSem.ClaimJoined
import GoSem.ClaimMapViews
import Derived.JoinedTies
import Derived.KernelRfl
namespace Go.Proofs.Ytfppnaknnijobab
/- THE CELL 'sum', in the pinned program and in every row, IS THE sha256 OF THE DUMP (.gsa) THAT YtfppnaknnijobabProg.lean LOADS. Nothing in Lean hashes anything: it is a label: what it is worth is what the hold of that sum in a sandbox is worth. -/
noncomputable def Try.pinned : Pinned := { name := "ytfppnaknnijobab", sum := "745ef90e4184bc4086b599bd4b3973284b82637b3cbec259ea67a5173a087984", checked := Try.checked }
namespace Rows
def none {H : Type} : Left H := { results := [], args := [] }

/-- 'laws.FnExactLayAll': WHATEVER THE INPUT: true; the input reads as it did. -/
def fnExactLayAllSpec : ChangeSpec := { name := "fnExactLayAll", fn := fun _ => fun
  | [d] => { results := [.lit (.bool true)], args := [d] }
  | _ => none }
def fnExactLayAllRow : OpenClaim := { program := "ytfppnaknnijobab", sum := "745ef90e4184bc4086b599bd4b3973284b82637b3cbec259ea67a5173a087984", func := "loop.example/g03303/laws.FnExactLayAll", spec := "fnExactLayAll", unfollowed := true, recurses := true, apart := false }
def FnExactLayAllSaid : Prop := fnExactLayAllRow.holds Try.pinned (OpenSpec.ofChange fnExactLayAllSpec)

/-- ITS FALSE NEIGHBOUR: 'it returns false'. Refute it at one input. -/
def fnExactLayAllWrong : ChangeSpec := { name := "fnExactLayAll", fn := fun _ => fun
  | [d] => { results := [.lit (.bool false)], args := [d] }
  | _ => none }
def FnExactLayAllWrongFalsely : Prop := fnExactLayAllRow.holds Try.pinned (OpenSpec.ofChange fnExactLayAllWrong)

/-- 'laws.FnExactCrateWeight': WHATEVER THE INPUT: true; the input reads as it did. -/
def fnExactCrateWeightSpec : ChangeSpec := { name := "fnExactCrateWeight", fn := fun _ => fun
  | [d1, d2] => { results := [.lit (.bool true)], args := [d1, d2] }
  | _ => none }
def fnExactCrateWeightRow : OpenClaim := { program := "ytfppnaknnijobab", sum := "745ef90e4184bc4086b599bd4b3973284b82637b3cbec259ea67a5173a087984", func := "loop.example/g03303/laws.FnExactCrateWeight", spec := "fnExactCrateWeight", apart := false }
def FnExactCrateWeightSaid : Prop := fnExactCrateWeightRow.holds Try.pinned (OpenSpec.ofChange fnExactCrateWeightSpec)

/-- ITS FALSE NEIGHBOUR: 'it returns false'. Refute it at one input. -/
def fnExactCrateWeightWrong : ChangeSpec := { name := "fnExactCrateWeight", fn := fun _ => fun
  | [d1, d2] => { results := [.lit (.bool false)], args := [d1, d2] }
  | _ => none }
def FnExactCrateWeightWrongFalsely : Prop := fnExactCrateWeightRow.holds Try.pinned (OpenSpec.ofChange fnExactCrateWeightWrong)

/-- 'laws.FnExactCrateOk': WHATEVER THE INPUT: true; the input reads as it did. -/
def fnExactCrateOkSpec : ChangeSpec := { name := "fnExactCrateOk", fn := fun _ => fun
  | [d1, d2] => { results := [.lit (.bool true)], args := [d1, d2] }
  | _ => none }
def fnExactCrateOkRow : OpenClaim := { program := "ytfppnaknnijobab", sum := "745ef90e4184bc4086b599bd4b3973284b82637b3cbec259ea67a5173a087984", func := "loop.example/g03303/laws.FnExactCrateOk", spec := "fnExactCrateOk", apart := false }
def FnExactCrateOkSaid : Prop := fnExactCrateOkRow.holds Try.pinned (OpenSpec.ofChange fnExactCrateOkSpec)

/-- ITS FALSE NEIGHBOUR: 'it returns false'. Refute it at one input. -/
def fnExactCrateOkWrong : ChangeSpec := { name := "fnExactCrateOk", fn := fun _ => fun
  | [d1, d2] => { results := [.lit (.bool false)], args := [d1, d2] }
  | _ => none }
def FnExactCrateOkWrongFalsely : Prop := fnExactCrateOkRow.holds Try.pinned (OpenSpec.ofChange fnExactCrateOkWrong)

/-- 'laws.FnExactAverageOf': WHATEVER THE INPUT: true; the input reads as it did. -/
def fnExactAverageOfSpec : ChangeSpec := { name := "fnExactAverageOf", fn := fun _ => fun
  | [d] => { results := [.lit (.bool true)], args := [d] }
  | _ => none }
def fnExactAverageOfRow : OpenClaim := { program := "ytfppnaknnijobab", sum := "745ef90e4184bc4086b599bd4b3973284b82637b3cbec259ea67a5173a087984", func := "loop.example/g03303/laws.FnExactAverageOf", spec := "fnExactAverageOf", unfollowed := true, recurses := true, apart := false }
def FnExactAverageOfSaid : Prop := fnExactAverageOfRow.holds Try.pinned (OpenSpec.ofChange fnExactAverageOfSpec)

/-- ITS FALSE NEIGHBOUR: 'it returns false'. Refute it at one input. -/
def fnExactAverageOfWrong : ChangeSpec := { name := "fnExactAverageOf", fn := fun _ => fun
  | [d] => { results := [.lit (.bool false)], args := [d] }
  | _ => none }
def FnExactAverageOfWrongFalsely : Prop := fnExactAverageOfRow.holds Try.pinned (OpenSpec.ofChange fnExactAverageOfWrong)

/-- 'laws.FnExactBestValue': WHATEVER THE INPUT: true; the input reads as it did. -/
def fnExactBestValueSpec : ChangeSpec := { name := "fnExactBestValue", fn := fun _ => fun
  | [d1, d2, d3] => { results := [.lit (.bool true)], args := [d1, d2, d3] }
  | _ => none }
def fnExactBestValueRow : OpenClaim := { program := "ytfppnaknnijobab", sum := "745ef90e4184bc4086b599bd4b3973284b82637b3cbec259ea67a5173a087984", func := "loop.example/g03303/laws.FnExactBestValue", spec := "fnExactBestValue", apart := false }
def FnExactBestValueSaid : Prop := fnExactBestValueRow.holds Try.pinned (OpenSpec.ofChange fnExactBestValueSpec)

/-- ITS FALSE NEIGHBOUR: 'it returns false'. Refute it at one input. -/
def fnExactBestValueWrong : ChangeSpec := { name := "fnExactBestValue", fn := fun _ => fun
  | [d1, d2, d3] => { results := [.lit (.bool false)], args := [d1, d2, d3] }
  | _ => none }
def FnExactBestValueWrongFalsely : Prop := fnExactBestValueRow.holds Try.pinned (OpenSpec.ofChange fnExactBestValueWrong)

/-- 'laws.FnExactWasteOf': WHATEVER THE INPUT: true; the input reads as it did. -/
def fnExactWasteOfSpec : ChangeSpec := { name := "fnExactWasteOf", fn := fun _ => fun
  | [d1, d2] => { results := [.lit (.bool true)], args := [d1, d2] }
  | _ => none }
def fnExactWasteOfRow : OpenClaim := { program := "ytfppnaknnijobab", sum := "745ef90e4184bc4086b599bd4b3973284b82637b3cbec259ea67a5173a087984", func := "loop.example/g03303/laws.FnExactWasteOf", spec := "fnExactWasteOf", apart := false }
def FnExactWasteOfSaid : Prop := fnExactWasteOfRow.holds Try.pinned (OpenSpec.ofChange fnExactWasteOfSpec)

/-- ITS FALSE NEIGHBOUR: 'it returns false'. Refute it at one input. -/
def fnExactWasteOfWrong : ChangeSpec := { name := "fnExactWasteOf", fn := fun _ => fun
  | [d1, d2] => { results := [.lit (.bool false)], args := [d1, d2] }
  | _ => none }
def FnExactWasteOfWrongFalsely : Prop := fnExactWasteOfRow.holds Try.pinned (OpenSpec.ofChange fnExactWasteOfWrong)

/-- 'laws.FnExactFlawedOk': WHATEVER THE INPUT: true; the input reads as it did. -/
def fnExactFlawedOkSpec : ChangeSpec := { name := "fnExactFlawedOk", fn := fun _ => fun
  | [d] => { results := [.lit (.bool true)], args := [d] }
  | _ => none }
def fnExactFlawedOkRow : OpenClaim := { program := "ytfppnaknnijobab", sum := "745ef90e4184bc4086b599bd4b3973284b82637b3cbec259ea67a5173a087984", func := "loop.example/g03303/laws.FnExactFlawedOk", spec := "fnExactFlawedOk", apart := false }
def FnExactFlawedOkSaid : Prop := fnExactFlawedOkRow.holds Try.pinned (OpenSpec.ofChange fnExactFlawedOkSpec)

/-- ITS FALSE NEIGHBOUR: 'it returns false'. Refute it at one input. -/
def fnExactFlawedOkWrong : ChangeSpec := { name := "fnExactFlawedOk", fn := fun _ => fun
  | [d] => { results := [.lit (.bool false)], args := [d] }
  | _ => none }
def FnExactFlawedOkWrongFalsely : Prop := fnExactFlawedOkRow.holds Try.pinned (OpenSpec.ofChange fnExactFlawedOkWrong)

/-- 'laws.FnExactIsClear': WHATEVER THE INPUT: true; the input reads as it did. -/
def fnExactIsClearSpec : ChangeSpec := { name := "fnExactIsClear", fn := fun _ => fun
  | [d1, d2, d3] => { results := [.lit (.bool true)], args := [d1, d2, d3] }
  | _ => none }
def fnExactIsClearRow : OpenClaim := { program := "ytfppnaknnijobab", sum := "745ef90e4184bc4086b599bd4b3973284b82637b3cbec259ea67a5173a087984", func := "loop.example/g03303/laws.FnExactIsClear", spec := "fnExactIsClear", unfollowed := true, recurses := true, apart := false }
def FnExactIsClearSaid : Prop := fnExactIsClearRow.holds Try.pinned (OpenSpec.ofChange fnExactIsClearSpec)

/-- ITS FALSE NEIGHBOUR: 'it returns false'. Refute it at one input. -/
def fnExactIsClearWrong : ChangeSpec := { name := "fnExactIsClear", fn := fun _ => fun
  | [d1, d2, d3] => { results := [.lit (.bool false)], args := [d1, d2, d3] }
  | _ => none }
def FnExactIsClearWrongFalsely : Prop := fnExactIsClearRow.holds Try.pinned (OpenSpec.ofChange fnExactIsClearWrong)

/-- 'laws.FnExactFirstClear': WHATEVER THE INPUT: true; the input reads as it did. -/
def fnExactFirstClearSpec : ChangeSpec := { name := "fnExactFirstClear", fn := fun _ => fun
  | [d1, d2] => { results := [.lit (.bool true)], args := [d1, d2] }
  | _ => none }
def fnExactFirstClearRow : OpenClaim := { program := "ytfppnaknnijobab", sum := "745ef90e4184bc4086b599bd4b3973284b82637b3cbec259ea67a5173a087984", func := "loop.example/g03303/laws.FnExactFirstClear", spec := "fnExactFirstClear", unfollowed := true, recurses := true, apart := false }
def FnExactFirstClearSaid : Prop := fnExactFirstClearRow.holds Try.pinned (OpenSpec.ofChange fnExactFirstClearSpec)

/-- ITS FALSE NEIGHBOUR: 'it returns false'. Refute it at one input. -/
def fnExactFirstClearWrong : ChangeSpec := { name := "fnExactFirstClear", fn := fun _ => fun
  | [d1, d2] => { results := [.lit (.bool false)], args := [d1, d2] }
  | _ => none }
def FnExactFirstClearWrongFalsely : Prop := fnExactFirstClearRow.holds Try.pinned (OpenSpec.ofChange fnExactFirstClearWrong)

/-- 'laws.FnExactCountSpots': WHATEVER THE INPUT: true; the input reads as it did. -/
def fnExactCountSpotsSpec : ChangeSpec := { name := "fnExactCountSpots", fn := fun _ => fun
  | [d1, d2, d3] => { results := [.lit (.bool true)], args := [d1, d2, d3] }
  | _ => none }
def fnExactCountSpotsRow : OpenClaim := { program := "ytfppnaknnijobab", sum := "745ef90e4184bc4086b599bd4b3973284b82637b3cbec259ea67a5173a087984", func := "loop.example/g03303/laws.FnExactCountSpots", spec := "fnExactCountSpots", apart := false }
def FnExactCountSpotsSaid : Prop := fnExactCountSpotsRow.holds Try.pinned (OpenSpec.ofChange fnExactCountSpotsSpec)

/-- ITS FALSE NEIGHBOUR: 'it returns false'. Refute it at one input. -/
def fnExactCountSpotsWrong : ChangeSpec := { name := "fnExactCountSpots", fn := fun _ => fun
  | [d1, d2, d3] => { results := [.lit (.bool false)], args := [d1, d2, d3] }
  | _ => none }
def FnExactCountSpotsWrongFalsely : Prop := fnExactCountSpotsRow.holds Try.pinned (OpenSpec.ofChange fnExactCountSpotsWrong)

/-- 'laws.FnExactLargestClear': WHATEVER THE INPUT: true; the input reads as it did. -/
def fnExactLargestClearSpec : ChangeSpec := { name := "fnExactLargestClear", fn := fun _ => fun
  | [d] => { results := [.lit (.bool true)], args := [d] }
  | _ => none }
def fnExactLargestClearRow : OpenClaim := { program := "ytfppnaknnijobab", sum := "745ef90e4184bc4086b599bd4b3973284b82637b3cbec259ea67a5173a087984", func := "loop.example/g03303/laws.FnExactLargestClear", spec := "fnExactLargestClear", unfollowed := true, recurses := true, apart := false }
def FnExactLargestClearSaid : Prop := fnExactLargestClearRow.holds Try.pinned (OpenSpec.ofChange fnExactLargestClearSpec)

/-- ITS FALSE NEIGHBOUR: 'it returns false'. Refute it at one input. -/
def fnExactLargestClearWrong : ChangeSpec := { name := "fnExactLargestClear", fn := fun _ => fun
  | [d] => { results := [.lit (.bool false)], args := [d] }
  | _ => none }
def FnExactLargestClearWrongFalsely : Prop := fnExactLargestClearRow.holds Try.pinned (OpenSpec.ofChange fnExactLargestClearWrong)

/-- 'laws.FnExactFireOrder': WHATEVER THE INPUT: true; the input reads as it did. -/
def fnExactFireOrderSpec : ChangeSpec := { name := "fnExactFireOrder", fn := fun _ => fun
  | [d] => { results := [.lit (.bool true)], args := [d] }
  | _ => none }
def fnExactFireOrderRow : OpenClaim := { program := "ytfppnaknnijobab", sum := "745ef90e4184bc4086b599bd4b3973284b82637b3cbec259ea67a5173a087984", func := "loop.example/g03303/laws.FnExactFireOrder", spec := "fnExactFireOrder", unfollowed := true, recurses := true, apart := false }
def FnExactFireOrderSaid : Prop := fnExactFireOrderRow.holds Try.pinned (OpenSpec.ofChange fnExactFireOrderSpec)

/-- ITS FALSE NEIGHBOUR: 'it returns false'. Refute it at one input. -/
def fnExactFireOrderWrong : ChangeSpec := { name := "fnExactFireOrder", fn := fun _ => fun
  | [d] => { results := [.lit (.bool false)], args := [d] }
  | _ => none }
def FnExactFireOrderWrongFalsely : Prop := fnExactFireOrderRow.holds Try.pinned (OpenSpec.ofChange fnExactFireOrderWrong)

/- THE SECOND FORM. 'bulk': how many values and letters a reading holds, each counted each time it is reached (what is shared counts as often as it is met; a slice's spare places count too). A statement '..UptoSaid' is the law's where the arguments, and the package variables that the reading takes, are together of bulk at most 1048576: NARROWER than '..Said'. Prove '..Said' where nothing that the law and all that it calls make is longer than what came in: it says more and counts as full. Else prove '..UptoSaid'. A law counts once. -/
mutual
def uptoBulk {H : Type} : DataW H → Nat
  | .lit (.string bytes) => bytes.length + 1
  | .lit _ => 1
  | .nil => 1
  | .ptr d => uptoBulk d + 1
  | .slice elems spare => uptoBulkAll elems + uptoBulkAll spare + 1
  | .agg parts => uptoBulkAll parts + 1
  | .iface _ d => uptoBulk d + 1
  | .map entries => uptoBulkEntries entries + 1
  | .held _ => 1
def uptoBulkAll {H : Type} : List (DataW H) → Nat
  | [] => 0
  | d :: r => uptoBulk d + uptoBulkAll r
def uptoBulkEntries {H : Type} : List (Lit × DataW H) → Nat
  | [] => 0
  | x :: r => uptoBulkEntry x + uptoBulkEntries r
def uptoBulkEntry {H : Type} : Lit × DataW H → Nat
  | (.string bytes, d) => bytes.length + uptoBulk d + 1
  | (_, d) => uptoBulk d + 1
 end
def uptoSmall : (H : Type) → List (DataW H) → Bool := fun _ ds => decide (uptoBulkAll ds ≤ 1048576)
def OpenSpec.upto (s : _root_.Go.ChangeSpec) : _root_.Go.OpenSpec := { _root_.Go.OpenSpec.ofChange s with cond := some uptoSmall }

/-- 'laws.FnExactLayAll', WHERE WHAT IT READS IS OF BULK AT MOST 1048576: true; the input reads as it did. -/
def fnExactLayAllUptoRow : OpenClaim := { program := "ytfppnaknnijobab", sum := "745ef90e4184bc4086b599bd4b3973284b82637b3cbec259ea67a5173a087984", func := "loop.example/g03303/laws.FnExactLayAll", spec := "fnExactLayAll", unfollowed := true, recurses := true, apart := false, narrowed := true }
def FnExactLayAllUptoSaid : Prop := fnExactLayAllUptoRow.holds Try.pinned (OpenSpec.upto fnExactLayAllSpec)

/-- 'laws.FnExactCrateWeight', WHERE WHAT IT READS IS OF BULK AT MOST 1048576: true; the input reads as it did. -/
def fnExactCrateWeightUptoRow : OpenClaim := { program := "ytfppnaknnijobab", sum := "745ef90e4184bc4086b599bd4b3973284b82637b3cbec259ea67a5173a087984", func := "loop.example/g03303/laws.FnExactCrateWeight", spec := "fnExactCrateWeight", apart := false, narrowed := true }
def FnExactCrateWeightUptoSaid : Prop := fnExactCrateWeightUptoRow.holds Try.pinned (OpenSpec.upto fnExactCrateWeightSpec)

/-- 'laws.FnExactCrateOk', WHERE WHAT IT READS IS OF BULK AT MOST 1048576: true; the input reads as it did. -/
def fnExactCrateOkUptoRow : OpenClaim := { program := "ytfppnaknnijobab", sum := "745ef90e4184bc4086b599bd4b3973284b82637b3cbec259ea67a5173a087984", func := "loop.example/g03303/laws.FnExactCrateOk", spec := "fnExactCrateOk", apart := false, narrowed := true }
def FnExactCrateOkUptoSaid : Prop := fnExactCrateOkUptoRow.holds Try.pinned (OpenSpec.upto fnExactCrateOkSpec)

/-- 'laws.FnExactAverageOf', WHERE WHAT IT READS IS OF BULK AT MOST 1048576: true; the input reads as it did. -/
def fnExactAverageOfUptoRow : OpenClaim := { program := "ytfppnaknnijobab", sum := "745ef90e4184bc4086b599bd4b3973284b82637b3cbec259ea67a5173a087984", func := "loop.example/g03303/laws.FnExactAverageOf", spec := "fnExactAverageOf", unfollowed := true, recurses := true, apart := false, narrowed := true }
def FnExactAverageOfUptoSaid : Prop := fnExactAverageOfUptoRow.holds Try.pinned (OpenSpec.upto fnExactAverageOfSpec)

/-- 'laws.FnExactBestValue', WHERE WHAT IT READS IS OF BULK AT MOST 1048576: true; the input reads as it did. -/
def fnExactBestValueUptoRow : OpenClaim := { program := "ytfppnaknnijobab", sum := "745ef90e4184bc4086b599bd4b3973284b82637b3cbec259ea67a5173a087984", func := "loop.example/g03303/laws.FnExactBestValue", spec := "fnExactBestValue", apart := false, narrowed := true }
def FnExactBestValueUptoSaid : Prop := fnExactBestValueUptoRow.holds Try.pinned (OpenSpec.upto fnExactBestValueSpec)

/-- 'laws.FnExactWasteOf', WHERE WHAT IT READS IS OF BULK AT MOST 1048576: true; the input reads as it did. -/
def fnExactWasteOfUptoRow : OpenClaim := { program := "ytfppnaknnijobab", sum := "745ef90e4184bc4086b599bd4b3973284b82637b3cbec259ea67a5173a087984", func := "loop.example/g03303/laws.FnExactWasteOf", spec := "fnExactWasteOf", apart := false, narrowed := true }
def FnExactWasteOfUptoSaid : Prop := fnExactWasteOfUptoRow.holds Try.pinned (OpenSpec.upto fnExactWasteOfSpec)

/-- 'laws.FnExactFlawedOk', WHERE WHAT IT READS IS OF BULK AT MOST 1048576: true; the input reads as it did. -/
def fnExactFlawedOkUptoRow : OpenClaim := { program := "ytfppnaknnijobab", sum := "745ef90e4184bc4086b599bd4b3973284b82637b3cbec259ea67a5173a087984", func := "loop.example/g03303/laws.FnExactFlawedOk", spec := "fnExactFlawedOk", apart := false, narrowed := true }
def FnExactFlawedOkUptoSaid : Prop := fnExactFlawedOkUptoRow.holds Try.pinned (OpenSpec.upto fnExactFlawedOkSpec)

/-- 'laws.FnExactIsClear', WHERE WHAT IT READS IS OF BULK AT MOST 1048576: true; the input reads as it did. -/
def fnExactIsClearUptoRow : OpenClaim := { program := "ytfppnaknnijobab", sum := "745ef90e4184bc4086b599bd4b3973284b82637b3cbec259ea67a5173a087984", func := "loop.example/g03303/laws.FnExactIsClear", spec := "fnExactIsClear", unfollowed := true, recurses := true, apart := false, narrowed := true }
def FnExactIsClearUptoSaid : Prop := fnExactIsClearUptoRow.holds Try.pinned (OpenSpec.upto fnExactIsClearSpec)

/-- 'laws.FnExactFirstClear', WHERE WHAT IT READS IS OF BULK AT MOST 1048576: true; the input reads as it did. -/
def fnExactFirstClearUptoRow : OpenClaim := { program := "ytfppnaknnijobab", sum := "745ef90e4184bc4086b599bd4b3973284b82637b3cbec259ea67a5173a087984", func := "loop.example/g03303/laws.FnExactFirstClear", spec := "fnExactFirstClear", unfollowed := true, recurses := true, apart := false, narrowed := true }
def FnExactFirstClearUptoSaid : Prop := fnExactFirstClearUptoRow.holds Try.pinned (OpenSpec.upto fnExactFirstClearSpec)

/-- 'laws.FnExactCountSpots', WHERE WHAT IT READS IS OF BULK AT MOST 1048576: true; the input reads as it did. -/
def fnExactCountSpotsUptoRow : OpenClaim := { program := "ytfppnaknnijobab", sum := "745ef90e4184bc4086b599bd4b3973284b82637b3cbec259ea67a5173a087984", func := "loop.example/g03303/laws.FnExactCountSpots", spec := "fnExactCountSpots", apart := false, narrowed := true }
def FnExactCountSpotsUptoSaid : Prop := fnExactCountSpotsUptoRow.holds Try.pinned (OpenSpec.upto fnExactCountSpotsSpec)

/-- 'laws.FnExactLargestClear', WHERE WHAT IT READS IS OF BULK AT MOST 1048576: true; the input reads as it did. -/
def fnExactLargestClearUptoRow : OpenClaim := { program := "ytfppnaknnijobab", sum := "745ef90e4184bc4086b599bd4b3973284b82637b3cbec259ea67a5173a087984", func := "loop.example/g03303/laws.FnExactLargestClear", spec := "fnExactLargestClear", unfollowed := true, recurses := true, apart := false, narrowed := true }
def FnExactLargestClearUptoSaid : Prop := fnExactLargestClearUptoRow.holds Try.pinned (OpenSpec.upto fnExactLargestClearSpec)

/-- 'laws.FnExactFireOrder', WHERE WHAT IT READS IS OF BULK AT MOST 1048576: true; the input reads as it did. -/
def fnExactFireOrderUptoRow : OpenClaim := { program := "ytfppnaknnijobab", sum := "745ef90e4184bc4086b599bd4b3973284b82637b3cbec259ea67a5173a087984", func := "loop.example/g03303/laws.FnExactFireOrder", spec := "fnExactFireOrder", unfollowed := true, recurses := true, apart := false, narrowed := true }
def FnExactFireOrderUptoSaid : Prop := fnExactFireOrderUptoRow.holds Try.pinned (OpenSpec.upto fnExactFireOrderSpec)

end Rows
end Go.Proofs.Ytfppnaknnijobab
