/-
  No cell of these rows narrows 'for every input' (looked for: loops, veiled, ifaces, maps, wideKeys, modest, calm, conditions, laid).
  DERIVED. THE GIVEN ROWS OF THIS SEAT. 12 by the template 'for every input the law returns true; each argument reads behind the call as it read before'; 0 by the template 'total and deterministic' (their statements: YtfckgidilbjokaaGreatTotals.lean).
  GIVEN WITH THE SEED: the statements are not yours to turn. If you find one false, say at which input.
  Laid BY PROGRAM, IN A SANDBOX (cutbox-rows.mjs): the forced cells as the released guide's own fill.sh prints them over the translation 1bda4ac3bac328fd… (all of the seat's roots in one cut). By AI agents, Wed Nov 11 2026. No macro, syntax, notation, axiom, sorry.
-/
import Derived.Test.YtfckgidilbjokaaGreatChecked
import GoSem.Claim
import GoSem.ClaimJoined
import GoSem.ClaimMapViews
import Derived.JoinedTies
import Derived.KernelRfl
namespace Go.Proofs.YtfckgidilbjokaaGreat
/- THE CELL 'sum', in the pinned program and in every row, IS THE sha256 OF THE DUMP (.gsa) THAT YtfckgidilbjokaaGreatProg.lean LOADS. Nothing in Lean hashes anything: it is a label: what it is worth is what the hold of that sum in a sandbox is worth. -/
noncomputable def Tryz.pinned : Pinned := { name := "ytfckgidilbjokaagreat", sum := "1bda4ac3bac328fd76510942655464a9cfc6b6b43770ac6e02cbae20b79df92a", checked := Tryz.checked }
namespace Rows
def none {H : Type} : Left H := { results := [], args := [] }

/-- 'laws.FnExactAreProper': WHATEVER THE INPUT: true; the input reads as it did. -/
def fnExactAreProperSpec : ChangeSpec := { name := "fnExactAreProper", fn := fun _ => fun
  | [d1, d2] => { results := [.lit (.bool true)], args := [d1, d2] }
  | _ => none }
def fnExactAreProperRow : OpenClaim := { program := "ytfckgidilbjokaagreat", sum := "1bda4ac3bac328fd76510942655464a9cfc6b6b43770ac6e02cbae20b79df92a", func := "loop.example/g03303/laws.FnExactAreProper", spec := "fnExactAreProper", unfollowed := true, recurses := true, apart := false }
def FnExactAreProperSaid : Prop := fnExactAreProperRow.holds Tryz.pinned (OpenSpec.ofChange fnExactAreProperSpec)

/-- ITS FALSE NEIGHBOUR: 'it returns false'. Refute it at one input. -/
def fnExactAreProperWrong : ChangeSpec := { name := "fnExactAreProper", fn := fun _ => fun
  | [d1, d2] => { results := [.lit (.bool false)], args := [d1, d2] }
  | _ => none }
def FnExactAreProperWrongFalsely : Prop := fnExactAreProperRow.holds Tryz.pinned (OpenSpec.ofChange fnExactAreProperWrong)

/-- 'laws.FnExactClashOf': WHATEVER THE INPUT: true; the input reads as it did. -/
def fnExactClashOfSpec : ChangeSpec := { name := "fnExactClashOf", fn := fun _ => fun
  | [d1, d2] => { results := [.lit (.bool true)], args := [d1, d2] }
  | _ => none }
def fnExactClashOfRow : OpenClaim := { program := "ytfckgidilbjokaagreat", sum := "1bda4ac3bac328fd76510942655464a9cfc6b6b43770ac6e02cbae20b79df92a", func := "loop.example/g03303/laws.FnExactClashOf", spec := "fnExactClashOf", unfollowed := true, recurses := true, apart := false }
def FnExactClashOfSaid : Prop := fnExactClashOfRow.holds Tryz.pinned (OpenSpec.ofChange fnExactClashOfSpec)

/-- ITS FALSE NEIGHBOUR: 'it returns false'. Refute it at one input. -/
def fnExactClashOfWrong : ChangeSpec := { name := "fnExactClashOf", fn := fun _ => fun
  | [d1, d2] => { results := [.lit (.bool false)], args := [d1, d2] }
  | _ => none }
def FnExactClashOfWrongFalsely : Prop := fnExactClashOfRow.holds Tryz.pinned (OpenSpec.ofChange fnExactClashOfWrong)

/-- 'laws.FnExactWishesOk': WHATEVER THE INPUT: true; the input reads as it did. -/
def fnExactWishesOkSpec : ChangeSpec := { name := "fnExactWishesOk", fn := fun _ => fun
  | [d1, d2] => { results := [.lit (.bool true)], args := [d1, d2] }
  | _ => none }
def fnExactWishesOkRow : OpenClaim := { program := "ytfckgidilbjokaagreat", sum := "1bda4ac3bac328fd76510942655464a9cfc6b6b43770ac6e02cbae20b79df92a", func := "loop.example/g03303/laws.FnExactWishesOk", spec := "fnExactWishesOk", unfollowed := true, recurses := true, apart := false }
def FnExactWishesOkSaid : Prop := fnExactWishesOkRow.holds Tryz.pinned (OpenSpec.ofChange fnExactWishesOkSpec)

/-- ITS FALSE NEIGHBOUR: 'it returns false'. Refute it at one input. -/
def fnExactWishesOkWrong : ChangeSpec := { name := "fnExactWishesOk", fn := fun _ => fun
  | [d1, d2] => { results := [.lit (.bool false)], args := [d1, d2] }
  | _ => none }
def FnExactWishesOkWrongFalsely : Prop := fnExactWishesOkRow.holds Tryz.pinned (OpenSpec.ofChange fnExactWishesOkWrong)

/-- 'laws.FnExactHistoryOk': WHATEVER THE INPUT: true; the input reads as it did. -/
def fnExactHistoryOkSpec : ChangeSpec := { name := "fnExactHistoryOk", fn := fun _ => fun
  | [d1, d2] => { results := [.lit (.bool true)], args := [d1, d2] }
  | _ => none }
def fnExactHistoryOkRow : OpenClaim := { program := "ytfckgidilbjokaagreat", sum := "1bda4ac3bac328fd76510942655464a9cfc6b6b43770ac6e02cbae20b79df92a", func := "loop.example/g03303/laws.FnExactHistoryOk", spec := "fnExactHistoryOk", unfollowed := true, recurses := true, apart := false }
def FnExactHistoryOkSaid : Prop := fnExactHistoryOkRow.holds Tryz.pinned (OpenSpec.ofChange fnExactHistoryOkSpec)

/-- ITS FALSE NEIGHBOUR: 'it returns false'. Refute it at one input. -/
def fnExactHistoryOkWrong : ChangeSpec := { name := "fnExactHistoryOk", fn := fun _ => fun
  | [d1, d2] => { results := [.lit (.bool false)], args := [d1, d2] }
  | _ => none }
def FnExactHistoryOkWrongFalsely : Prop := fnExactHistoryOkRow.holds Tryz.pinned (OpenSpec.ofChange fnExactHistoryOkWrong)

/-- 'laws.FnExactOldestFaces': WHATEVER THE INPUT: true; the input reads as it did. -/
def fnExactOldestFacesSpec : ChangeSpec := { name := "fnExactOldestFaces", fn := fun _ => fun
  | [d1, d2] => { results := [.lit (.bool true)], args := [d1, d2] }
  | _ => none }
def fnExactOldestFacesRow : OpenClaim := { program := "ytfckgidilbjokaagreat", sum := "1bda4ac3bac328fd76510942655464a9cfc6b6b43770ac6e02cbae20b79df92a", func := "loop.example/g03303/laws.FnExactOldestFaces", spec := "fnExactOldestFaces", unfollowed := true, recurses := true, apart := false }
def FnExactOldestFacesSaid : Prop := fnExactOldestFacesRow.holds Tryz.pinned (OpenSpec.ofChange fnExactOldestFacesSpec)

/-- ITS FALSE NEIGHBOUR: 'it returns false'. Refute it at one input. -/
def fnExactOldestFacesWrong : ChangeSpec := { name := "fnExactOldestFaces", fn := fun _ => fun
  | [d1, d2] => { results := [.lit (.bool false)], args := [d1, d2] }
  | _ => none }
def FnExactOldestFacesWrongFalsely : Prop := fnExactOldestFacesRow.holds Tryz.pinned (OpenSpec.ofChange fnExactOldestFacesWrong)

/-- 'laws.FnExactLeastThickness': WHATEVER THE INPUT: true; the input reads as it did. -/
def fnExactLeastThicknessSpec : ChangeSpec := { name := "fnExactLeastThickness", fn := fun _ => fun
  | [d1, d2, d3] => { results := [.lit (.bool true)], args := [d1, d2, d3] }
  | _ => none }
def fnExactLeastThicknessRow : OpenClaim := { program := "ytfckgidilbjokaagreat", sum := "1bda4ac3bac328fd76510942655464a9cfc6b6b43770ac6e02cbae20b79df92a", func := "loop.example/g03303/laws.FnExactLeastThickness", spec := "fnExactLeastThickness", unfollowed := true, recurses := true, apart := false }
def FnExactLeastThicknessSaid : Prop := fnExactLeastThicknessRow.holds Tryz.pinned (OpenSpec.ofChange fnExactLeastThicknessSpec)

/-- ITS FALSE NEIGHBOUR: 'it returns false'. Refute it at one input. -/
def fnExactLeastThicknessWrong : ChangeSpec := { name := "fnExactLeastThickness", fn := fun _ => fun
  | [d1, d2, d3] => { results := [.lit (.bool false)], args := [d1, d2, d3] }
  | _ => none }
def FnExactLeastThicknessWrongFalsely : Prop := fnExactLeastThicknessRow.holds Tryz.pinned (OpenSpec.ofChange fnExactLeastThicknessWrong)

/-- 'laws.FnExactWeakFaces': WHATEVER THE INPUT: true; the input reads as it did. -/
def fnExactWeakFacesSpec : ChangeSpec := { name := "fnExactWeakFaces", fn := fun _ => fun
  | [d1, d2, d3] => { results := [.lit (.bool true)], args := [d1, d2, d3] }
  | _ => none }
def fnExactWeakFacesRow : OpenClaim := { program := "ytfckgidilbjokaagreat", sum := "1bda4ac3bac328fd76510942655464a9cfc6b6b43770ac6e02cbae20b79df92a", func := "loop.example/g03303/laws.FnExactWeakFaces", spec := "fnExactWeakFaces", unfollowed := true, recurses := true, apart := false }
def FnExactWeakFacesSaid : Prop := fnExactWeakFacesRow.holds Tryz.pinned (OpenSpec.ofChange fnExactWeakFacesSpec)

/-- ITS FALSE NEIGHBOUR: 'it returns false'. Refute it at one input. -/
def fnExactWeakFacesWrong : ChangeSpec := { name := "fnExactWeakFaces", fn := fun _ => fun
  | [d1, d2, d3] => { results := [.lit (.bool false)], args := [d1, d2, d3] }
  | _ => none }
def FnExactWeakFacesWrongFalsely : Prop := fnExactWeakFacesRow.holds Tryz.pinned (OpenSpec.ofChange fnExactWeakFacesWrong)

/-- 'laws.FnExactGlassWeight': WHATEVER THE INPUT: true; the input reads as it did. -/
def fnExactGlassWeightSpec : ChangeSpec := { name := "fnExactGlassWeight", fn := fun _ => fun
  | [d1, d2] => { results := [.lit (.bool true)], args := [d1, d2] }
  | _ => none }
def fnExactGlassWeightRow : OpenClaim := { program := "ytfckgidilbjokaagreat", sum := "1bda4ac3bac328fd76510942655464a9cfc6b6b43770ac6e02cbae20b79df92a", func := "loop.example/g03303/laws.FnExactGlassWeight", spec := "fnExactGlassWeight", unfollowed := true, recurses := true, apart := false }
def FnExactGlassWeightSaid : Prop := fnExactGlassWeightRow.holds Tryz.pinned (OpenSpec.ofChange fnExactGlassWeightSpec)

/-- ITS FALSE NEIGHBOUR: 'it returns false'. Refute it at one input. -/
def fnExactGlassWeightWrong : ChangeSpec := { name := "fnExactGlassWeight", fn := fun _ => fun
  | [d1, d2] => { results := [.lit (.bool false)], args := [d1, d2] }
  | _ => none }
def FnExactGlassWeightWrongFalsely : Prop := fnExactGlassWeightRow.holds Tryz.pinned (OpenSpec.ofChange fnExactGlassWeightWrong)

/-- 'laws.FnExactHingeForce': WHATEVER THE INPUT: true; the input reads as it did. -/
def fnExactHingeForceSpec : ChangeSpec := { name := "fnExactHingeForce", fn := fun _ => fun
  | [d1, d2, d3, d4] => { results := [.lit (.bool true)], args := [d1, d2, d3, d4] }
  | _ => none }
def fnExactHingeForceRow : OpenClaim := { program := "ytfckgidilbjokaagreat", sum := "1bda4ac3bac328fd76510942655464a9cfc6b6b43770ac6e02cbae20b79df92a", func := "loop.example/g03303/laws.FnExactHingeForce", spec := "fnExactHingeForce", unfollowed := true, recurses := true, apart := false }
def FnExactHingeForceSaid : Prop := fnExactHingeForceRow.holds Tryz.pinned (OpenSpec.ofChange fnExactHingeForceSpec)

/-- ITS FALSE NEIGHBOUR: 'it returns false'. Refute it at one input. -/
def fnExactHingeForceWrong : ChangeSpec := { name := "fnExactHingeForce", fn := fun _ => fun
  | [d1, d2, d3, d4] => { results := [.lit (.bool false)], args := [d1, d2, d3, d4] }
  | _ => none }
def FnExactHingeForceWrongFalsely : Prop := fnExactHingeForceRow.holds Tryz.pinned (OpenSpec.ofChange fnExactHingeForceWrong)

/-- 'laws.FnExactHingeHolds': WHATEVER THE INPUT: true; the input reads as it did. -/
def fnExactHingeHoldsSpec : ChangeSpec := { name := "fnExactHingeHolds", fn := fun _ => fun
  | [d1, d2, d3, d4, d5] => { results := [.lit (.bool true)], args := [d1, d2, d3, d4, d5] }
  | _ => none }
def fnExactHingeHoldsRow : OpenClaim := { program := "ytfckgidilbjokaagreat", sum := "1bda4ac3bac328fd76510942655464a9cfc6b6b43770ac6e02cbae20b79df92a", func := "loop.example/g03303/laws.FnExactHingeHolds", spec := "fnExactHingeHolds", unfollowed := true, recurses := true, apart := false }
def FnExactHingeHoldsSaid : Prop := fnExactHingeHoldsRow.holds Tryz.pinned (OpenSpec.ofChange fnExactHingeHoldsSpec)

/-- ITS FALSE NEIGHBOUR: 'it returns false'. Refute it at one input. -/
def fnExactHingeHoldsWrong : ChangeSpec := { name := "fnExactHingeHolds", fn := fun _ => fun
  | [d1, d2, d3, d4, d5] => { results := [.lit (.bool false)], args := [d1, d2, d3, d4, d5] }
  | _ => none }
def FnExactHingeHoldsWrongFalsely : Prop := fnExactHingeHoldsRow.holds Tryz.pinned (OpenSpec.ofChange fnExactHingeHoldsWrong)

/-- 'laws.FnExactSpotArea': WHATEVER THE INPUT: true; the input reads as it did. -/
def fnExactSpotAreaSpec : ChangeSpec := { name := "fnExactSpotArea", fn := fun _ => fun
  | [d1, d2, d3, d4] => { results := [.lit (.bool true)], args := [d1, d2, d3, d4] }
  | _ => none }
def fnExactSpotAreaRow : OpenClaim := { program := "ytfckgidilbjokaagreat", sum := "1bda4ac3bac328fd76510942655464a9cfc6b6b43770ac6e02cbae20b79df92a", func := "loop.example/g03303/laws.FnExactSpotArea", spec := "fnExactSpotArea", unfollowed := true, recurses := true, apart := false }
def FnExactSpotAreaSaid : Prop := fnExactSpotAreaRow.holds Tryz.pinned (OpenSpec.ofChange fnExactSpotAreaSpec)

/-- ITS FALSE NEIGHBOUR: 'it returns false'. Refute it at one input. -/
def fnExactSpotAreaWrong : ChangeSpec := { name := "fnExactSpotArea", fn := fun _ => fun
  | [d1, d2, d3, d4] => { results := [.lit (.bool false)], args := [d1, d2, d3, d4] }
  | _ => none }
def FnExactSpotAreaWrongFalsely : Prop := fnExactSpotAreaRow.holds Tryz.pinned (OpenSpec.ofChange fnExactSpotAreaWrong)

/-- 'laws.FnExactGreedyColors': WHATEVER THE INPUT: true; the input reads as it did. -/
def fnExactGreedyColorsSpec : ChangeSpec := { name := "fnExactGreedyColors", fn := fun _ => fun
  | [d] => { results := [.lit (.bool true)], args := [d] }
  | _ => none }
def fnExactGreedyColorsRow : OpenClaim := { program := "ytfckgidilbjokaagreat", sum := "1bda4ac3bac328fd76510942655464a9cfc6b6b43770ac6e02cbae20b79df92a", func := "loop.example/g03303/laws.FnExactGreedyColors", spec := "fnExactGreedyColors", unfollowed := true, recurses := true, apart := false }
def FnExactGreedyColorsSaid : Prop := fnExactGreedyColorsRow.holds Tryz.pinned (OpenSpec.ofChange fnExactGreedyColorsSpec)

/-- ITS FALSE NEIGHBOUR: 'it returns false'. Refute it at one input. -/
def fnExactGreedyColorsWrong : ChangeSpec := { name := "fnExactGreedyColors", fn := fun _ => fun
  | [d] => { results := [.lit (.bool false)], args := [d] }
  | _ => none }
def FnExactGreedyColorsWrongFalsely : Prop := fnExactGreedyColorsRow.holds Tryz.pinned (OpenSpec.ofChange fnExactGreedyColorsWrong)

/- THE SECOND FORM. 'bulk': how many values and letters a reading holds, each counted each time it is reached (what is shared counts as often as it is met; a slice's spare places count too). A statement '..UptoSaid' is the law's where the arguments, and the package variables that the reading takes, are together of bulk at most 1048576: NARROWER than '..Said'. Prove '..Said' where nothing that the law and all that it calls make is longer than what came in: it says more and counts as full. Else prove '..UptoSaid'. A law counts once. -/
mutual
def uptoBulk {H : Type} : DataW H → Nat
  | .lit (.string bytes) => bytes.length + 1
  | .lit _ => 1
  | .nil => 1
  | .ptr d => uptoBulk d + 1
  | .slice elems spare => uptoBulkAll elems + uptoBulkAll spare + 1
  | .agg parts => uptoBulkAll parts + 1
  | .iface _ d => uptoBulk d + 1
  | .map entries => uptoBulkEntries entries + 1
  | .held _ => 1
def uptoBulkAll {H : Type} : List (DataW H) → Nat
  | [] => 0
  | d :: r => uptoBulk d + uptoBulkAll r
def uptoBulkEntries {H : Type} : List (Lit × DataW H) → Nat
  | [] => 0
  | x :: r => uptoBulkEntry x + uptoBulkEntries r
def uptoBulkEntry {H : Type} : Lit × DataW H → Nat
  | (.string bytes, d) => bytes.length + uptoBulk d + 1
  | (_, d) => uptoBulk d + 1
 end
def uptoSmall : (H : Type) → List (DataW H) → Bool := fun _ ds => decide (uptoBulkAll ds ≤ 1048576)
def OpenSpec.upto (s : _root_.Go.ChangeSpec) : _root_.Go.OpenSpec := { _root_.Go.OpenSpec.ofChange s with cond := some uptoSmall }

/-- 'laws.FnExactAreProper', WHERE WHAT IT READS IS OF BULK AT MOST 1048576: true; the input reads as it did. -/
def fnExactAreProperUptoRow : OpenClaim := { program := "ytfckgidilbjokaagreat", sum := "1bda4ac3bac328fd76510942655464a9cfc6b6b43770ac6e02cbae20b79df92a", func := "loop.example/g03303/laws.FnExactAreProper", spec := "fnExactAreProper", unfollowed := true, recurses := true, apart := false, narrowed := true }
def FnExactAreProperUptoSaid : Prop := fnExactAreProperUptoRow.holds Tryz.pinned (OpenSpec.upto fnExactAreProperSpec)

/-- 'laws.FnExactClashOf', WHERE WHAT IT READS IS OF BULK AT MOST 1048576: true; the input reads as it did. -/
def fnExactClashOfUptoRow : OpenClaim := { program := "ytfckgidilbjokaagreat", sum := "1bda4ac3bac328fd76510942655464a9cfc6b6b43770ac6e02cbae20b79df92a", func := "loop.example/g03303/laws.FnExactClashOf", spec := "fnExactClashOf", unfollowed := true, recurses := true, apart := false, narrowed := true }
def FnExactClashOfUptoSaid : Prop := fnExactClashOfUptoRow.holds Tryz.pinned (OpenSpec.upto fnExactClashOfSpec)

/-- 'laws.FnExactWishesOk', WHERE WHAT IT READS IS OF BULK AT MOST 1048576: true; the input reads as it did. -/
def fnExactWishesOkUptoRow : OpenClaim := { program := "ytfckgidilbjokaagreat", sum := "1bda4ac3bac328fd76510942655464a9cfc6b6b43770ac6e02cbae20b79df92a", func := "loop.example/g03303/laws.FnExactWishesOk", spec := "fnExactWishesOk", unfollowed := true, recurses := true, apart := false, narrowed := true }
def FnExactWishesOkUptoSaid : Prop := fnExactWishesOkUptoRow.holds Tryz.pinned (OpenSpec.upto fnExactWishesOkSpec)

/-- 'laws.FnExactHistoryOk', WHERE WHAT IT READS IS OF BULK AT MOST 1048576: true; the input reads as it did. -/
def fnExactHistoryOkUptoRow : OpenClaim := { program := "ytfckgidilbjokaagreat", sum := "1bda4ac3bac328fd76510942655464a9cfc6b6b43770ac6e02cbae20b79df92a", func := "loop.example/g03303/laws.FnExactHistoryOk", spec := "fnExactHistoryOk", unfollowed := true, recurses := true, apart := false, narrowed := true }
def FnExactHistoryOkUptoSaid : Prop := fnExactHistoryOkUptoRow.holds Tryz.pinned (OpenSpec.upto fnExactHistoryOkSpec)

/-- 'laws.FnExactOldestFaces', WHERE WHAT IT READS IS OF BULK AT MOST 1048576: true; the input reads as it did. -/
def fnExactOldestFacesUptoRow : OpenClaim := { program := "ytfckgidilbjokaagreat", sum := "1bda4ac3bac328fd76510942655464a9cfc6b6b43770ac6e02cbae20b79df92a", func := "loop.example/g03303/laws.FnExactOldestFaces", spec := "fnExactOldestFaces", unfollowed := true, recurses := true, apart := false, narrowed := true }
def FnExactOldestFacesUptoSaid : Prop := fnExactOldestFacesUptoRow.holds Tryz.pinned (OpenSpec.upto fnExactOldestFacesSpec)

/-- 'laws.FnExactLeastThickness', WHERE WHAT IT READS IS OF BULK AT MOST 1048576: true; the input reads as it did. -/
def fnExactLeastThicknessUptoRow : OpenClaim := { program := "ytfckgidilbjokaagreat", sum := "1bda4ac3bac328fd76510942655464a9cfc6b6b43770ac6e02cbae20b79df92a", func := "loop.example/g03303/laws.FnExactLeastThickness", spec := "fnExactLeastThickness", unfollowed := true, recurses := true, apart := false, narrowed := true }
def FnExactLeastThicknessUptoSaid : Prop := fnExactLeastThicknessUptoRow.holds Tryz.pinned (OpenSpec.upto fnExactLeastThicknessSpec)

/-- 'laws.FnExactWeakFaces', WHERE WHAT IT READS IS OF BULK AT MOST 1048576: true; the input reads as it did. -/
def fnExactWeakFacesUptoRow : OpenClaim := { program := "ytfckgidilbjokaagreat", sum := "1bda4ac3bac328fd76510942655464a9cfc6b6b43770ac6e02cbae20b79df92a", func := "loop.example/g03303/laws.FnExactWeakFaces", spec := "fnExactWeakFaces", unfollowed := true, recurses := true, apart := false, narrowed := true }
def FnExactWeakFacesUptoSaid : Prop := fnExactWeakFacesUptoRow.holds Tryz.pinned (OpenSpec.upto fnExactWeakFacesSpec)

/-- 'laws.FnExactGlassWeight', WHERE WHAT IT READS IS OF BULK AT MOST 1048576: true; the input reads as it did. -/
def fnExactGlassWeightUptoRow : OpenClaim := { program := "ytfckgidilbjokaagreat", sum := "1bda4ac3bac328fd76510942655464a9cfc6b6b43770ac6e02cbae20b79df92a", func := "loop.example/g03303/laws.FnExactGlassWeight", spec := "fnExactGlassWeight", unfollowed := true, recurses := true, apart := false, narrowed := true }
def FnExactGlassWeightUptoSaid : Prop := fnExactGlassWeightUptoRow.holds Tryz.pinned (OpenSpec.upto fnExactGlassWeightSpec)

/-- 'laws.FnExactHingeForce', WHERE WHAT IT READS IS OF BULK AT MOST 1048576: true; the input reads as it did. -/
def fnExactHingeForceUptoRow : OpenClaim := { program := "ytfckgidilbjokaagreat", sum := "1bda4ac3bac328fd76510942655464a9cfc6b6b43770ac6e02cbae20b79df92a", func := "loop.example/g03303/laws.FnExactHingeForce", spec := "fnExactHingeForce", unfollowed := true, recurses := true, apart := false, narrowed := true }
def FnExactHingeForceUptoSaid : Prop := fnExactHingeForceUptoRow.holds Tryz.pinned (OpenSpec.upto fnExactHingeForceSpec)

/-- 'laws.FnExactHingeHolds', WHERE WHAT IT READS IS OF BULK AT MOST 1048576: true; the input reads as it did. -/
def fnExactHingeHoldsUptoRow : OpenClaim := { program := "ytfckgidilbjokaagreat", sum := "1bda4ac3bac328fd76510942655464a9cfc6b6b43770ac6e02cbae20b79df92a", func := "loop.example/g03303/laws.FnExactHingeHolds", spec := "fnExactHingeHolds", unfollowed := true, recurses := true, apart := false, narrowed := true }
def FnExactHingeHoldsUptoSaid : Prop := fnExactHingeHoldsUptoRow.holds Tryz.pinned (OpenSpec.upto fnExactHingeHoldsSpec)

/-- 'laws.FnExactSpotArea', WHERE WHAT IT READS IS OF BULK AT MOST 1048576: true; the input reads as it did. -/
def fnExactSpotAreaUptoRow : OpenClaim := { program := "ytfckgidilbjokaagreat", sum := "1bda4ac3bac328fd76510942655464a9cfc6b6b43770ac6e02cbae20b79df92a", func := "loop.example/g03303/laws.FnExactSpotArea", spec := "fnExactSpotArea", unfollowed := true, recurses := true, apart := false, narrowed := true }
def FnExactSpotAreaUptoSaid : Prop := fnExactSpotAreaUptoRow.holds Tryz.pinned (OpenSpec.upto fnExactSpotAreaSpec)

/-- 'laws.FnExactGreedyColors', WHERE WHAT IT READS IS OF BULK AT MOST 1048576: true; the input reads as it did. -/
def fnExactGreedyColorsUptoRow : OpenClaim := { program := "ytfckgidilbjokaagreat", sum := "1bda4ac3bac328fd76510942655464a9cfc6b6b43770ac6e02cbae20b79df92a", func := "loop.example/g03303/laws.FnExactGreedyColors", spec := "fnExactGreedyColors", unfollowed := true, recurses := true, apart := false, narrowed := true }
def FnExactGreedyColorsUptoSaid : Prop := fnExactGreedyColorsUptoRow.holds Tryz.pinned (OpenSpec.upto fnExactGreedyColorsSpec)

end Rows
end Go.Proofs.YtfckgidilbjokaaGreat
