/-
  No cell of these rows narrows 'for every input' (looked for: loops, veiled, ifaces, maps, wideKeys, modest, calm, conditions, laid).
  DERIVED. THE GIVEN ROWS OF THIS SEAT. 12 by the template 'for every input the law returns true; each argument reads behind the call as it read before'; 0 by the template 'total and deterministic' (their statements: YtcaochbmcfefaaaTotals.lean).
  GIVEN WITH THE SEED: the statements are not yours to turn. If you find one false, say at which input.
  Laid BY PROGRAM, IN A SANDBOX (cutbox-rows.mjs): the forced cells as the released guide's own fill.sh prints them over the translation 6e24ff3ebd2e2033… (all of the seat's roots in one cut). By AI agents, Wed Nov 11 2026. No macro, syntax, notation, axiom, sorry.
-/
import Derived.Test.YtcaochbmcfefaaaChecked
import GoSem.Claim
import GoSem.ClaimJoined
import GoSem.ClaimMapViews
import Derived.JoinedTies
import Derived.KernelRfl
namespace Go.Proofs.Ytcaochbmcfefaaa
/- THE CELL 'sum', in the pinned program and in every row, IS THE sha256 OF THE DUMP (.gsa) THAT YtcaochbmcfefaaaProg.lean LOADS. Nothing in Lean hashes anything: it is a label: what it is worth is what the hold of that sum in a sandbox is worth. -/
noncomputable def Try.pinned : Pinned := { name := "ytcaochbmcfefaaa", sum := "6e24ff3ebd2e203302f3abadd20e891ed733c37480d244bcaaa12f9b121583f9", checked := Try.checked }
namespace Rows
def none {H : Type} : Left H := { results := [], args := [] }

/-- 'laws.FnExactSheetOk': WHATEVER THE INPUT: true; the input reads as it did. -/
def fnExactSheetOkSpec : ChangeSpec := { name := "fnExactSheetOk", fn := fun _ => fun
  | [d] => { results := [.lit (.bool true)], args := [d] }
  | _ => none }
def fnExactSheetOkRow : OpenClaim := { program := "ytcaochbmcfefaaa", sum := "6e24ff3ebd2e203302f3abadd20e891ed733c37480d244bcaaa12f9b121583f9", func := "loop.example/g03303/laws.FnExactSheetOk", spec := "fnExactSheetOk", apart := false }
def FnExactSheetOkSaid : Prop := fnExactSheetOkRow.holds Try.pinned (OpenSpec.ofChange fnExactSheetOkSpec)

/-- ITS FALSE NEIGHBOUR: 'it returns false'. Refute it at one input. -/
def fnExactSheetOkWrong : ChangeSpec := { name := "fnExactSheetOk", fn := fun _ => fun
  | [d] => { results := [.lit (.bool false)], args := [d] }
  | _ => none }
def FnExactSheetOkWrongFalsely : Prop := fnExactSheetOkRow.holds Try.pinned (OpenSpec.ofChange fnExactSheetOkWrong)

/-- 'laws.FnExactFitsSheet': WHATEVER THE INPUT: true; the input reads as it did. -/
def fnExactFitsSheetSpec : ChangeSpec := { name := "fnExactFitsSheet", fn := fun _ => fun
  | [d1, d2, d3] => { results := [.lit (.bool true)], args := [d1, d2, d3] }
  | _ => none }
def fnExactFitsSheetRow : OpenClaim := { program := "ytcaochbmcfefaaa", sum := "6e24ff3ebd2e203302f3abadd20e891ed733c37480d244bcaaa12f9b121583f9", func := "loop.example/g03303/laws.FnExactFitsSheet", spec := "fnExactFitsSheet", apart := false }
def FnExactFitsSheetSaid : Prop := fnExactFitsSheetRow.holds Try.pinned (OpenSpec.ofChange fnExactFitsSheetSpec)

/-- ITS FALSE NEIGHBOUR: 'it returns false'. Refute it at one input. -/
def fnExactFitsSheetWrong : ChangeSpec := { name := "fnExactFitsSheet", fn := fun _ => fun
  | [d1, d2, d3] => { results := [.lit (.bool false)], args := [d1, d2, d3] }
  | _ => none }
def FnExactFitsSheetWrongFalsely : Prop := fnExactFitsSheetRow.holds Try.pinned (OpenSpec.ofChange fnExactFitsSheetWrong)

/-- 'laws.FnExactFewestCuts': WHATEVER THE INPUT: true; the input reads as it did. -/
def fnExactFewestCutsSpec : ChangeSpec := { name := "fnExactFewestCuts", fn := fun _ => fun
  | [d1, d2] => { results := [.lit (.bool true)], args := [d1, d2] }
  | _ => none }
def fnExactFewestCutsRow : OpenClaim := { program := "ytcaochbmcfefaaa", sum := "6e24ff3ebd2e203302f3abadd20e891ed733c37480d244bcaaa12f9b121583f9", func := "loop.example/g03303/laws.FnExactFewestCuts", spec := "fnExactFewestCuts", apart := false }
def FnExactFewestCutsSaid : Prop := fnExactFewestCutsRow.holds Try.pinned (OpenSpec.ofChange fnExactFewestCutsSpec)

/-- ITS FALSE NEIGHBOUR: 'it returns false'. Refute it at one input. -/
def fnExactFewestCutsWrong : ChangeSpec := { name := "fnExactFewestCuts", fn := fun _ => fun
  | [d1, d2] => { results := [.lit (.bool false)], args := [d1, d2] }
  | _ => none }
def FnExactFewestCutsWrongFalsely : Prop := fnExactFewestCutsRow.holds Try.pinned (OpenSpec.ofChange fnExactFewestCutsWrong)

/-- 'laws.FnExactMostPieces': WHATEVER THE INPUT: true; the input reads as it did. -/
def fnExactMostPiecesSpec : ChangeSpec := { name := "fnExactMostPieces", fn := fun _ => fun
  | [d1, d2] => { results := [.lit (.bool true)], args := [d1, d2] }
  | _ => none }
def fnExactMostPiecesRow : OpenClaim := { program := "ytcaochbmcfefaaa", sum := "6e24ff3ebd2e203302f3abadd20e891ed733c37480d244bcaaa12f9b121583f9", func := "loop.example/g03303/laws.FnExactMostPieces", spec := "fnExactMostPieces", apart := false }
def FnExactMostPiecesSaid : Prop := fnExactMostPiecesRow.holds Try.pinned (OpenSpec.ofChange fnExactMostPiecesSpec)

/-- ITS FALSE NEIGHBOUR: 'it returns false'. Refute it at one input. -/
def fnExactMostPiecesWrong : ChangeSpec := { name := "fnExactMostPieces", fn := fun _ => fun
  | [d1, d2] => { results := [.lit (.bool false)], args := [d1, d2] }
  | _ => none }
def FnExactMostPiecesWrongFalsely : Prop := fnExactMostPiecesRow.holds Try.pinned (OpenSpec.ofChange fnExactMostPiecesWrong)

/-- 'laws.FnExactFiringOk': WHATEVER THE INPUT: true; the input reads as it did. -/
def fnExactFiringOkSpec : ChangeSpec := { name := "fnExactFiringOk", fn := fun _ => fun
  | [d] => { results := [.lit (.bool true)], args := [d] }
  | _ => none }
def fnExactFiringOkRow : OpenClaim := { program := "ytcaochbmcfefaaa", sum := "6e24ff3ebd2e203302f3abadd20e891ed733c37480d244bcaaa12f9b121583f9", func := "loop.example/g03303/laws.FnExactFiringOk", spec := "fnExactFiringOk", apart := false }
def FnExactFiringOkSaid : Prop := fnExactFiringOkRow.holds Try.pinned (OpenSpec.ofChange fnExactFiringOkSpec)

/-- ITS FALSE NEIGHBOUR: 'it returns false'. Refute it at one input. -/
def fnExactFiringOkWrong : ChangeSpec := { name := "fnExactFiringOk", fn := fun _ => fun
  | [d] => { results := [.lit (.bool false)], args := [d] }
  | _ => none }
def FnExactFiringOkWrongFalsely : Prop := fnExactFiringOkRow.holds Try.pinned (OpenSpec.ofChange fnExactFiringOkWrong)

/-- 'laws.FnExactCanShare': WHATEVER THE INPUT: true; the input reads as it did. -/
def fnExactCanShareSpec : ChangeSpec := { name := "fnExactCanShare", fn := fun _ => fun
  | [d1, d2] => { results := [.lit (.bool true)], args := [d1, d2] }
  | _ => none }
def fnExactCanShareRow : OpenClaim := { program := "ytcaochbmcfefaaa", sum := "6e24ff3ebd2e203302f3abadd20e891ed733c37480d244bcaaa12f9b121583f9", func := "loop.example/g03303/laws.FnExactCanShare", spec := "fnExactCanShare", apart := false }
def FnExactCanShareSaid : Prop := fnExactCanShareRow.holds Try.pinned (OpenSpec.ofChange fnExactCanShareSpec)

/-- ITS FALSE NEIGHBOUR: 'it returns false'. Refute it at one input. -/
def fnExactCanShareWrong : ChangeSpec := { name := "fnExactCanShare", fn := fun _ => fun
  | [d1, d2] => { results := [.lit (.bool false)], args := [d1, d2] }
  | _ => none }
def FnExactCanShareWrongFalsely : Prop := fnExactCanShareRow.holds Try.pinned (OpenSpec.ofChange fnExactCanShareWrong)

/-- 'laws.FnExactStainOk': WHATEVER THE INPUT: true; the input reads as it did. -/
def fnExactStainOkSpec : ChangeSpec := { name := "fnExactStainOk", fn := fun _ => fun
  | [d] => { results := [.lit (.bool true)], args := [d] }
  | _ => none }
def fnExactStainOkRow : OpenClaim := { program := "ytcaochbmcfefaaa", sum := "6e24ff3ebd2e203302f3abadd20e891ed733c37480d244bcaaa12f9b121583f9", func := "loop.example/g03303/laws.FnExactStainOk", spec := "fnExactStainOk", apart := false }
def FnExactStainOkSaid : Prop := fnExactStainOkRow.holds Try.pinned (OpenSpec.ofChange fnExactStainOkSpec)

/-- ITS FALSE NEIGHBOUR: 'it returns false'. Refute it at one input. -/
def fnExactStainOkWrong : ChangeSpec := { name := "fnExactStainOk", fn := fun _ => fun
  | [d] => { results := [.lit (.bool false)], args := [d] }
  | _ => none }
def FnExactStainOkWrongFalsely : Prop := fnExactStainOkRow.holds Try.pinned (OpenSpec.ofChange fnExactStainOkWrong)

/-- 'laws.FnExactIsDarker': WHATEVER THE INPUT: true; the input reads as it did. -/
def fnExactIsDarkerSpec : ChangeSpec := { name := "fnExactIsDarker", fn := fun _ => fun
  | [d1, d2] => { results := [.lit (.bool true)], args := [d1, d2] }
  | _ => none }
def fnExactIsDarkerRow : OpenClaim := { program := "ytcaochbmcfefaaa", sum := "6e24ff3ebd2e203302f3abadd20e891ed733c37480d244bcaaa12f9b121583f9", func := "loop.example/g03303/laws.FnExactIsDarker", spec := "fnExactIsDarker", apart := false }
def FnExactIsDarkerSaid : Prop := fnExactIsDarkerRow.holds Try.pinned (OpenSpec.ofChange fnExactIsDarkerSpec)

/-- ITS FALSE NEIGHBOUR: 'it returns false'. Refute it at one input. -/
def fnExactIsDarkerWrong : ChangeSpec := { name := "fnExactIsDarker", fn := fun _ => fun
  | [d1, d2] => { results := [.lit (.bool false)], args := [d1, d2] }
  | _ => none }
def FnExactIsDarkerWrongFalsely : Prop := fnExactIsDarkerRow.holds Try.pinned (OpenSpec.ofChange fnExactIsDarkerWrong)

/-- 'laws.FnExactMixStains': WHATEVER THE INPUT: true; the input reads as it did. -/
def fnExactMixStainsSpec : ChangeSpec := { name := "fnExactMixStains", fn := fun _ => fun
  | [d1, d2, d3] => { results := [.lit (.bool true)], args := [d1, d2, d3] }
  | _ => none }
def fnExactMixStainsRow : OpenClaim := { program := "ytcaochbmcfefaaa", sum := "6e24ff3ebd2e203302f3abadd20e891ed733c37480d244bcaaa12f9b121583f9", func := "loop.example/g03303/laws.FnExactMixStains", spec := "fnExactMixStains", unfollowed := true, recurses := true, apart := false }
def FnExactMixStainsSaid : Prop := fnExactMixStainsRow.holds Try.pinned (OpenSpec.ofChange fnExactMixStainsSpec)

/-- ITS FALSE NEIGHBOUR: 'it returns false'. Refute it at one input. -/
def fnExactMixStainsWrong : ChangeSpec := { name := "fnExactMixStains", fn := fun _ => fun
  | [d1, d2, d3] => { results := [.lit (.bool false)], args := [d1, d2, d3] }
  | _ => none }
def FnExactMixStainsWrongFalsely : Prop := fnExactMixStainsRow.holds Try.pinned (OpenSpec.ofChange fnExactMixStainsWrong)

/-- 'laws.FnExactSunOk': WHATEVER THE INPUT: true; the input reads as it did. -/
def fnExactSunOkSpec : ChangeSpec := { name := "fnExactSunOk", fn := fun _ => fun
  | [d] => { results := [.lit (.bool true)], args := [d] }
  | _ => none }
def fnExactSunOkRow : OpenClaim := { program := "ytcaochbmcfefaaa", sum := "6e24ff3ebd2e203302f3abadd20e891ed733c37480d244bcaaa12f9b121583f9", func := "loop.example/g03303/laws.FnExactSunOk", spec := "fnExactSunOk", apart := false }
def FnExactSunOkSaid : Prop := fnExactSunOkRow.holds Try.pinned (OpenSpec.ofChange fnExactSunOkSpec)

/-- ITS FALSE NEIGHBOUR: 'it returns false'. Refute it at one input. -/
def fnExactSunOkWrong : ChangeSpec := { name := "fnExactSunOk", fn := fun _ => fun
  | [d] => { results := [.lit (.bool false)], args := [d] }
  | _ => none }
def FnExactSunOkWrongFalsely : Prop := fnExactSunOkRow.holds Try.pinned (OpenSpec.ofChange fnExactSunOkWrong)

/-- 'laws.FnExactSpotOf': WHATEVER THE INPUT: true; the input reads as it did. -/
def fnExactSpotOfSpec : ChangeSpec := { name := "fnExactSpotOf", fn := fun _ => fun
  | [d1, d2, d3] => { results := [.lit (.bool true)], args := [d1, d2, d3] }
  | _ => none }
def fnExactSpotOfRow : OpenClaim := { program := "ytcaochbmcfefaaa", sum := "6e24ff3ebd2e203302f3abadd20e891ed733c37480d244bcaaa12f9b121583f9", func := "loop.example/g03303/laws.FnExactSpotOf", spec := "fnExactSpotOf", apart := false }
def FnExactSpotOfSaid : Prop := fnExactSpotOfRow.holds Try.pinned (OpenSpec.ofChange fnExactSpotOfSpec)

/-- ITS FALSE NEIGHBOUR: 'it returns false'. Refute it at one input. -/
def fnExactSpotOfWrong : ChangeSpec := { name := "fnExactSpotOf", fn := fun _ => fun
  | [d1, d2, d3] => { results := [.lit (.bool false)], args := [d1, d2, d3] }
  | _ => none }
def FnExactSpotOfWrongFalsely : Prop := fnExactSpotOfRow.holds Try.pinned (OpenSpec.ofChange fnExactSpotOfWrong)

/-- 'laws.FnExactIsInRoom': WHATEVER THE INPUT: true; the input reads as it did. -/
def fnExactIsInRoomSpec : ChangeSpec := { name := "fnExactIsInRoom", fn := fun _ => fun
  | [d1, d2, d3, d4] => { results := [.lit (.bool true)], args := [d1, d2, d3, d4] }
  | _ => none }
def fnExactIsInRoomRow : OpenClaim := { program := "ytcaochbmcfefaaa", sum := "6e24ff3ebd2e203302f3abadd20e891ed733c37480d244bcaaa12f9b121583f9", func := "loop.example/g03303/laws.FnExactIsInRoom", spec := "fnExactIsInRoom", apart := false }
def FnExactIsInRoomSaid : Prop := fnExactIsInRoomRow.holds Try.pinned (OpenSpec.ofChange fnExactIsInRoomSpec)

/-- ITS FALSE NEIGHBOUR: 'it returns false'. Refute it at one input. -/
def fnExactIsInRoomWrong : ChangeSpec := { name := "fnExactIsInRoom", fn := fun _ => fun
  | [d1, d2, d3, d4] => { results := [.lit (.bool false)], args := [d1, d2, d3, d4] }
  | _ => none }
def FnExactIsInRoomWrongFalsely : Prop := fnExactIsInRoomRow.holds Try.pinned (OpenSpec.ofChange fnExactIsInRoomWrong)

/- THE SECOND FORM. 'bulk': how many values and letters a reading holds, each counted each time it is reached (what is shared counts as often as it is met; a slice's spare places count too). A statement '..UptoSaid' is the law's where the arguments, and the package variables that the reading takes, are together of bulk at most 1048576: NARROWER than '..Said'. Prove '..Said' where nothing that the law and all that it calls make is longer than what came in: it says more and counts as full. Else prove '..UptoSaid'. A law counts once. -/
mutual
def uptoBulk {H : Type} : DataW H → Nat
  | .lit (.string bytes) => bytes.length + 1
  | .lit _ => 1
  | .nil => 1
  | .ptr d => uptoBulk d + 1
  | .slice elems spare => uptoBulkAll elems + uptoBulkAll spare + 1
  | .agg parts => uptoBulkAll parts + 1
  | .iface _ d => uptoBulk d + 1
  | .map entries => uptoBulkEntries entries + 1
  | .held _ => 1
def uptoBulkAll {H : Type} : List (DataW H) → Nat
  | [] => 0
  | d :: r => uptoBulk d + uptoBulkAll r
def uptoBulkEntries {H : Type} : List (Lit × DataW H) → Nat
  | [] => 0
  | x :: r => uptoBulkEntry x + uptoBulkEntries r
def uptoBulkEntry {H : Type} : Lit × DataW H → Nat
  | (.string bytes, d) => bytes.length + uptoBulk d + 1
  | (_, d) => uptoBulk d + 1
 end
def uptoSmall : (H : Type) → List (DataW H) → Bool := fun _ ds => decide (uptoBulkAll ds ≤ 1048576)
def OpenSpec.upto (s : _root_.Go.ChangeSpec) : _root_.Go.OpenSpec := { _root_.Go.OpenSpec.ofChange s with cond := some uptoSmall }

/-- 'laws.FnExactSheetOk', WHERE WHAT IT READS IS OF BULK AT MOST 1048576: true; the input reads as it did. -/
def fnExactSheetOkUptoRow : OpenClaim := { program := "ytcaochbmcfefaaa", sum := "6e24ff3ebd2e203302f3abadd20e891ed733c37480d244bcaaa12f9b121583f9", func := "loop.example/g03303/laws.FnExactSheetOk", spec := "fnExactSheetOk", apart := false, narrowed := true }
def FnExactSheetOkUptoSaid : Prop := fnExactSheetOkUptoRow.holds Try.pinned (OpenSpec.upto fnExactSheetOkSpec)

/-- 'laws.FnExactFitsSheet', WHERE WHAT IT READS IS OF BULK AT MOST 1048576: true; the input reads as it did. -/
def fnExactFitsSheetUptoRow : OpenClaim := { program := "ytcaochbmcfefaaa", sum := "6e24ff3ebd2e203302f3abadd20e891ed733c37480d244bcaaa12f9b121583f9", func := "loop.example/g03303/laws.FnExactFitsSheet", spec := "fnExactFitsSheet", apart := false, narrowed := true }
def FnExactFitsSheetUptoSaid : Prop := fnExactFitsSheetUptoRow.holds Try.pinned (OpenSpec.upto fnExactFitsSheetSpec)

/-- 'laws.FnExactFewestCuts', WHERE WHAT IT READS IS OF BULK AT MOST 1048576: true; the input reads as it did. -/
def fnExactFewestCutsUptoRow : OpenClaim := { program := "ytcaochbmcfefaaa", sum := "6e24ff3ebd2e203302f3abadd20e891ed733c37480d244bcaaa12f9b121583f9", func := "loop.example/g03303/laws.FnExactFewestCuts", spec := "fnExactFewestCuts", apart := false, narrowed := true }
def FnExactFewestCutsUptoSaid : Prop := fnExactFewestCutsUptoRow.holds Try.pinned (OpenSpec.upto fnExactFewestCutsSpec)

/-- 'laws.FnExactMostPieces', WHERE WHAT IT READS IS OF BULK AT MOST 1048576: true; the input reads as it did. -/
def fnExactMostPiecesUptoRow : OpenClaim := { program := "ytcaochbmcfefaaa", sum := "6e24ff3ebd2e203302f3abadd20e891ed733c37480d244bcaaa12f9b121583f9", func := "loop.example/g03303/laws.FnExactMostPieces", spec := "fnExactMostPieces", apart := false, narrowed := true }
def FnExactMostPiecesUptoSaid : Prop := fnExactMostPiecesUptoRow.holds Try.pinned (OpenSpec.upto fnExactMostPiecesSpec)

/-- 'laws.FnExactFiringOk', WHERE WHAT IT READS IS OF BULK AT MOST 1048576: true; the input reads as it did. -/
def fnExactFiringOkUptoRow : OpenClaim := { program := "ytcaochbmcfefaaa", sum := "6e24ff3ebd2e203302f3abadd20e891ed733c37480d244bcaaa12f9b121583f9", func := "loop.example/g03303/laws.FnExactFiringOk", spec := "fnExactFiringOk", apart := false, narrowed := true }
def FnExactFiringOkUptoSaid : Prop := fnExactFiringOkUptoRow.holds Try.pinned (OpenSpec.upto fnExactFiringOkSpec)

/-- 'laws.FnExactCanShare', WHERE WHAT IT READS IS OF BULK AT MOST 1048576: true; the input reads as it did. -/
def fnExactCanShareUptoRow : OpenClaim := { program := "ytcaochbmcfefaaa", sum := "6e24ff3ebd2e203302f3abadd20e891ed733c37480d244bcaaa12f9b121583f9", func := "loop.example/g03303/laws.FnExactCanShare", spec := "fnExactCanShare", apart := false, narrowed := true }
def FnExactCanShareUptoSaid : Prop := fnExactCanShareUptoRow.holds Try.pinned (OpenSpec.upto fnExactCanShareSpec)

/-- 'laws.FnExactStainOk', WHERE WHAT IT READS IS OF BULK AT MOST 1048576: true; the input reads as it did. -/
def fnExactStainOkUptoRow : OpenClaim := { program := "ytcaochbmcfefaaa", sum := "6e24ff3ebd2e203302f3abadd20e891ed733c37480d244bcaaa12f9b121583f9", func := "loop.example/g03303/laws.FnExactStainOk", spec := "fnExactStainOk", apart := false, narrowed := true }
def FnExactStainOkUptoSaid : Prop := fnExactStainOkUptoRow.holds Try.pinned (OpenSpec.upto fnExactStainOkSpec)

/-- 'laws.FnExactIsDarker', WHERE WHAT IT READS IS OF BULK AT MOST 1048576: true; the input reads as it did. -/
def fnExactIsDarkerUptoRow : OpenClaim := { program := "ytcaochbmcfefaaa", sum := "6e24ff3ebd2e203302f3abadd20e891ed733c37480d244bcaaa12f9b121583f9", func := "loop.example/g03303/laws.FnExactIsDarker", spec := "fnExactIsDarker", apart := false, narrowed := true }
def FnExactIsDarkerUptoSaid : Prop := fnExactIsDarkerUptoRow.holds Try.pinned (OpenSpec.upto fnExactIsDarkerSpec)

/-- 'laws.FnExactMixStains', WHERE WHAT IT READS IS OF BULK AT MOST 1048576: true; the input reads as it did. -/
def fnExactMixStainsUptoRow : OpenClaim := { program := "ytcaochbmcfefaaa", sum := "6e24ff3ebd2e203302f3abadd20e891ed733c37480d244bcaaa12f9b121583f9", func := "loop.example/g03303/laws.FnExactMixStains", spec := "fnExactMixStains", unfollowed := true, recurses := true, apart := false, narrowed := true }
def FnExactMixStainsUptoSaid : Prop := fnExactMixStainsUptoRow.holds Try.pinned (OpenSpec.upto fnExactMixStainsSpec)

/-- 'laws.FnExactSunOk', WHERE WHAT IT READS IS OF BULK AT MOST 1048576: true; the input reads as it did. -/
def fnExactSunOkUptoRow : OpenClaim := { program := "ytcaochbmcfefaaa", sum := "6e24ff3ebd2e203302f3abadd20e891ed733c37480d244bcaaa12f9b121583f9", func := "loop.example/g03303/laws.FnExactSunOk", spec := "fnExactSunOk", apart := false, narrowed := true }
def FnExactSunOkUptoSaid : Prop := fnExactSunOkUptoRow.holds Try.pinned (OpenSpec.upto fnExactSunOkSpec)

/-- 'laws.FnExactSpotOf', WHERE WHAT IT READS IS OF BULK AT MOST 1048576: true; the input reads as it did. -/
def fnExactSpotOfUptoRow : OpenClaim := { program := "ytcaochbmcfefaaa", sum := "6e24ff3ebd2e203302f3abadd20e891ed733c37480d244bcaaa12f9b121583f9", func := "loop.example/g03303/laws.FnExactSpotOf", spec := "fnExactSpotOf", apart := false, narrowed := true }
def FnExactSpotOfUptoSaid : Prop := fnExactSpotOfUptoRow.holds Try.pinned (OpenSpec.upto fnExactSpotOfSpec)

/-- 'laws.FnExactIsInRoom', WHERE WHAT IT READS IS OF BULK AT MOST 1048576: true; the input reads as it did. -/
def fnExactIsInRoomUptoRow : OpenClaim := { program := "ytcaochbmcfefaaa", sum := "6e24ff3ebd2e203302f3abadd20e891ed733c37480d244bcaaa12f9b121583f9", func := "loop.example/g03303/laws.FnExactIsInRoom", spec := "fnExactIsInRoom", apart := false, narrowed := true }
def FnExactIsInRoomUptoSaid : Prop := fnExactIsInRoomUptoRow.holds Try.pinned (OpenSpec.upto fnExactIsInRoomSpec)

end Rows
end Go.Proofs.Ytcaochbmcfefaaa
