/-
  No cell of these rows narrows 'for every input' (looked for: loops, veiled, ifaces, maps, wideKeys, modest, calm, conditions, laid).
  DERIVED. THE GIVEN ROWS OF THIS SEAT. 12 by the template 'for every input the law returns true; each argument reads behind the call as it read before'; 0 by the template 'total and deterministic' (their statements: YtghpbdgghliieacTotals.lean).
  GIVEN WITH THE SEED: the statements are not yours to turn. If you find one false, say at which input.
  Laid BY PROGRAM, IN A SANDBOX (cutbox-rows.mjs): the forced cells as the released guide's own fill.sh prints them over the translation 73de008ecc867a57… (all of the seat's roots in one cut). By AI agents, Wed Nov 11 2026. No macro, syntax, notation, axiom, sorry.
-/
import Derived.Test.YtghpbdgghliieacChecked
import GoSem.Claim
import GoSem.ClaimJoined
import GoSem.ClaimMapViews
import Derived.JoinedTies
import Derived.KernelRfl
namespace Go.Proofs.Ytghpbdgghliieac
/- THE CELL 'sum', in the pinned program and in every row, IS THE sha256 OF THE DUMP (.gsa) THAT YtghpbdgghliieacProg.lean LOADS. Nothing in Lean hashes anything: it is a label: what it is worth is what the hold of that sum in a sandbox is worth. -/
noncomputable def Try.pinned : Pinned := { name := "ytghpbdgghliieac", sum := "73de008ecc867a57f94427425c3f00ba88fa114f72490dd5c416b09b6f466362", checked := Try.checked }
namespace Rows
def none {H : Type} : Left H := { results := [], args := [] }

/-- 'laws.FnExactNextDart': WHATEVER THE INPUT: true; the input reads as it did. -/
def fnExactNextDartSpec : ChangeSpec := { name := "fnExactNextDart", fn := fun _ => fun
  | [d1, d2] => { results := [.lit (.bool true)], args := [d1, d2] }
  | _ => none }
def fnExactNextDartRow : OpenClaim := { program := "ytghpbdgghliieac", sum := "73de008ecc867a57f94427425c3f00ba88fa114f72490dd5c416b09b6f466362", func := "loop.example/g03303/laws.FnExactNextDart", spec := "fnExactNextDart", unfollowed := true, recurses := true, apart := false }
def FnExactNextDartSaid : Prop := fnExactNextDartRow.holds Try.pinned (OpenSpec.ofChange fnExactNextDartSpec)

/-- ITS FALSE NEIGHBOUR: 'it returns false'. Refute it at one input. -/
def fnExactNextDartWrong : ChangeSpec := { name := "fnExactNextDart", fn := fun _ => fun
  | [d1, d2] => { results := [.lit (.bool false)], args := [d1, d2] }
  | _ => none }
def FnExactNextDartWrongFalsely : Prop := fnExactNextDartRow.holds Try.pinned (OpenSpec.ofChange fnExactNextDartWrong)

/-- 'laws.FnExactWalkOf': WHATEVER THE INPUT: true; the input reads as it did. -/
def fnExactWalkOfSpec : ChangeSpec := { name := "fnExactWalkOf", fn := fun _ => fun
  | [d1, d2] => { results := [.lit (.bool true)], args := [d1, d2] }
  | _ => none }
def fnExactWalkOfRow : OpenClaim := { program := "ytghpbdgghliieac", sum := "73de008ecc867a57f94427425c3f00ba88fa114f72490dd5c416b09b6f466362", func := "loop.example/g03303/laws.FnExactWalkOf", spec := "fnExactWalkOf", unfollowed := true, recurses := true, apart := false }
def FnExactWalkOfSaid : Prop := fnExactWalkOfRow.holds Try.pinned (OpenSpec.ofChange fnExactWalkOfSpec)

/-- ITS FALSE NEIGHBOUR: 'it returns false'. Refute it at one input. -/
def fnExactWalkOfWrong : ChangeSpec := { name := "fnExactWalkOf", fn := fun _ => fun
  | [d1, d2] => { results := [.lit (.bool false)], args := [d1, d2] }
  | _ => none }
def FnExactWalkOfWrongFalsely : Prop := fnExactWalkOfRow.holds Try.pinned (OpenSpec.ofChange fnExactWalkOfWrong)

/-- 'laws.FnExactWalkArea': WHATEVER THE INPUT: true; the input reads as it did. -/
def fnExactWalkAreaSpec : ChangeSpec := { name := "fnExactWalkArea", fn := fun _ => fun
  | [d1, d2] => { results := [.lit (.bool true)], args := [d1, d2] }
  | _ => none }
def fnExactWalkAreaRow : OpenClaim := { program := "ytghpbdgghliieac", sum := "73de008ecc867a57f94427425c3f00ba88fa114f72490dd5c416b09b6f466362", func := "loop.example/g03303/laws.FnExactWalkArea", spec := "fnExactWalkArea", unfollowed := true, recurses := true, apart := false }
def FnExactWalkAreaSaid : Prop := fnExactWalkAreaRow.holds Try.pinned (OpenSpec.ofChange fnExactWalkAreaSpec)

/-- ITS FALSE NEIGHBOUR: 'it returns false'. Refute it at one input. -/
def fnExactWalkAreaWrong : ChangeSpec := { name := "fnExactWalkArea", fn := fun _ => fun
  | [d1, d2] => { results := [.lit (.bool false)], args := [d1, d2] }
  | _ => none }
def FnExactWalkAreaWrongFalsely : Prop := fnExactWalkAreaRow.holds Try.pinned (OpenSpec.ofChange fnExactWalkAreaWrong)

/-- 'laws.FnExactSameWalk': WHATEVER THE INPUT: true; the input reads as it did. -/
def fnExactSameWalkSpec : ChangeSpec := { name := "fnExactSameWalk", fn := fun _ => fun
  | [d1, d2, d3] => { results := [.lit (.bool true)], args := [d1, d2, d3] }
  | _ => none }
def fnExactSameWalkRow : OpenClaim := { program := "ytghpbdgghliieac", sum := "73de008ecc867a57f94427425c3f00ba88fa114f72490dd5c416b09b6f466362", func := "loop.example/g03303/laws.FnExactSameWalk", spec := "fnExactSameWalk", unfollowed := true, recurses := true, apart := false }
def FnExactSameWalkSaid : Prop := fnExactSameWalkRow.holds Try.pinned (OpenSpec.ofChange fnExactSameWalkSpec)

/-- ITS FALSE NEIGHBOUR: 'it returns false'. Refute it at one input. -/
def fnExactSameWalkWrong : ChangeSpec := { name := "fnExactSameWalk", fn := fun _ => fun
  | [d1, d2, d3] => { results := [.lit (.bool false)], args := [d1, d2, d3] }
  | _ => none }
def FnExactSameWalkWrongFalsely : Prop := fnExactSameWalkRow.holds Try.pinned (OpenSpec.ofChange fnExactSameWalkWrong)

/-- 'laws.FnExactWalkLength': WHATEVER THE INPUT: true; the input reads as it did. -/
def fnExactWalkLengthSpec : ChangeSpec := { name := "fnExactWalkLength", fn := fun _ => fun
  | [d1, d2] => { results := [.lit (.bool true)], args := [d1, d2] }
  | _ => none }
def fnExactWalkLengthRow : OpenClaim := { program := "ytghpbdgghliieac", sum := "73de008ecc867a57f94427425c3f00ba88fa114f72490dd5c416b09b6f466362", func := "loop.example/g03303/laws.FnExactWalkLength", spec := "fnExactWalkLength", unfollowed := true, recurses := true, apart := false }
def FnExactWalkLengthSaid : Prop := fnExactWalkLengthRow.holds Try.pinned (OpenSpec.ofChange fnExactWalkLengthSpec)

/-- ITS FALSE NEIGHBOUR: 'it returns false'. Refute it at one input. -/
def fnExactWalkLengthWrong : ChangeSpec := { name := "fnExactWalkLength", fn := fun _ => fun
  | [d1, d2] => { results := [.lit (.bool false)], args := [d1, d2] }
  | _ => none }
def FnExactWalkLengthWrongFalsely : Prop := fnExactWalkLengthRow.holds Try.pinned (OpenSpec.ofChange fnExactWalkLengthWrong)

/-- 'laws.FnExactFlawedOk': WHATEVER THE INPUT: true; the input reads as it did. -/
def fnExactFlawedOkSpec : ChangeSpec := { name := "fnExactFlawedOk", fn := fun _ => fun
  | [d] => { results := [.lit (.bool true)], args := [d] }
  | _ => none }
def fnExactFlawedOkRow : OpenClaim := { program := "ytghpbdgghliieac", sum := "73de008ecc867a57f94427425c3f00ba88fa114f72490dd5c416b09b6f466362", func := "loop.example/g03303/laws.FnExactFlawedOk", spec := "fnExactFlawedOk", apart := false }
def FnExactFlawedOkSaid : Prop := fnExactFlawedOkRow.holds Try.pinned (OpenSpec.ofChange fnExactFlawedOkSpec)

/-- ITS FALSE NEIGHBOUR: 'it returns false'. Refute it at one input. -/
def fnExactFlawedOkWrong : ChangeSpec := { name := "fnExactFlawedOk", fn := fun _ => fun
  | [d] => { results := [.lit (.bool false)], args := [d] }
  | _ => none }
def FnExactFlawedOkWrongFalsely : Prop := fnExactFlawedOkRow.holds Try.pinned (OpenSpec.ofChange fnExactFlawedOkWrong)

/-- 'laws.FnExactIsClear': WHATEVER THE INPUT: true; the input reads as it did. -/
def fnExactIsClearSpec : ChangeSpec := { name := "fnExactIsClear", fn := fun _ => fun
  | [d1, d2, d3] => { results := [.lit (.bool true)], args := [d1, d2, d3] }
  | _ => none }
def fnExactIsClearRow : OpenClaim := { program := "ytghpbdgghliieac", sum := "73de008ecc867a57f94427425c3f00ba88fa114f72490dd5c416b09b6f466362", func := "loop.example/g03303/laws.FnExactIsClear", spec := "fnExactIsClear", unfollowed := true, recurses := true, apart := false }
def FnExactIsClearSaid : Prop := fnExactIsClearRow.holds Try.pinned (OpenSpec.ofChange fnExactIsClearSpec)

/-- ITS FALSE NEIGHBOUR: 'it returns false'. Refute it at one input. -/
def fnExactIsClearWrong : ChangeSpec := { name := "fnExactIsClear", fn := fun _ => fun
  | [d1, d2, d3] => { results := [.lit (.bool false)], args := [d1, d2, d3] }
  | _ => none }
def FnExactIsClearWrongFalsely : Prop := fnExactIsClearRow.holds Try.pinned (OpenSpec.ofChange fnExactIsClearWrong)

/-- 'laws.FnExactCountSpots': WHATEVER THE INPUT: true; the input reads as it did. -/
def fnExactCountSpotsSpec : ChangeSpec := { name := "fnExactCountSpots", fn := fun _ => fun
  | [d1, d2, d3] => { results := [.lit (.bool true)], args := [d1, d2, d3] }
  | _ => none }
def fnExactCountSpotsRow : OpenClaim := { program := "ytghpbdgghliieac", sum := "73de008ecc867a57f94427425c3f00ba88fa114f72490dd5c416b09b6f466362", func := "loop.example/g03303/laws.FnExactCountSpots", spec := "fnExactCountSpots", apart := false }
def FnExactCountSpotsSaid : Prop := fnExactCountSpotsRow.holds Try.pinned (OpenSpec.ofChange fnExactCountSpotsSpec)

/-- ITS FALSE NEIGHBOUR: 'it returns false'. Refute it at one input. -/
def fnExactCountSpotsWrong : ChangeSpec := { name := "fnExactCountSpots", fn := fun _ => fun
  | [d1, d2, d3] => { results := [.lit (.bool false)], args := [d1, d2, d3] }
  | _ => none }
def FnExactCountSpotsWrongFalsely : Prop := fnExactCountSpotsRow.holds Try.pinned (OpenSpec.ofChange fnExactCountSpotsWrong)

/-- 'laws.FnExactFirstClear': WHATEVER THE INPUT: true; the input reads as it did. -/
def fnExactFirstClearSpec : ChangeSpec := { name := "fnExactFirstClear", fn := fun _ => fun
  | [d1, d2] => { results := [.lit (.bool true)], args := [d1, d2] }
  | _ => none }
def fnExactFirstClearRow : OpenClaim := { program := "ytghpbdgghliieac", sum := "73de008ecc867a57f94427425c3f00ba88fa114f72490dd5c416b09b6f466362", func := "loop.example/g03303/laws.FnExactFirstClear", spec := "fnExactFirstClear", unfollowed := true, recurses := true, apart := false }
def FnExactFirstClearSaid : Prop := fnExactFirstClearRow.holds Try.pinned (OpenSpec.ofChange fnExactFirstClearSpec)

/-- ITS FALSE NEIGHBOUR: 'it returns false'. Refute it at one input. -/
def fnExactFirstClearWrong : ChangeSpec := { name := "fnExactFirstClear", fn := fun _ => fun
  | [d1, d2] => { results := [.lit (.bool false)], args := [d1, d2] }
  | _ => none }
def FnExactFirstClearWrongFalsely : Prop := fnExactFirstClearRow.holds Try.pinned (OpenSpec.ofChange fnExactFirstClearWrong)

/-- 'laws.FnExactSameShape': WHATEVER THE INPUT: true; the input reads as it did. -/
def fnExactSameShapeSpec : ChangeSpec := { name := "fnExactSameShape", fn := fun _ => fun
  | [d1, d2] => { results := [.lit (.bool true)], args := [d1, d2] }
  | _ => none }
def fnExactSameShapeRow : OpenClaim := { program := "ytghpbdgghliieac", sum := "73de008ecc867a57f94427425c3f00ba88fa114f72490dd5c416b09b6f466362", func := "loop.example/g03303/laws.FnExactSameShape", spec := "fnExactSameShape", apart := false }
def FnExactSameShapeSaid : Prop := fnExactSameShapeRow.holds Try.pinned (OpenSpec.ofChange fnExactSameShapeSpec)

/-- ITS FALSE NEIGHBOUR: 'it returns false'. Refute it at one input. -/
def fnExactSameShapeWrong : ChangeSpec := { name := "fnExactSameShape", fn := fun _ => fun
  | [d1, d2] => { results := [.lit (.bool false)], args := [d1, d2] }
  | _ => none }
def FnExactSameShapeWrongFalsely : Prop := fnExactSameShapeRow.holds Try.pinned (OpenSpec.ofChange fnExactSameShapeWrong)

/-- 'laws.FnExactBarsOk': WHATEVER THE INPUT: true; the input reads as it did. -/
def fnExactBarsOkSpec : ChangeSpec := { name := "fnExactBarsOk", fn := fun _ => fun
  | [d] => { results := [.lit (.bool true)], args := [d] }
  | _ => none }
def fnExactBarsOkRow : OpenClaim := { program := "ytghpbdgghliieac", sum := "73de008ecc867a57f94427425c3f00ba88fa114f72490dd5c416b09b6f466362", func := "loop.example/g03303/laws.FnExactBarsOk", spec := "fnExactBarsOk", apart := false }
def FnExactBarsOkSaid : Prop := fnExactBarsOkRow.holds Try.pinned (OpenSpec.ofChange fnExactBarsOkSpec)

/-- ITS FALSE NEIGHBOUR: 'it returns false'. Refute it at one input. -/
def fnExactBarsOkWrong : ChangeSpec := { name := "fnExactBarsOk", fn := fun _ => fun
  | [d] => { results := [.lit (.bool false)], args := [d] }
  | _ => none }
def FnExactBarsOkWrongFalsely : Prop := fnExactBarsOkRow.holds Try.pinned (OpenSpec.ofChange fnExactBarsOkWrong)

/-- 'laws.FnExactCrossedBy': WHATEVER THE INPUT: true; the input reads as it did. -/
def fnExactCrossedBySpec : ChangeSpec := { name := "fnExactCrossedBy", fn := fun _ => fun
  | [d1, d2, d3] => { results := [.lit (.bool true)], args := [d1, d2, d3] }
  | _ => none }
def fnExactCrossedByRow : OpenClaim := { program := "ytghpbdgghliieac", sum := "73de008ecc867a57f94427425c3f00ba88fa114f72490dd5c416b09b6f466362", func := "loop.example/g03303/laws.FnExactCrossedBy", spec := "fnExactCrossedBy", apart := false }
def FnExactCrossedBySaid : Prop := fnExactCrossedByRow.holds Try.pinned (OpenSpec.ofChange fnExactCrossedBySpec)

/-- ITS FALSE NEIGHBOUR: 'it returns false'. Refute it at one input. -/
def fnExactCrossedByWrong : ChangeSpec := { name := "fnExactCrossedBy", fn := fun _ => fun
  | [d1, d2, d3] => { results := [.lit (.bool false)], args := [d1, d2, d3] }
  | _ => none }
def FnExactCrossedByWrongFalsely : Prop := fnExactCrossedByRow.holds Try.pinned (OpenSpec.ofChange fnExactCrossedByWrong)

/- THE SECOND FORM. 'bulk': how many values and letters a reading holds, each counted each time it is reached (what is shared counts as often as it is met; a slice's spare places count too). A statement '..UptoSaid' is the law's where the arguments, and the package variables that the reading takes, are together of bulk at most 1048576: NARROWER than '..Said'. Prove '..Said' where nothing that the law and all that it calls make is longer than what came in: it says more and counts as full. Else prove '..UptoSaid'. A law counts once. -/
mutual
def uptoBulk {H : Type} : DataW H → Nat
  | .lit (.string bytes) => bytes.length + 1
  | .lit _ => 1
  | .nil => 1
  | .ptr d => uptoBulk d + 1
  | .slice elems spare => uptoBulkAll elems + uptoBulkAll spare + 1
  | .agg parts => uptoBulkAll parts + 1
  | .iface _ d => uptoBulk d + 1
  | .map entries => uptoBulkEntries entries + 1
  | .held _ => 1
def uptoBulkAll {H : Type} : List (DataW H) → Nat
  | [] => 0
  | d :: r => uptoBulk d + uptoBulkAll r
def uptoBulkEntries {H : Type} : List (Lit × DataW H) → Nat
  | [] => 0
  | x :: r => uptoBulkEntry x + uptoBulkEntries r
def uptoBulkEntry {H : Type} : Lit × DataW H → Nat
  | (.string bytes, d) => bytes.length + uptoBulk d + 1
  | (_, d) => uptoBulk d + 1
 end
def uptoSmall : (H : Type) → List (DataW H) → Bool := fun _ ds => decide (uptoBulkAll ds ≤ 1048576)
def OpenSpec.upto (s : _root_.Go.ChangeSpec) : _root_.Go.OpenSpec := { _root_.Go.OpenSpec.ofChange s with cond := some uptoSmall }

/-- 'laws.FnExactNextDart', WHERE WHAT IT READS IS OF BULK AT MOST 1048576: true; the input reads as it did. -/
def fnExactNextDartUptoRow : OpenClaim := { program := "ytghpbdgghliieac", sum := "73de008ecc867a57f94427425c3f00ba88fa114f72490dd5c416b09b6f466362", func := "loop.example/g03303/laws.FnExactNextDart", spec := "fnExactNextDart", unfollowed := true, recurses := true, apart := false, narrowed := true }
def FnExactNextDartUptoSaid : Prop := fnExactNextDartUptoRow.holds Try.pinned (OpenSpec.upto fnExactNextDartSpec)

/-- 'laws.FnExactWalkOf', WHERE WHAT IT READS IS OF BULK AT MOST 1048576: true; the input reads as it did. -/
def fnExactWalkOfUptoRow : OpenClaim := { program := "ytghpbdgghliieac", sum := "73de008ecc867a57f94427425c3f00ba88fa114f72490dd5c416b09b6f466362", func := "loop.example/g03303/laws.FnExactWalkOf", spec := "fnExactWalkOf", unfollowed := true, recurses := true, apart := false, narrowed := true }
def FnExactWalkOfUptoSaid : Prop := fnExactWalkOfUptoRow.holds Try.pinned (OpenSpec.upto fnExactWalkOfSpec)

/-- 'laws.FnExactWalkArea', WHERE WHAT IT READS IS OF BULK AT MOST 1048576: true; the input reads as it did. -/
def fnExactWalkAreaUptoRow : OpenClaim := { program := "ytghpbdgghliieac", sum := "73de008ecc867a57f94427425c3f00ba88fa114f72490dd5c416b09b6f466362", func := "loop.example/g03303/laws.FnExactWalkArea", spec := "fnExactWalkArea", unfollowed := true, recurses := true, apart := false, narrowed := true }
def FnExactWalkAreaUptoSaid : Prop := fnExactWalkAreaUptoRow.holds Try.pinned (OpenSpec.upto fnExactWalkAreaSpec)

/-- 'laws.FnExactSameWalk', WHERE WHAT IT READS IS OF BULK AT MOST 1048576: true; the input reads as it did. -/
def fnExactSameWalkUptoRow : OpenClaim := { program := "ytghpbdgghliieac", sum := "73de008ecc867a57f94427425c3f00ba88fa114f72490dd5c416b09b6f466362", func := "loop.example/g03303/laws.FnExactSameWalk", spec := "fnExactSameWalk", unfollowed := true, recurses := true, apart := false, narrowed := true }
def FnExactSameWalkUptoSaid : Prop := fnExactSameWalkUptoRow.holds Try.pinned (OpenSpec.upto fnExactSameWalkSpec)

/-- 'laws.FnExactWalkLength', WHERE WHAT IT READS IS OF BULK AT MOST 1048576: true; the input reads as it did. -/
def fnExactWalkLengthUptoRow : OpenClaim := { program := "ytghpbdgghliieac", sum := "73de008ecc867a57f94427425c3f00ba88fa114f72490dd5c416b09b6f466362", func := "loop.example/g03303/laws.FnExactWalkLength", spec := "fnExactWalkLength", unfollowed := true, recurses := true, apart := false, narrowed := true }
def FnExactWalkLengthUptoSaid : Prop := fnExactWalkLengthUptoRow.holds Try.pinned (OpenSpec.upto fnExactWalkLengthSpec)

/-- 'laws.FnExactFlawedOk', WHERE WHAT IT READS IS OF BULK AT MOST 1048576: true; the input reads as it did. -/
def fnExactFlawedOkUptoRow : OpenClaim := { program := "ytghpbdgghliieac", sum := "73de008ecc867a57f94427425c3f00ba88fa114f72490dd5c416b09b6f466362", func := "loop.example/g03303/laws.FnExactFlawedOk", spec := "fnExactFlawedOk", apart := false, narrowed := true }
def FnExactFlawedOkUptoSaid : Prop := fnExactFlawedOkUptoRow.holds Try.pinned (OpenSpec.upto fnExactFlawedOkSpec)

/-- 'laws.FnExactIsClear', WHERE WHAT IT READS IS OF BULK AT MOST 1048576: true; the input reads as it did. -/
def fnExactIsClearUptoRow : OpenClaim := { program := "ytghpbdgghliieac", sum := "73de008ecc867a57f94427425c3f00ba88fa114f72490dd5c416b09b6f466362", func := "loop.example/g03303/laws.FnExactIsClear", spec := "fnExactIsClear", unfollowed := true, recurses := true, apart := false, narrowed := true }
def FnExactIsClearUptoSaid : Prop := fnExactIsClearUptoRow.holds Try.pinned (OpenSpec.upto fnExactIsClearSpec)

/-- 'laws.FnExactCountSpots', WHERE WHAT IT READS IS OF BULK AT MOST 1048576: true; the input reads as it did. -/
def fnExactCountSpotsUptoRow : OpenClaim := { program := "ytghpbdgghliieac", sum := "73de008ecc867a57f94427425c3f00ba88fa114f72490dd5c416b09b6f466362", func := "loop.example/g03303/laws.FnExactCountSpots", spec := "fnExactCountSpots", apart := false, narrowed := true }
def FnExactCountSpotsUptoSaid : Prop := fnExactCountSpotsUptoRow.holds Try.pinned (OpenSpec.upto fnExactCountSpotsSpec)

/-- 'laws.FnExactFirstClear', WHERE WHAT IT READS IS OF BULK AT MOST 1048576: true; the input reads as it did. -/
def fnExactFirstClearUptoRow : OpenClaim := { program := "ytghpbdgghliieac", sum := "73de008ecc867a57f94427425c3f00ba88fa114f72490dd5c416b09b6f466362", func := "loop.example/g03303/laws.FnExactFirstClear", spec := "fnExactFirstClear", unfollowed := true, recurses := true, apart := false, narrowed := true }
def FnExactFirstClearUptoSaid : Prop := fnExactFirstClearUptoRow.holds Try.pinned (OpenSpec.upto fnExactFirstClearSpec)

/-- 'laws.FnExactSameShape', WHERE WHAT IT READS IS OF BULK AT MOST 1048576: true; the input reads as it did. -/
def fnExactSameShapeUptoRow : OpenClaim := { program := "ytghpbdgghliieac", sum := "73de008ecc867a57f94427425c3f00ba88fa114f72490dd5c416b09b6f466362", func := "loop.example/g03303/laws.FnExactSameShape", spec := "fnExactSameShape", apart := false, narrowed := true }
def FnExactSameShapeUptoSaid : Prop := fnExactSameShapeUptoRow.holds Try.pinned (OpenSpec.upto fnExactSameShapeSpec)

/-- 'laws.FnExactBarsOk', WHERE WHAT IT READS IS OF BULK AT MOST 1048576: true; the input reads as it did. -/
def fnExactBarsOkUptoRow : OpenClaim := { program := "ytghpbdgghliieac", sum := "73de008ecc867a57f94427425c3f00ba88fa114f72490dd5c416b09b6f466362", func := "loop.example/g03303/laws.FnExactBarsOk", spec := "fnExactBarsOk", apart := false, narrowed := true }
def FnExactBarsOkUptoSaid : Prop := fnExactBarsOkUptoRow.holds Try.pinned (OpenSpec.upto fnExactBarsOkSpec)

/-- 'laws.FnExactCrossedBy', WHERE WHAT IT READS IS OF BULK AT MOST 1048576: true; the input reads as it did. -/
def fnExactCrossedByUptoRow : OpenClaim := { program := "ytghpbdgghliieac", sum := "73de008ecc867a57f94427425c3f00ba88fa114f72490dd5c416b09b6f466362", func := "loop.example/g03303/laws.FnExactCrossedBy", spec := "fnExactCrossedBy", apart := false, narrowed := true }
def FnExactCrossedByUptoSaid : Prop := fnExactCrossedByUptoRow.holds Try.pinned (OpenSpec.upto fnExactCrossedBySpec)

end Rows
end Go.Proofs.Ytghpbdgghliieac
