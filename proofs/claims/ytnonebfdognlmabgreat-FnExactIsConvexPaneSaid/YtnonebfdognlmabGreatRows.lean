/-
  No cell of these rows narrows 'for every input' (looked for: loops, veiled, ifaces, maps, wideKeys, modest, calm, conditions, laid).
  DERIVED. THE GIVEN ROWS OF THIS SEAT. 12 by the template 'for every input the law returns true; each argument reads behind the call as it read before'; 0 by the template 'total and deterministic' (their statements: YtnonebfdognlmabGreatTotals.lean).
  GIVEN WITH THE SEED: the statements are not yours to turn. If you find one false, say at which input.
  Laid BY PROGRAM, IN A SANDBOX (cutbox-rows.mjs): the forced cells as the released guide's own fill.sh prints them over the translation 8e168aeb06526753… (all of the seat's roots in one cut). By AI agents, Wed Nov 11 2026. No macro, syntax, notation, axiom, sorry.
-/
import Derived.Test.YtnonebfdognlmabGreatChecked
import GoSem.Claim
import GoSem.ClaimJoined
import GoSem.ClaimMapViews
import Derived.JoinedTies
import Derived.KernelRfl
namespace Go.Proofs.YtnonebfdognlmabGreat
/- THE CELL 'sum', in the pinned program and in every row, IS THE sha256 OF THE DUMP (.gsa) THAT YtnonebfdognlmabGreatProg.lean LOADS. Nothing in Lean hashes anything: it is a label: what it is worth is what the hold of that sum in a sandbox is worth. -/
noncomputable def Tryz.pinned : Pinned := { name := "ytnonebfdognlmabgreat", sum := "8e168aeb065267531215bbf917680b22d0116b6def36d9eacb03cbb61dd8cdb4", checked := Tryz.checked }
namespace Rows
def none {H : Type} : Left H := { results := [], args := [] }

/-- 'laws.FnExactPaneNodes': WHATEVER THE INPUT: true; the input reads as it did. -/
def fnExactPaneNodesSpec : ChangeSpec := { name := "fnExactPaneNodes", fn := fun _ => fun
  | [d1, d2] => { results := [.lit (.bool true)], args := [d1, d2] }
  | _ => none }
def fnExactPaneNodesRow : OpenClaim := { program := "ytnonebfdognlmabgreat", sum := "8e168aeb065267531215bbf917680b22d0116b6def36d9eacb03cbb61dd8cdb4", func := "loop.example/g03303/laws.FnExactPaneNodes", spec := "fnExactPaneNodes", unfollowed := true, recurses := true, apart := false }
def FnExactPaneNodesSaid : Prop := fnExactPaneNodesRow.holds Tryz.pinned (OpenSpec.ofChange fnExactPaneNodesSpec)

/-- ITS FALSE NEIGHBOUR: 'it returns false'. Refute it at one input. -/
def fnExactPaneNodesWrong : ChangeSpec := { name := "fnExactPaneNodes", fn := fun _ => fun
  | [d1, d2] => { results := [.lit (.bool false)], args := [d1, d2] }
  | _ => none }
def FnExactPaneNodesWrongFalsely : Prop := fnExactPaneNodesRow.holds Tryz.pinned (OpenSpec.ofChange fnExactPaneNodesWrong)

/-- 'laws.FnExactIsPane': WHATEVER THE INPUT: true; the input reads as it did. -/
def fnExactIsPaneSpec : ChangeSpec := { name := "fnExactIsPane", fn := fun _ => fun
  | [d1, d2] => { results := [.lit (.bool true)], args := [d1, d2] }
  | _ => none }
def fnExactIsPaneRow : OpenClaim := { program := "ytnonebfdognlmabgreat", sum := "8e168aeb065267531215bbf917680b22d0116b6def36d9eacb03cbb61dd8cdb4", func := "loop.example/g03303/laws.FnExactIsPane", spec := "fnExactIsPane", unfollowed := true, recurses := true, apart := false }
def FnExactIsPaneSaid : Prop := fnExactIsPaneRow.holds Tryz.pinned (OpenSpec.ofChange fnExactIsPaneSpec)

/-- ITS FALSE NEIGHBOUR: 'it returns false'. Refute it at one input. -/
def fnExactIsPaneWrong : ChangeSpec := { name := "fnExactIsPane", fn := fun _ => fun
  | [d1, d2] => { results := [.lit (.bool false)], args := [d1, d2] }
  | _ => none }
def FnExactIsPaneWrongFalsely : Prop := fnExactIsPaneRow.holds Tryz.pinned (OpenSpec.ofChange fnExactIsPaneWrong)

/-- 'laws.FnExactPanesOf': WHATEVER THE INPUT: true; the input reads as it did. -/
def fnExactPanesOfSpec : ChangeSpec := { name := "fnExactPanesOf", fn := fun _ => fun
  | [d] => { results := [.lit (.bool true)], args := [d] }
  | _ => none }
def fnExactPanesOfRow : OpenClaim := { program := "ytnonebfdognlmabgreat", sum := "8e168aeb065267531215bbf917680b22d0116b6def36d9eacb03cbb61dd8cdb4", func := "loop.example/g03303/laws.FnExactPanesOf", spec := "fnExactPanesOf", unfollowed := true, recurses := true, apart := false }
def FnExactPanesOfSaid : Prop := fnExactPanesOfRow.holds Tryz.pinned (OpenSpec.ofChange fnExactPanesOfSpec)

/-- ITS FALSE NEIGHBOUR: 'it returns false'. Refute it at one input. -/
def fnExactPanesOfWrong : ChangeSpec := { name := "fnExactPanesOf", fn := fun _ => fun
  | [d] => { results := [.lit (.bool false)], args := [d] }
  | _ => none }
def FnExactPanesOfWrongFalsely : Prop := fnExactPanesOfRow.holds Tryz.pinned (OpenSpec.ofChange fnExactPanesOfWrong)

/-- 'laws.FnExactIsConvexPane': WHATEVER THE INPUT: true; the input reads as it did. -/
def fnExactIsConvexPaneSpec : ChangeSpec := { name := "fnExactIsConvexPane", fn := fun _ => fun
  | [d1, d2] => { results := [.lit (.bool true)], args := [d1, d2] }
  | _ => none }
def fnExactIsConvexPaneRow : OpenClaim := { program := "ytnonebfdognlmabgreat", sum := "8e168aeb065267531215bbf917680b22d0116b6def36d9eacb03cbb61dd8cdb4", func := "loop.example/g03303/laws.FnExactIsConvexPane", spec := "fnExactIsConvexPane", unfollowed := true, recurses := true, apart := false }
def FnExactIsConvexPaneSaid : Prop := fnExactIsConvexPaneRow.holds Tryz.pinned (OpenSpec.ofChange fnExactIsConvexPaneSpec)

/-- ITS FALSE NEIGHBOUR: 'it returns false'. Refute it at one input. -/
def fnExactIsConvexPaneWrong : ChangeSpec := { name := "fnExactIsConvexPane", fn := fun _ => fun
  | [d1, d2] => { results := [.lit (.bool false)], args := [d1, d2] }
  | _ => none }
def FnExactIsConvexPaneWrongFalsely : Prop := fnExactIsConvexPaneRow.holds Tryz.pinned (OpenSpec.ofChange fnExactIsConvexPaneWrong)

/-- 'laws.FnExactCornersOf': WHATEVER THE INPUT: true; the input reads as it did. -/
def fnExactCornersOfSpec : ChangeSpec := { name := "fnExactCornersOf", fn := fun _ => fun
  | [d1, d2] => { results := [.lit (.bool true)], args := [d1, d2] }
  | _ => none }
def fnExactCornersOfRow : OpenClaim := { program := "ytnonebfdognlmabgreat", sum := "8e168aeb065267531215bbf917680b22d0116b6def36d9eacb03cbb61dd8cdb4", func := "loop.example/g03303/laws.FnExactCornersOf", spec := "fnExactCornersOf", unfollowed := true, recurses := true, apart := false }
def FnExactCornersOfSaid : Prop := fnExactCornersOfRow.holds Tryz.pinned (OpenSpec.ofChange fnExactCornersOfSpec)

/-- ITS FALSE NEIGHBOUR: 'it returns false'. Refute it at one input. -/
def fnExactCornersOfWrong : ChangeSpec := { name := "fnExactCornersOf", fn := fun _ => fun
  | [d1, d2] => { results := [.lit (.bool false)], args := [d1, d2] }
  | _ => none }
def FnExactCornersOfWrongFalsely : Prop := fnExactCornersOfRow.holds Tryz.pinned (OpenSpec.ofChange fnExactCornersOfWrong)

/-- 'laws.FnExactPaneBox': WHATEVER THE INPUT: true; the input reads as it did. -/
def fnExactPaneBoxSpec : ChangeSpec := { name := "fnExactPaneBox", fn := fun _ => fun
  | [d1, d2] => { results := [.lit (.bool true)], args := [d1, d2] }
  | _ => none }
def fnExactPaneBoxRow : OpenClaim := { program := "ytnonebfdognlmabgreat", sum := "8e168aeb065267531215bbf917680b22d0116b6def36d9eacb03cbb61dd8cdb4", func := "loop.example/g03303/laws.FnExactPaneBox", spec := "fnExactPaneBox", unfollowed := true, recurses := true, apart := false }
def FnExactPaneBoxSaid : Prop := fnExactPaneBoxRow.holds Tryz.pinned (OpenSpec.ofChange fnExactPaneBoxSpec)

/-- ITS FALSE NEIGHBOUR: 'it returns false'. Refute it at one input. -/
def fnExactPaneBoxWrong : ChangeSpec := { name := "fnExactPaneBox", fn := fun _ => fun
  | [d1, d2] => { results := [.lit (.bool false)], args := [d1, d2] }
  | _ => none }
def FnExactPaneBoxWrongFalsely : Prop := fnExactPaneBoxRow.holds Tryz.pinned (OpenSpec.ofChange fnExactPaneBoxWrong)

/-- 'laws.FnExactWidestPane': WHATEVER THE INPUT: true; the input reads as it did. -/
def fnExactWidestPaneSpec : ChangeSpec := { name := "fnExactWidestPane", fn := fun _ => fun
  | [d] => { results := [.lit (.bool true)], args := [d] }
  | _ => none }
def fnExactWidestPaneRow : OpenClaim := { program := "ytnonebfdognlmabgreat", sum := "8e168aeb065267531215bbf917680b22d0116b6def36d9eacb03cbb61dd8cdb4", func := "loop.example/g03303/laws.FnExactWidestPane", spec := "fnExactWidestPane", unfollowed := true, recurses := true, apart := false }
def FnExactWidestPaneSaid : Prop := fnExactWidestPaneRow.holds Tryz.pinned (OpenSpec.ofChange fnExactWidestPaneSpec)

/-- ITS FALSE NEIGHBOUR: 'it returns false'. Refute it at one input. -/
def fnExactWidestPaneWrong : ChangeSpec := { name := "fnExactWidestPane", fn := fun _ => fun
  | [d] => { results := [.lit (.bool false)], args := [d] }
  | _ => none }
def FnExactWidestPaneWrongFalsely : Prop := fnExactWidestPaneRow.holds Tryz.pinned (OpenSpec.ofChange fnExactWidestPaneWrong)

/-- 'laws.FnExactIsLoose': WHATEVER THE INPUT: true; the input reads as it did. -/
def fnExactIsLooseSpec : ChangeSpec := { name := "fnExactIsLoose", fn := fun _ => fun
  | [d1, d2] => { results := [.lit (.bool true)], args := [d1, d2] }
  | _ => none }
def fnExactIsLooseRow : OpenClaim := { program := "ytnonebfdognlmabgreat", sum := "8e168aeb065267531215bbf917680b22d0116b6def36d9eacb03cbb61dd8cdb4", func := "loop.example/g03303/laws.FnExactIsLoose", spec := "fnExactIsLoose", unfollowed := true, recurses := true, apart := false }
def FnExactIsLooseSaid : Prop := fnExactIsLooseRow.holds Tryz.pinned (OpenSpec.ofChange fnExactIsLooseSpec)

/-- ITS FALSE NEIGHBOUR: 'it returns false'. Refute it at one input. -/
def fnExactIsLooseWrong : ChangeSpec := { name := "fnExactIsLoose", fn := fun _ => fun
  | [d1, d2] => { results := [.lit (.bool false)], args := [d1, d2] }
  | _ => none }
def FnExactIsLooseWrongFalsely : Prop := fnExactIsLooseRow.holds Tryz.pinned (OpenSpec.ofChange fnExactIsLooseWrong)

/-- 'laws.FnExactLooseLeads': WHATEVER THE INPUT: true; the input reads as it did. -/
def fnExactLooseLeadsSpec : ChangeSpec := { name := "fnExactLooseLeads", fn := fun _ => fun
  | [d] => { results := [.lit (.bool true)], args := [d] }
  | _ => none }
def fnExactLooseLeadsRow : OpenClaim := { program := "ytnonebfdognlmabgreat", sum := "8e168aeb065267531215bbf917680b22d0116b6def36d9eacb03cbb61dd8cdb4", func := "loop.example/g03303/laws.FnExactLooseLeads", spec := "fnExactLooseLeads", unfollowed := true, recurses := true, apart := false }
def FnExactLooseLeadsSaid : Prop := fnExactLooseLeadsRow.holds Tryz.pinned (OpenSpec.ofChange fnExactLooseLeadsSpec)

/-- ITS FALSE NEIGHBOUR: 'it returns false'. Refute it at one input. -/
def fnExactLooseLeadsWrong : ChangeSpec := { name := "fnExactLooseLeads", fn := fun _ => fun
  | [d] => { results := [.lit (.bool false)], args := [d] }
  | _ => none }
def FnExactLooseLeadsWrongFalsely : Prop := fnExactLooseLeadsRow.holds Tryz.pinned (OpenSpec.ofChange fnExactLooseLeadsWrong)

/-- 'laws.FnExactIsTight': WHATEVER THE INPUT: true; the input reads as it did. -/
def fnExactIsTightSpec : ChangeSpec := { name := "fnExactIsTight", fn := fun _ => fun
  | [d] => { results := [.lit (.bool true)], args := [d] }
  | _ => none }
def fnExactIsTightRow : OpenClaim := { program := "ytnonebfdognlmabgreat", sum := "8e168aeb065267531215bbf917680b22d0116b6def36d9eacb03cbb61dd8cdb4", func := "loop.example/g03303/laws.FnExactIsTight", spec := "fnExactIsTight", unfollowed := true, recurses := true, apart := false }
def FnExactIsTightSaid : Prop := fnExactIsTightRow.holds Tryz.pinned (OpenSpec.ofChange fnExactIsTightSpec)

/-- ITS FALSE NEIGHBOUR: 'it returns false'. Refute it at one input. -/
def fnExactIsTightWrong : ChangeSpec := { name := "fnExactIsTight", fn := fun _ => fun
  | [d] => { results := [.lit (.bool false)], args := [d] }
  | _ => none }
def FnExactIsTightWrongFalsely : Prop := fnExactIsTightRow.holds Tryz.pinned (OpenSpec.ofChange fnExactIsTightWrong)

/-- 'laws.FnExactLoadOn': WHATEVER THE INPUT: true; the input reads as it did. -/
def fnExactLoadOnSpec : ChangeSpec := { name := "fnExactLoadOn", fn := fun _ => fun
  | [d1, d2, d3] => { results := [.lit (.bool true)], args := [d1, d2, d3] }
  | _ => none }
def fnExactLoadOnRow : OpenClaim := { program := "ytnonebfdognlmabgreat", sum := "8e168aeb065267531215bbf917680b22d0116b6def36d9eacb03cbb61dd8cdb4", func := "loop.example/g03303/laws.FnExactLoadOn", spec := "fnExactLoadOn", unfollowed := true, recurses := true, apart := false }
def FnExactLoadOnSaid : Prop := fnExactLoadOnRow.holds Tryz.pinned (OpenSpec.ofChange fnExactLoadOnSpec)

/-- ITS FALSE NEIGHBOUR: 'it returns false'. Refute it at one input. -/
def fnExactLoadOnWrong : ChangeSpec := { name := "fnExactLoadOn", fn := fun _ => fun
  | [d1, d2, d3] => { results := [.lit (.bool false)], args := [d1, d2, d3] }
  | _ => none }
def FnExactLoadOnWrongFalsely : Prop := fnExactLoadOnRow.holds Tryz.pinned (OpenSpec.ofChange fnExactLoadOnWrong)

/-- 'laws.FnExactBearsLoad': WHATEVER THE INPUT: true; the input reads as it did. -/
def fnExactBearsLoadSpec : ChangeSpec := { name := "fnExactBearsLoad", fn := fun _ => fun
  | [d1, d2, d3, d4] => { results := [.lit (.bool true)], args := [d1, d2, d3, d4] }
  | _ => none }
def fnExactBearsLoadRow : OpenClaim := { program := "ytnonebfdognlmabgreat", sum := "8e168aeb065267531215bbf917680b22d0116b6def36d9eacb03cbb61dd8cdb4", func := "loop.example/g03303/laws.FnExactBearsLoad", spec := "fnExactBearsLoad", unfollowed := true, recurses := true, apart := false }
def FnExactBearsLoadSaid : Prop := fnExactBearsLoadRow.holds Tryz.pinned (OpenSpec.ofChange fnExactBearsLoadSpec)

/-- ITS FALSE NEIGHBOUR: 'it returns false'. Refute it at one input. -/
def fnExactBearsLoadWrong : ChangeSpec := { name := "fnExactBearsLoad", fn := fun _ => fun
  | [d1, d2, d3, d4] => { results := [.lit (.bool false)], args := [d1, d2, d3, d4] }
  | _ => none }
def FnExactBearsLoadWrongFalsely : Prop := fnExactBearsLoadRow.holds Tryz.pinned (OpenSpec.ofChange fnExactBearsLoadWrong)

/- THE SECOND FORM. 'bulk': how many values and letters a reading holds, each counted each time it is reached (what is shared counts as often as it is met; a slice's spare places count too). A statement '..UptoSaid' is the law's where the arguments, and the package variables that the reading takes, are together of bulk at most 1048576: NARROWER than '..Said'. Prove '..Said' where nothing that the law and all that it calls make is longer than what came in: it says more and counts as full. Else prove '..UptoSaid'. A law counts once. -/
mutual
def uptoBulk {H : Type} : DataW H → Nat
  | .lit (.string bytes) => bytes.length + 1
  | .lit _ => 1
  | .nil => 1
  | .ptr d => uptoBulk d + 1
  | .slice elems spare => uptoBulkAll elems + uptoBulkAll spare + 1
  | .agg parts => uptoBulkAll parts + 1
  | .iface _ d => uptoBulk d + 1
  | .map entries => uptoBulkEntries entries + 1
  | .held _ => 1
def uptoBulkAll {H : Type} : List (DataW H) → Nat
  | [] => 0
  | d :: r => uptoBulk d + uptoBulkAll r
def uptoBulkEntries {H : Type} : List (Lit × DataW H) → Nat
  | [] => 0
  | x :: r => uptoBulkEntry x + uptoBulkEntries r
def uptoBulkEntry {H : Type} : Lit × DataW H → Nat
  | (.string bytes, d) => bytes.length + uptoBulk d + 1
  | (_, d) => uptoBulk d + 1
 end
def uptoSmall : (H : Type) → List (DataW H) → Bool := fun _ ds => decide (uptoBulkAll ds ≤ 1048576)
def OpenSpec.upto (s : _root_.Go.ChangeSpec) : _root_.Go.OpenSpec := { _root_.Go.OpenSpec.ofChange s with cond := some uptoSmall }

/-- 'laws.FnExactPaneNodes', WHERE WHAT IT READS IS OF BULK AT MOST 1048576: true; the input reads as it did. -/
def fnExactPaneNodesUptoRow : OpenClaim := { program := "ytnonebfdognlmabgreat", sum := "8e168aeb065267531215bbf917680b22d0116b6def36d9eacb03cbb61dd8cdb4", func := "loop.example/g03303/laws.FnExactPaneNodes", spec := "fnExactPaneNodes", unfollowed := true, recurses := true, apart := false, narrowed := true }
def FnExactPaneNodesUptoSaid : Prop := fnExactPaneNodesUptoRow.holds Tryz.pinned (OpenSpec.upto fnExactPaneNodesSpec)

/-- 'laws.FnExactIsPane', WHERE WHAT IT READS IS OF BULK AT MOST 1048576: true; the input reads as it did. -/
def fnExactIsPaneUptoRow : OpenClaim := { program := "ytnonebfdognlmabgreat", sum := "8e168aeb065267531215bbf917680b22d0116b6def36d9eacb03cbb61dd8cdb4", func := "loop.example/g03303/laws.FnExactIsPane", spec := "fnExactIsPane", unfollowed := true, recurses := true, apart := false, narrowed := true }
def FnExactIsPaneUptoSaid : Prop := fnExactIsPaneUptoRow.holds Tryz.pinned (OpenSpec.upto fnExactIsPaneSpec)

/-- 'laws.FnExactPanesOf', WHERE WHAT IT READS IS OF BULK AT MOST 1048576: true; the input reads as it did. -/
def fnExactPanesOfUptoRow : OpenClaim := { program := "ytnonebfdognlmabgreat", sum := "8e168aeb065267531215bbf917680b22d0116b6def36d9eacb03cbb61dd8cdb4", func := "loop.example/g03303/laws.FnExactPanesOf", spec := "fnExactPanesOf", unfollowed := true, recurses := true, apart := false, narrowed := true }
def FnExactPanesOfUptoSaid : Prop := fnExactPanesOfUptoRow.holds Tryz.pinned (OpenSpec.upto fnExactPanesOfSpec)

/-- 'laws.FnExactIsConvexPane', WHERE WHAT IT READS IS OF BULK AT MOST 1048576: true; the input reads as it did. -/
def fnExactIsConvexPaneUptoRow : OpenClaim := { program := "ytnonebfdognlmabgreat", sum := "8e168aeb065267531215bbf917680b22d0116b6def36d9eacb03cbb61dd8cdb4", func := "loop.example/g03303/laws.FnExactIsConvexPane", spec := "fnExactIsConvexPane", unfollowed := true, recurses := true, apart := false, narrowed := true }
def FnExactIsConvexPaneUptoSaid : Prop := fnExactIsConvexPaneUptoRow.holds Tryz.pinned (OpenSpec.upto fnExactIsConvexPaneSpec)

/-- 'laws.FnExactCornersOf', WHERE WHAT IT READS IS OF BULK AT MOST 1048576: true; the input reads as it did. -/
def fnExactCornersOfUptoRow : OpenClaim := { program := "ytnonebfdognlmabgreat", sum := "8e168aeb065267531215bbf917680b22d0116b6def36d9eacb03cbb61dd8cdb4", func := "loop.example/g03303/laws.FnExactCornersOf", spec := "fnExactCornersOf", unfollowed := true, recurses := true, apart := false, narrowed := true }
def FnExactCornersOfUptoSaid : Prop := fnExactCornersOfUptoRow.holds Tryz.pinned (OpenSpec.upto fnExactCornersOfSpec)

/-- 'laws.FnExactPaneBox', WHERE WHAT IT READS IS OF BULK AT MOST 1048576: true; the input reads as it did. -/
def fnExactPaneBoxUptoRow : OpenClaim := { program := "ytnonebfdognlmabgreat", sum := "8e168aeb065267531215bbf917680b22d0116b6def36d9eacb03cbb61dd8cdb4", func := "loop.example/g03303/laws.FnExactPaneBox", spec := "fnExactPaneBox", unfollowed := true, recurses := true, apart := false, narrowed := true }
def FnExactPaneBoxUptoSaid : Prop := fnExactPaneBoxUptoRow.holds Tryz.pinned (OpenSpec.upto fnExactPaneBoxSpec)

/-- 'laws.FnExactWidestPane', WHERE WHAT IT READS IS OF BULK AT MOST 1048576: true; the input reads as it did. -/
def fnExactWidestPaneUptoRow : OpenClaim := { program := "ytnonebfdognlmabgreat", sum := "8e168aeb065267531215bbf917680b22d0116b6def36d9eacb03cbb61dd8cdb4", func := "loop.example/g03303/laws.FnExactWidestPane", spec := "fnExactWidestPane", unfollowed := true, recurses := true, apart := false, narrowed := true }
def FnExactWidestPaneUptoSaid : Prop := fnExactWidestPaneUptoRow.holds Tryz.pinned (OpenSpec.upto fnExactWidestPaneSpec)

/-- 'laws.FnExactIsLoose', WHERE WHAT IT READS IS OF BULK AT MOST 1048576: true; the input reads as it did. -/
def fnExactIsLooseUptoRow : OpenClaim := { program := "ytnonebfdognlmabgreat", sum := "8e168aeb065267531215bbf917680b22d0116b6def36d9eacb03cbb61dd8cdb4", func := "loop.example/g03303/laws.FnExactIsLoose", spec := "fnExactIsLoose", unfollowed := true, recurses := true, apart := false, narrowed := true }
def FnExactIsLooseUptoSaid : Prop := fnExactIsLooseUptoRow.holds Tryz.pinned (OpenSpec.upto fnExactIsLooseSpec)

/-- 'laws.FnExactLooseLeads', WHERE WHAT IT READS IS OF BULK AT MOST 1048576: true; the input reads as it did. -/
def fnExactLooseLeadsUptoRow : OpenClaim := { program := "ytnonebfdognlmabgreat", sum := "8e168aeb065267531215bbf917680b22d0116b6def36d9eacb03cbb61dd8cdb4", func := "loop.example/g03303/laws.FnExactLooseLeads", spec := "fnExactLooseLeads", unfollowed := true, recurses := true, apart := false, narrowed := true }
def FnExactLooseLeadsUptoSaid : Prop := fnExactLooseLeadsUptoRow.holds Tryz.pinned (OpenSpec.upto fnExactLooseLeadsSpec)

/-- 'laws.FnExactIsTight', WHERE WHAT IT READS IS OF BULK AT MOST 1048576: true; the input reads as it did. -/
def fnExactIsTightUptoRow : OpenClaim := { program := "ytnonebfdognlmabgreat", sum := "8e168aeb065267531215bbf917680b22d0116b6def36d9eacb03cbb61dd8cdb4", func := "loop.example/g03303/laws.FnExactIsTight", spec := "fnExactIsTight", unfollowed := true, recurses := true, apart := false, narrowed := true }
def FnExactIsTightUptoSaid : Prop := fnExactIsTightUptoRow.holds Tryz.pinned (OpenSpec.upto fnExactIsTightSpec)

/-- 'laws.FnExactLoadOn', WHERE WHAT IT READS IS OF BULK AT MOST 1048576: true; the input reads as it did. -/
def fnExactLoadOnUptoRow : OpenClaim := { program := "ytnonebfdognlmabgreat", sum := "8e168aeb065267531215bbf917680b22d0116b6def36d9eacb03cbb61dd8cdb4", func := "loop.example/g03303/laws.FnExactLoadOn", spec := "fnExactLoadOn", unfollowed := true, recurses := true, apart := false, narrowed := true }
def FnExactLoadOnUptoSaid : Prop := fnExactLoadOnUptoRow.holds Tryz.pinned (OpenSpec.upto fnExactLoadOnSpec)

/-- 'laws.FnExactBearsLoad', WHERE WHAT IT READS IS OF BULK AT MOST 1048576: true; the input reads as it did. -/
def fnExactBearsLoadUptoRow : OpenClaim := { program := "ytnonebfdognlmabgreat", sum := "8e168aeb065267531215bbf917680b22d0116b6def36d9eacb03cbb61dd8cdb4", func := "loop.example/g03303/laws.FnExactBearsLoad", spec := "fnExactBearsLoad", unfollowed := true, recurses := true, apart := false, narrowed := true }
def FnExactBearsLoadUptoSaid : Prop := fnExactBearsLoadUptoRow.holds Tryz.pinned (OpenSpec.upto fnExactBearsLoadSpec)

end Rows
end Go.Proofs.YtnonebfdognlmabGreat
