/-
  No cell of these rows narrows 'for every input' (looked for: loops, veiled, ifaces, maps, wideKeys, modest, calm, conditions, laid).
  DERIVED. THE GIVEN ROWS OF THIS SEAT. 12 by the template 'for every input the law returns true; each argument reads behind the call as it read before'; 0 by the template 'total and deterministic' (their statements: YtemblmcfbonjoaaTotals.lean).
  GIVEN WITH THE SEED: the statements are not yours to turn. If you find one false, say at which input.
  Laid BY PROGRAM, IN A SANDBOX (cutbox-rows.mjs): the forced cells as the released guide's own fill.sh prints them over the translation d0f3cea5e9e569c4… (all of the seat's roots in one cut). By AI agents, Wed Nov 11 2026. No macro, syntax, notation, axiom, sorry.
-/
import Derived.Test.YtemblmcfbonjoaaChecked
import GoSem.Claim
import GoSem.ClaimJoined
import GoSem.ClaimMapViews
import Derived.JoinedTies
import Derived.KernelRfl
namespace Go.Proofs.Ytemblmcfbonjoaa
/- THE CELL 'sum', in the pinned program and in every row, IS THE sha256 OF THE DUMP (.gsa) THAT YtemblmcfbonjoaaProg.lean LOADS. Nothing in Lean hashes anything: it is a label: what it is worth is what the hold of that sum in a sandbox is worth. -/
noncomputable def Try.pinned : Pinned := { name := "ytemblmcfbonjoaa", sum := "d0f3cea5e9e569c4933c5445da5d1a0da9b270b91a1a78c9d06c346bbc562617", checked := Try.checked }
namespace Rows
def none {H : Type} : Left H := { results := [], args := [] }

/-- 'laws.FnNodes': WHATEVER THE INPUT: true; the input reads as it did. -/
def fnNodesSpec : ChangeSpec := { name := "fnNodes", fn := fun _ => fun
  | [d] => { results := [.lit (.bool true)], args := [d] }
  | _ => none }
def fnNodesRow : OpenClaim := { program := "ytemblmcfbonjoaa", sum := "d0f3cea5e9e569c4933c5445da5d1a0da9b270b91a1a78c9d06c346bbc562617", func := "loop.example/g03303/laws.FnNodes", spec := "fnNodes", apart := false }
def FnNodesSaid : Prop := fnNodesRow.holds Try.pinned (OpenSpec.ofChange fnNodesSpec)

/-- ITS FALSE NEIGHBOUR: 'it returns false'. Refute it at one input. -/
def fnNodesWrong : ChangeSpec := { name := "fnNodes", fn := fun _ => fun
  | [d] => { results := [.lit (.bool false)], args := [d] }
  | _ => none }
def FnNodesWrongFalsely : Prop := fnNodesRow.holds Try.pinned (OpenSpec.ofChange fnNodesWrong)

/-- 'laws.FnLeads': WHATEVER THE INPUT: true; the input reads as it did. -/
def fnLeadsSpec : ChangeSpec := { name := "fnLeads", fn := fun _ => fun
  | [d] => { results := [.lit (.bool true)], args := [d] }
  | _ => none }
def fnLeadsRow : OpenClaim := { program := "ytemblmcfbonjoaa", sum := "d0f3cea5e9e569c4933c5445da5d1a0da9b270b91a1a78c9d06c346bbc562617", func := "loop.example/g03303/laws.FnLeads", spec := "fnLeads", apart := false }
def FnLeadsSaid : Prop := fnLeadsRow.holds Try.pinned (OpenSpec.ofChange fnLeadsSpec)

/-- ITS FALSE NEIGHBOUR: 'it returns false'. Refute it at one input. -/
def fnLeadsWrong : ChangeSpec := { name := "fnLeads", fn := fun _ => fun
  | [d] => { results := [.lit (.bool false)], args := [d] }
  | _ => none }
def FnLeadsWrongFalsely : Prop := fnLeadsRow.holds Try.pinned (OpenSpec.ofChange fnLeadsWrong)

/-- 'laws.FnWindows': WHATEVER THE INPUT: true; the input reads as it did. -/
def fnWindowsSpec : ChangeSpec := { name := "fnWindows", fn := fun _ => fun
  | [d] => { results := [.lit (.bool true)], args := [d] }
  | _ => none }
def fnWindowsRow : OpenClaim := { program := "ytemblmcfbonjoaa", sum := "d0f3cea5e9e569c4933c5445da5d1a0da9b270b91a1a78c9d06c346bbc562617", func := "loop.example/g03303/laws.FnWindows", spec := "fnWindows", apart := false }
def FnWindowsSaid : Prop := fnWindowsRow.holds Try.pinned (OpenSpec.ofChange fnWindowsSpec)

/-- ITS FALSE NEIGHBOUR: 'it returns false'. Refute it at one input. -/
def fnWindowsWrong : ChangeSpec := { name := "fnWindows", fn := fun _ => fun
  | [d] => { results := [.lit (.bool false)], args := [d] }
  | _ => none }
def FnWindowsWrongFalsely : Prop := fnWindowsRow.holds Try.pinned (OpenSpec.ofChange fnWindowsWrong)

/-- 'laws.FnExactNodeOk': WHATEVER THE INPUT: true; the input reads as it did. -/
def fnExactNodeOkSpec : ChangeSpec := { name := "fnExactNodeOk", fn := fun _ => fun
  | [d] => { results := [.lit (.bool true)], args := [d] }
  | _ => none }
def fnExactNodeOkRow : OpenClaim := { program := "ytemblmcfbonjoaa", sum := "d0f3cea5e9e569c4933c5445da5d1a0da9b270b91a1a78c9d06c346bbc562617", func := "loop.example/g03303/laws.FnExactNodeOk", spec := "fnExactNodeOk", apart := false }
def FnExactNodeOkSaid : Prop := fnExactNodeOkRow.holds Try.pinned (OpenSpec.ofChange fnExactNodeOkSpec)

/-- ITS FALSE NEIGHBOUR: 'it returns false'. Refute it at one input. -/
def fnExactNodeOkWrong : ChangeSpec := { name := "fnExactNodeOk", fn := fun _ => fun
  | [d] => { results := [.lit (.bool false)], args := [d] }
  | _ => none }
def FnExactNodeOkWrongFalsely : Prop := fnExactNodeOkRow.holds Try.pinned (OpenSpec.ofChange fnExactNodeOkWrong)

/-- 'laws.FnExactTurnOf': WHATEVER THE INPUT: true; the input reads as it did. -/
def fnExactTurnOfSpec : ChangeSpec := { name := "fnExactTurnOf", fn := fun _ => fun
  | [d1, d2, d3] => { results := [.lit (.bool true)], args := [d1, d2, d3] }
  | _ => none }
def fnExactTurnOfRow : OpenClaim := { program := "ytemblmcfbonjoaa", sum := "d0f3cea5e9e569c4933c5445da5d1a0da9b270b91a1a78c9d06c346bbc562617", func := "loop.example/g03303/laws.FnExactTurnOf", spec := "fnExactTurnOf", apart := false }
def FnExactTurnOfSaid : Prop := fnExactTurnOfRow.holds Try.pinned (OpenSpec.ofChange fnExactTurnOfSpec)

/-- ITS FALSE NEIGHBOUR: 'it returns false'. Refute it at one input. -/
def fnExactTurnOfWrong : ChangeSpec := { name := "fnExactTurnOf", fn := fun _ => fun
  | [d1, d2, d3] => { results := [.lit (.bool false)], args := [d1, d2, d3] }
  | _ => none }
def FnExactTurnOfWrongFalsely : Prop := fnExactTurnOfRow.holds Try.pinned (OpenSpec.ofChange fnExactTurnOfWrong)

/-- 'laws.FnExactIsBetween': WHATEVER THE INPUT: true; the input reads as it did. -/
def fnExactIsBetweenSpec : ChangeSpec := { name := "fnExactIsBetween", fn := fun _ => fun
  | [d1, d2, d3] => { results := [.lit (.bool true)], args := [d1, d2, d3] }
  | _ => none }
def fnExactIsBetweenRow : OpenClaim := { program := "ytemblmcfbonjoaa", sum := "d0f3cea5e9e569c4933c5445da5d1a0da9b270b91a1a78c9d06c346bbc562617", func := "loop.example/g03303/laws.FnExactIsBetween", spec := "fnExactIsBetween", apart := false }
def FnExactIsBetweenSaid : Prop := fnExactIsBetweenRow.holds Try.pinned (OpenSpec.ofChange fnExactIsBetweenSpec)

/-- ITS FALSE NEIGHBOUR: 'it returns false'. Refute it at one input. -/
def fnExactIsBetweenWrong : ChangeSpec := { name := "fnExactIsBetween", fn := fun _ => fun
  | [d1, d2, d3] => { results := [.lit (.bool false)], args := [d1, d2, d3] }
  | _ => none }
def FnExactIsBetweenWrongFalsely : Prop := fnExactIsBetweenRow.holds Try.pinned (OpenSpec.ofChange fnExactIsBetweenWrong)

/-- 'laws.FnExactLengthSquare': WHATEVER THE INPUT: true; the input reads as it did. -/
def fnExactLengthSquareSpec : ChangeSpec := { name := "fnExactLengthSquare", fn := fun _ => fun
  | [d1, d2] => { results := [.lit (.bool true)], args := [d1, d2] }
  | _ => none }
def fnExactLengthSquareRow : OpenClaim := { program := "ytemblmcfbonjoaa", sum := "d0f3cea5e9e569c4933c5445da5d1a0da9b270b91a1a78c9d06c346bbc562617", func := "loop.example/g03303/laws.FnExactLengthSquare", spec := "fnExactLengthSquare", apart := false }
def FnExactLengthSquareSaid : Prop := fnExactLengthSquareRow.holds Try.pinned (OpenSpec.ofChange fnExactLengthSquareSpec)

/-- ITS FALSE NEIGHBOUR: 'it returns false'. Refute it at one input. -/
def fnExactLengthSquareWrong : ChangeSpec := { name := "fnExactLengthSquare", fn := fun _ => fun
  | [d1, d2] => { results := [.lit (.bool false)], args := [d1, d2] }
  | _ => none }
def FnExactLengthSquareWrongFalsely : Prop := fnExactLengthSquareRow.holds Try.pinned (OpenSpec.ofChange fnExactLengthSquareWrong)

/-- 'laws.FnExactHalfPlane': WHATEVER THE INPUT: true; the input reads as it did. -/
def fnExactHalfPlaneSpec : ChangeSpec := { name := "fnExactHalfPlane", fn := fun _ => fun
  | [d1, d2] => { results := [.lit (.bool true)], args := [d1, d2] }
  | _ => none }
def fnExactHalfPlaneRow : OpenClaim := { program := "ytemblmcfbonjoaa", sum := "d0f3cea5e9e569c4933c5445da5d1a0da9b270b91a1a78c9d06c346bbc562617", func := "loop.example/g03303/laws.FnExactHalfPlane", spec := "fnExactHalfPlane", apart := false }
def FnExactHalfPlaneSaid : Prop := fnExactHalfPlaneRow.holds Try.pinned (OpenSpec.ofChange fnExactHalfPlaneSpec)

/-- ITS FALSE NEIGHBOUR: 'it returns false'. Refute it at one input. -/
def fnExactHalfPlaneWrong : ChangeSpec := { name := "fnExactHalfPlane", fn := fun _ => fun
  | [d1, d2] => { results := [.lit (.bool false)], args := [d1, d2] }
  | _ => none }
def FnExactHalfPlaneWrongFalsely : Prop := fnExactHalfPlaneRow.holds Try.pinned (OpenSpec.ofChange fnExactHalfPlaneWrong)

/-- 'laws.FnExactIsBeforeAround': WHATEVER THE INPUT: true; the input reads as it did. -/
def fnExactIsBeforeAroundSpec : ChangeSpec := { name := "fnExactIsBeforeAround", fn := fun _ => fun
  | [d1, d2, d3] => { results := [.lit (.bool true)], args := [d1, d2, d3] }
  | _ => none }
def fnExactIsBeforeAroundRow : OpenClaim := { program := "ytemblmcfbonjoaa", sum := "d0f3cea5e9e569c4933c5445da5d1a0da9b270b91a1a78c9d06c346bbc562617", func := "loop.example/g03303/laws.FnExactIsBeforeAround", spec := "fnExactIsBeforeAround", apart := false }
def FnExactIsBeforeAroundSaid : Prop := fnExactIsBeforeAroundRow.holds Try.pinned (OpenSpec.ofChange fnExactIsBeforeAroundSpec)

/-- ITS FALSE NEIGHBOUR: 'it returns false'. Refute it at one input. -/
def fnExactIsBeforeAroundWrong : ChangeSpec := { name := "fnExactIsBeforeAround", fn := fun _ => fun
  | [d1, d2, d3] => { results := [.lit (.bool false)], args := [d1, d2, d3] }
  | _ => none }
def FnExactIsBeforeAroundWrongFalsely : Prop := fnExactIsBeforeAroundRow.holds Try.pinned (OpenSpec.ofChange fnExactIsBeforeAroundWrong)

/-- 'laws.FnExactLeadOk': WHATEVER THE INPUT: true; the input reads as it did. -/
def fnExactLeadOkSpec : ChangeSpec := { name := "fnExactLeadOk", fn := fun _ => fun
  | [d1, d2] => { results := [.lit (.bool true)], args := [d1, d2] }
  | _ => none }
def fnExactLeadOkRow : OpenClaim := { program := "ytemblmcfbonjoaa", sum := "d0f3cea5e9e569c4933c5445da5d1a0da9b270b91a1a78c9d06c346bbc562617", func := "loop.example/g03303/laws.FnExactLeadOk", spec := "fnExactLeadOk", apart := false }
def FnExactLeadOkSaid : Prop := fnExactLeadOkRow.holds Try.pinned (OpenSpec.ofChange fnExactLeadOkSpec)

/-- ITS FALSE NEIGHBOUR: 'it returns false'. Refute it at one input. -/
def fnExactLeadOkWrong : ChangeSpec := { name := "fnExactLeadOk", fn := fun _ => fun
  | [d1, d2] => { results := [.lit (.bool false)], args := [d1, d2] }
  | _ => none }
def FnExactLeadOkWrongFalsely : Prop := fnExactLeadOkRow.holds Try.pinned (OpenSpec.ofChange fnExactLeadOkWrong)

/-- 'laws.FnExactDoCross': WHATEVER THE INPUT: true; the input reads as it did. -/
def fnExactDoCrossSpec : ChangeSpec := { name := "fnExactDoCross", fn := fun _ => fun
  | [d1, d2, d3] => { results := [.lit (.bool true)], args := [d1, d2, d3] }
  | _ => none }
def fnExactDoCrossRow : OpenClaim := { program := "ytemblmcfbonjoaa", sum := "d0f3cea5e9e569c4933c5445da5d1a0da9b270b91a1a78c9d06c346bbc562617", func := "loop.example/g03303/laws.FnExactDoCross", spec := "fnExactDoCross", apart := false }
def FnExactDoCrossSaid : Prop := fnExactDoCrossRow.holds Try.pinned (OpenSpec.ofChange fnExactDoCrossSpec)

/-- ITS FALSE NEIGHBOUR: 'it returns false'. Refute it at one input. -/
def fnExactDoCrossWrong : ChangeSpec := { name := "fnExactDoCross", fn := fun _ => fun
  | [d1, d2, d3] => { results := [.lit (.bool false)], args := [d1, d2, d3] }
  | _ => none }
def FnExactDoCrossWrongFalsely : Prop := fnExactDoCrossRow.holds Try.pinned (OpenSpec.ofChange fnExactDoCrossWrong)

/-- 'laws.FnExactIsOnLead': WHATEVER THE INPUT: true; the input reads as it did. -/
def fnExactIsOnLeadSpec : ChangeSpec := { name := "fnExactIsOnLead", fn := fun _ => fun
  | [d1, d2, d3] => { results := [.lit (.bool true)], args := [d1, d2, d3] }
  | _ => none }
def fnExactIsOnLeadRow : OpenClaim := { program := "ytemblmcfbonjoaa", sum := "d0f3cea5e9e569c4933c5445da5d1a0da9b270b91a1a78c9d06c346bbc562617", func := "loop.example/g03303/laws.FnExactIsOnLead", spec := "fnExactIsOnLead", apart := false }
def FnExactIsOnLeadSaid : Prop := fnExactIsOnLeadRow.holds Try.pinned (OpenSpec.ofChange fnExactIsOnLeadSpec)

/-- ITS FALSE NEIGHBOUR: 'it returns false'. Refute it at one input. -/
def fnExactIsOnLeadWrong : ChangeSpec := { name := "fnExactIsOnLead", fn := fun _ => fun
  | [d1, d2, d3] => { results := [.lit (.bool false)], args := [d1, d2, d3] }
  | _ => none }
def FnExactIsOnLeadWrongFalsely : Prop := fnExactIsOnLeadRow.holds Try.pinned (OpenSpec.ofChange fnExactIsOnLeadWrong)

/- THE SECOND FORM. 'bulk': how many values and letters a reading holds, each counted each time it is reached (what is shared counts as often as it is met; a slice's spare places count too). A statement '..UptoSaid' is the law's where the arguments, and the package variables that the reading takes, are together of bulk at most 1048576: NARROWER than '..Said'. Prove '..Said' where nothing that the law and all that it calls make is longer than what came in: it says more and counts as full. Else prove '..UptoSaid'. A law counts once. -/
mutual
def uptoBulk {H : Type} : DataW H → Nat
  | .lit (.string bytes) => bytes.length + 1
  | .lit _ => 1
  | .nil => 1
  | .ptr d => uptoBulk d + 1
  | .slice elems spare => uptoBulkAll elems + uptoBulkAll spare + 1
  | .agg parts => uptoBulkAll parts + 1
  | .iface _ d => uptoBulk d + 1
  | .map entries => uptoBulkEntries entries + 1
  | .held _ => 1
def uptoBulkAll {H : Type} : List (DataW H) → Nat
  | [] => 0
  | d :: r => uptoBulk d + uptoBulkAll r
def uptoBulkEntries {H : Type} : List (Lit × DataW H) → Nat
  | [] => 0
  | x :: r => uptoBulkEntry x + uptoBulkEntries r
def uptoBulkEntry {H : Type} : Lit × DataW H → Nat
  | (.string bytes, d) => bytes.length + uptoBulk d + 1
  | (_, d) => uptoBulk d + 1
 end
def uptoSmall : (H : Type) → List (DataW H) → Bool := fun _ ds => decide (uptoBulkAll ds ≤ 1048576)
def OpenSpec.upto (s : _root_.Go.ChangeSpec) : _root_.Go.OpenSpec := { _root_.Go.OpenSpec.ofChange s with cond := some uptoSmall }

/-- 'laws.FnNodes', WHERE WHAT IT READS IS OF BULK AT MOST 1048576: true; the input reads as it did. -/
def fnNodesUptoRow : OpenClaim := { program := "ytemblmcfbonjoaa", sum := "d0f3cea5e9e569c4933c5445da5d1a0da9b270b91a1a78c9d06c346bbc562617", func := "loop.example/g03303/laws.FnNodes", spec := "fnNodes", apart := false, narrowed := true }
def FnNodesUptoSaid : Prop := fnNodesUptoRow.holds Try.pinned (OpenSpec.upto fnNodesSpec)

/-- 'laws.FnLeads', WHERE WHAT IT READS IS OF BULK AT MOST 1048576: true; the input reads as it did. -/
def fnLeadsUptoRow : OpenClaim := { program := "ytemblmcfbonjoaa", sum := "d0f3cea5e9e569c4933c5445da5d1a0da9b270b91a1a78c9d06c346bbc562617", func := "loop.example/g03303/laws.FnLeads", spec := "fnLeads", apart := false, narrowed := true }
def FnLeadsUptoSaid : Prop := fnLeadsUptoRow.holds Try.pinned (OpenSpec.upto fnLeadsSpec)

/-- 'laws.FnWindows', WHERE WHAT IT READS IS OF BULK AT MOST 1048576: true; the input reads as it did. -/
def fnWindowsUptoRow : OpenClaim := { program := "ytemblmcfbonjoaa", sum := "d0f3cea5e9e569c4933c5445da5d1a0da9b270b91a1a78c9d06c346bbc562617", func := "loop.example/g03303/laws.FnWindows", spec := "fnWindows", apart := false, narrowed := true }
def FnWindowsUptoSaid : Prop := fnWindowsUptoRow.holds Try.pinned (OpenSpec.upto fnWindowsSpec)

/-- 'laws.FnExactNodeOk', WHERE WHAT IT READS IS OF BULK AT MOST 1048576: true; the input reads as it did. -/
def fnExactNodeOkUptoRow : OpenClaim := { program := "ytemblmcfbonjoaa", sum := "d0f3cea5e9e569c4933c5445da5d1a0da9b270b91a1a78c9d06c346bbc562617", func := "loop.example/g03303/laws.FnExactNodeOk", spec := "fnExactNodeOk", apart := false, narrowed := true }
def FnExactNodeOkUptoSaid : Prop := fnExactNodeOkUptoRow.holds Try.pinned (OpenSpec.upto fnExactNodeOkSpec)

/-- 'laws.FnExactTurnOf', WHERE WHAT IT READS IS OF BULK AT MOST 1048576: true; the input reads as it did. -/
def fnExactTurnOfUptoRow : OpenClaim := { program := "ytemblmcfbonjoaa", sum := "d0f3cea5e9e569c4933c5445da5d1a0da9b270b91a1a78c9d06c346bbc562617", func := "loop.example/g03303/laws.FnExactTurnOf", spec := "fnExactTurnOf", apart := false, narrowed := true }
def FnExactTurnOfUptoSaid : Prop := fnExactTurnOfUptoRow.holds Try.pinned (OpenSpec.upto fnExactTurnOfSpec)

/-- 'laws.FnExactIsBetween', WHERE WHAT IT READS IS OF BULK AT MOST 1048576: true; the input reads as it did. -/
def fnExactIsBetweenUptoRow : OpenClaim := { program := "ytemblmcfbonjoaa", sum := "d0f3cea5e9e569c4933c5445da5d1a0da9b270b91a1a78c9d06c346bbc562617", func := "loop.example/g03303/laws.FnExactIsBetween", spec := "fnExactIsBetween", apart := false, narrowed := true }
def FnExactIsBetweenUptoSaid : Prop := fnExactIsBetweenUptoRow.holds Try.pinned (OpenSpec.upto fnExactIsBetweenSpec)

/-- 'laws.FnExactLengthSquare', WHERE WHAT IT READS IS OF BULK AT MOST 1048576: true; the input reads as it did. -/
def fnExactLengthSquareUptoRow : OpenClaim := { program := "ytemblmcfbonjoaa", sum := "d0f3cea5e9e569c4933c5445da5d1a0da9b270b91a1a78c9d06c346bbc562617", func := "loop.example/g03303/laws.FnExactLengthSquare", spec := "fnExactLengthSquare", apart := false, narrowed := true }
def FnExactLengthSquareUptoSaid : Prop := fnExactLengthSquareUptoRow.holds Try.pinned (OpenSpec.upto fnExactLengthSquareSpec)

/-- 'laws.FnExactHalfPlane', WHERE WHAT IT READS IS OF BULK AT MOST 1048576: true; the input reads as it did. -/
def fnExactHalfPlaneUptoRow : OpenClaim := { program := "ytemblmcfbonjoaa", sum := "d0f3cea5e9e569c4933c5445da5d1a0da9b270b91a1a78c9d06c346bbc562617", func := "loop.example/g03303/laws.FnExactHalfPlane", spec := "fnExactHalfPlane", apart := false, narrowed := true }
def FnExactHalfPlaneUptoSaid : Prop := fnExactHalfPlaneUptoRow.holds Try.pinned (OpenSpec.upto fnExactHalfPlaneSpec)

/-- 'laws.FnExactIsBeforeAround', WHERE WHAT IT READS IS OF BULK AT MOST 1048576: true; the input reads as it did. -/
def fnExactIsBeforeAroundUptoRow : OpenClaim := { program := "ytemblmcfbonjoaa", sum := "d0f3cea5e9e569c4933c5445da5d1a0da9b270b91a1a78c9d06c346bbc562617", func := "loop.example/g03303/laws.FnExactIsBeforeAround", spec := "fnExactIsBeforeAround", apart := false, narrowed := true }
def FnExactIsBeforeAroundUptoSaid : Prop := fnExactIsBeforeAroundUptoRow.holds Try.pinned (OpenSpec.upto fnExactIsBeforeAroundSpec)

/-- 'laws.FnExactLeadOk', WHERE WHAT IT READS IS OF BULK AT MOST 1048576: true; the input reads as it did. -/
def fnExactLeadOkUptoRow : OpenClaim := { program := "ytemblmcfbonjoaa", sum := "d0f3cea5e9e569c4933c5445da5d1a0da9b270b91a1a78c9d06c346bbc562617", func := "loop.example/g03303/laws.FnExactLeadOk", spec := "fnExactLeadOk", apart := false, narrowed := true }
def FnExactLeadOkUptoSaid : Prop := fnExactLeadOkUptoRow.holds Try.pinned (OpenSpec.upto fnExactLeadOkSpec)

/-- 'laws.FnExactDoCross', WHERE WHAT IT READS IS OF BULK AT MOST 1048576: true; the input reads as it did. -/
def fnExactDoCrossUptoRow : OpenClaim := { program := "ytemblmcfbonjoaa", sum := "d0f3cea5e9e569c4933c5445da5d1a0da9b270b91a1a78c9d06c346bbc562617", func := "loop.example/g03303/laws.FnExactDoCross", spec := "fnExactDoCross", apart := false, narrowed := true }
def FnExactDoCrossUptoSaid : Prop := fnExactDoCrossUptoRow.holds Try.pinned (OpenSpec.upto fnExactDoCrossSpec)

/-- 'laws.FnExactIsOnLead', WHERE WHAT IT READS IS OF BULK AT MOST 1048576: true; the input reads as it did. -/
def fnExactIsOnLeadUptoRow : OpenClaim := { program := "ytemblmcfbonjoaa", sum := "d0f3cea5e9e569c4933c5445da5d1a0da9b270b91a1a78c9d06c346bbc562617", func := "loop.example/g03303/laws.FnExactIsOnLead", spec := "fnExactIsOnLead", apart := false, narrowed := true }
def FnExactIsOnLeadUptoSaid : Prop := fnExactIsOnLeadUptoRow.holds Try.pinned (OpenSpec.upto fnExactIsOnLeadSpec)

end Rows
end Go.Proofs.Ytemblmcfbonjoaa
