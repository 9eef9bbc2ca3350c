/-
  No cell of these rows narrows 'for every input' (looked for: loops, veiled, ifaces, maps, wideKeys, modest, calm, conditions, laid).
  DERIVED. THE GIVEN ROWS OF THIS SEAT. 12 by the template 'for every input the law returns true; each argument reads behind the call as it read before'; 0 by the template 'total and deterministic' (their statements: YtkkjcdilpbofmaaTotals.lean).
  GIVEN WITH THE SEED: the statements are not yours to turn. If you find one false, say at which input.
  Laid BY PROGRAM, IN A SANDBOX (cutbox-rows.mjs): the forced cells as the released guide's own fill.sh prints them over the translation 9415b75005e46cb7… (all of the seat's roots in one cut). By AI agents, Wed Nov 11 2026. No macro, syntax, notation, axiom, sorry.
-/
import Derived.Test.YtkkjcdilpbofmaaChecked
import GoSem.Claim
import GoSem.ClaimJoined
import GoSem.ClaimMapViews
import Derived.JoinedTies
import Derived.KernelRfl
namespace Go.Proofs.Ytkkjcdilpbofmaa
/- THE CELL 'sum', in the pinned program and in every row, IS THE sha256 OF THE DUMP (.gsa) THAT YtkkjcdilpbofmaaProg.lean LOADS. Nothing in Lean hashes anything: it is a label: what it is worth is what the hold of that sum in a sandbox is worth. -/
noncomputable def Try.pinned : Pinned := { name := "ytkkjcdilpbofmaa", sum := "9415b75005e46cb7ee328c1c1f5f364bcd457a66683337ba9e5d1e9fe4be0086", checked := Try.checked }
namespace Rows
def none {H : Type} : Left H := { results := [], args := [] }

/-- 'laws.FnExactTwinOf': WHATEVER THE INPUT: true; the input reads as it did. -/
def fnExactTwinOfSpec : ChangeSpec := { name := "fnExactTwinOf", fn := fun _ => fun
  | [d] => { results := [.lit (.bool true)], args := [d] }
  | _ => none }
def fnExactTwinOfRow : OpenClaim := { program := "ytkkjcdilpbofmaa", sum := "9415b75005e46cb7ee328c1c1f5f364bcd457a66683337ba9e5d1e9fe4be0086", func := "loop.example/g03303/laws.FnExactTwinOf", spec := "fnExactTwinOf", apart := false }
def FnExactTwinOfSaid : Prop := fnExactTwinOfRow.holds Try.pinned (OpenSpec.ofChange fnExactTwinOfSpec)

/-- ITS FALSE NEIGHBOUR: 'it returns false'. Refute it at one input. -/
def fnExactTwinOfWrong : ChangeSpec := { name := "fnExactTwinOf", fn := fun _ => fun
  | [d] => { results := [.lit (.bool false)], args := [d] }
  | _ => none }
def FnExactTwinOfWrongFalsely : Prop := fnExactTwinOfRow.holds Try.pinned (OpenSpec.ofChange fnExactTwinOfWrong)

/-- 'laws.FnExactCountWishes': WHATEVER THE INPUT: true; the input reads as it did. -/
def fnExactCountWishesSpec : ChangeSpec := { name := "fnExactCountWishes", fn := fun _ => fun
  | [d] => { results := [.lit (.bool true)], args := [d] }
  | _ => none }
def fnExactCountWishesRow : OpenClaim := { program := "ytkkjcdilpbofmaa", sum := "9415b75005e46cb7ee328c1c1f5f364bcd457a66683337ba9e5d1e9fe4be0086", func := "loop.example/g03303/laws.FnExactCountWishes", spec := "fnExactCountWishes", apart := false }
def FnExactCountWishesSaid : Prop := fnExactCountWishesRow.holds Try.pinned (OpenSpec.ofChange fnExactCountWishesSpec)

/-- ITS FALSE NEIGHBOUR: 'it returns false'. Refute it at one input. -/
def fnExactCountWishesWrong : ChangeSpec := { name := "fnExactCountWishes", fn := fun _ => fun
  | [d] => { results := [.lit (.bool false)], args := [d] }
  | _ => none }
def FnExactCountWishesWrongFalsely : Prop := fnExactCountWishesRow.holds Try.pinned (OpenSpec.ofChange fnExactCountWishesWrong)

/-- 'laws.FnExactDartFrom': WHATEVER THE INPUT: true; the input reads as it did. -/
def fnExactDartFromSpec : ChangeSpec := { name := "fnExactDartFrom", fn := fun _ => fun
  | [d1, d2] => { results := [.lit (.bool true)], args := [d1, d2] }
  | _ => none }
def fnExactDartFromRow : OpenClaim := { program := "ytkkjcdilpbofmaa", sum := "9415b75005e46cb7ee328c1c1f5f364bcd457a66683337ba9e5d1e9fe4be0086", func := "loop.example/g03303/laws.FnExactDartFrom", spec := "fnExactDartFrom", apart := false }
def FnExactDartFromSaid : Prop := fnExactDartFromRow.holds Try.pinned (OpenSpec.ofChange fnExactDartFromSpec)

/-- ITS FALSE NEIGHBOUR: 'it returns false'. Refute it at one input. -/
def fnExactDartFromWrong : ChangeSpec := { name := "fnExactDartFrom", fn := fun _ => fun
  | [d1, d2] => { results := [.lit (.bool false)], args := [d1, d2] }
  | _ => none }
def FnExactDartFromWrongFalsely : Prop := fnExactDartFromRow.holds Try.pinned (OpenSpec.ofChange fnExactDartFromWrong)

/-- 'laws.FnExactDartTo': WHATEVER THE INPUT: true; the input reads as it did. -/
def fnExactDartToSpec : ChangeSpec := { name := "fnExactDartTo", fn := fun _ => fun
  | [d1, d2] => { results := [.lit (.bool true)], args := [d1, d2] }
  | _ => none }
def fnExactDartToRow : OpenClaim := { program := "ytkkjcdilpbofmaa", sum := "9415b75005e46cb7ee328c1c1f5f364bcd457a66683337ba9e5d1e9fe4be0086", func := "loop.example/g03303/laws.FnExactDartTo", spec := "fnExactDartTo", apart := false }
def FnExactDartToSaid : Prop := fnExactDartToRow.holds Try.pinned (OpenSpec.ofChange fnExactDartToSpec)

/-- ITS FALSE NEIGHBOUR: 'it returns false'. Refute it at one input. -/
def fnExactDartToWrong : ChangeSpec := { name := "fnExactDartTo", fn := fun _ => fun
  | [d1, d2] => { results := [.lit (.bool false)], args := [d1, d2] }
  | _ => none }
def FnExactDartToWrongFalsely : Prop := fnExactDartToRow.holds Try.pinned (OpenSpec.ofChange fnExactDartToWrong)

/-- 'laws.FnExactDartBetween': WHATEVER THE INPUT: true; the input reads as it did. -/
def fnExactDartBetweenSpec : ChangeSpec := { name := "fnExactDartBetween", fn := fun _ => fun
  | [d1, d2, d3] => { results := [.lit (.bool true)], args := [d1, d2, d3] }
  | _ => none }
def fnExactDartBetweenRow : OpenClaim := { program := "ytkkjcdilpbofmaa", sum := "9415b75005e46cb7ee328c1c1f5f364bcd457a66683337ba9e5d1e9fe4be0086", func := "loop.example/g03303/laws.FnExactDartBetween", spec := "fnExactDartBetween", apart := false }
def FnExactDartBetweenSaid : Prop := fnExactDartBetweenRow.holds Try.pinned (OpenSpec.ofChange fnExactDartBetweenSpec)

/-- ITS FALSE NEIGHBOUR: 'it returns false'. Refute it at one input. -/
def fnExactDartBetweenWrong : ChangeSpec := { name := "fnExactDartBetween", fn := fun _ => fun
  | [d1, d2, d3] => { results := [.lit (.bool false)], args := [d1, d2, d3] }
  | _ => none }
def FnExactDartBetweenWrongFalsely : Prop := fnExactDartBetweenRow.holds Try.pinned (OpenSpec.ofChange fnExactDartBetweenWrong)

/-- 'laws.FnExactEndNodes': WHATEVER THE INPUT: true; the input reads as it did. -/
def fnExactEndNodesSpec : ChangeSpec := { name := "fnExactEndNodes", fn := fun _ => fun
  | [d] => { results := [.lit (.bool true)], args := [d] }
  | _ => none }
def fnExactEndNodesRow : OpenClaim := { program := "ytkkjcdilpbofmaa", sum := "9415b75005e46cb7ee328c1c1f5f364bcd457a66683337ba9e5d1e9fe4be0086", func := "loop.example/g03303/laws.FnExactEndNodes", spec := "fnExactEndNodes", apart := false }
def FnExactEndNodesSaid : Prop := fnExactEndNodesRow.holds Try.pinned (OpenSpec.ofChange fnExactEndNodesSpec)

/-- ITS FALSE NEIGHBOUR: 'it returns false'. Refute it at one input. -/
def fnExactEndNodesWrong : ChangeSpec := { name := "fnExactEndNodes", fn := fun _ => fun
  | [d] => { results := [.lit (.bool false)], args := [d] }
  | _ => none }
def FnExactEndNodesWrongFalsely : Prop := fnExactEndNodesRow.holds Try.pinned (OpenSpec.ofChange fnExactEndNodesWrong)

/-- 'laws.FnExactIsStraightNode': WHATEVER THE INPUT: true; the input reads as it did. -/
def fnExactIsStraightNodeSpec : ChangeSpec := { name := "fnExactIsStraightNode", fn := fun _ => fun
  | [d1, d2] => { results := [.lit (.bool true)], args := [d1, d2] }
  | _ => none }
def fnExactIsStraightNodeRow : OpenClaim := { program := "ytkkjcdilpbofmaa", sum := "9415b75005e46cb7ee328c1c1f5f364bcd457a66683337ba9e5d1e9fe4be0086", func := "loop.example/g03303/laws.FnExactIsStraightNode", spec := "fnExactIsStraightNode", apart := false }
def FnExactIsStraightNodeSaid : Prop := fnExactIsStraightNodeRow.holds Try.pinned (OpenSpec.ofChange fnExactIsStraightNodeSpec)

/-- ITS FALSE NEIGHBOUR: 'it returns false'. Refute it at one input. -/
def fnExactIsStraightNodeWrong : ChangeSpec := { name := "fnExactIsStraightNode", fn := fun _ => fun
  | [d1, d2] => { results := [.lit (.bool false)], args := [d1, d2] }
  | _ => none }
def FnExactIsStraightNodeWrongFalsely : Prop := fnExactIsStraightNodeRow.holds Try.pinned (OpenSpec.ofChange fnExactIsStraightNodeWrong)

/-- 'laws.FnExactStraightNodes': WHATEVER THE INPUT: true; the input reads as it did. -/
def fnExactStraightNodesSpec : ChangeSpec := { name := "fnExactStraightNodes", fn := fun _ => fun
  | [d] => { results := [.lit (.bool true)], args := [d] }
  | _ => none }
def fnExactStraightNodesRow : OpenClaim := { program := "ytkkjcdilpbofmaa", sum := "9415b75005e46cb7ee328c1c1f5f364bcd457a66683337ba9e5d1e9fe4be0086", func := "loop.example/g03303/laws.FnExactStraightNodes", spec := "fnExactStraightNodes", apart := false }
def FnExactStraightNodesSaid : Prop := fnExactStraightNodesRow.holds Try.pinned (OpenSpec.ofChange fnExactStraightNodesSpec)

/-- ITS FALSE NEIGHBOUR: 'it returns false'. Refute it at one input. -/
def fnExactStraightNodesWrong : ChangeSpec := { name := "fnExactStraightNodes", fn := fun _ => fun
  | [d] => { results := [.lit (.bool false)], args := [d] }
  | _ => none }
def FnExactStraightNodesWrongFalsely : Prop := fnExactStraightNodesRow.holds Try.pinned (OpenSpec.ofChange fnExactStraightNodesWrong)

/-- 'laws.FnExactAddLead': WHATEVER THE INPUT: true; the input reads as it did. -/
def fnExactAddLeadSpec : ChangeSpec := { name := "fnExactAddLead", fn := fun _ => fun
  | [d1, d2, d3] => { results := [.lit (.bool true)], args := [d1, d2, d3] }
  | _ => none }
def fnExactAddLeadRow : OpenClaim := { program := "ytkkjcdilpbofmaa", sum := "9415b75005e46cb7ee328c1c1f5f364bcd457a66683337ba9e5d1e9fe4be0086", func := "loop.example/g03303/laws.FnExactAddLead", spec := "fnExactAddLead", apart := false }
def FnExactAddLeadSaid : Prop := fnExactAddLeadRow.holds Try.pinned (OpenSpec.ofChange fnExactAddLeadSpec)

/-- ITS FALSE NEIGHBOUR: 'it returns false'. Refute it at one input. -/
def fnExactAddLeadWrong : ChangeSpec := { name := "fnExactAddLead", fn := fun _ => fun
  | [d1, d2, d3] => { results := [.lit (.bool false)], args := [d1, d2, d3] }
  | _ => none }
def FnExactAddLeadWrongFalsely : Prop := fnExactAddLeadRow.holds Try.pinned (OpenSpec.ofChange fnExactAddLeadWrong)

/-- 'laws.FnExactDropLead': WHATEVER THE INPUT: true; the input reads as it did. -/
def fnExactDropLeadSpec : ChangeSpec := { name := "fnExactDropLead", fn := fun _ => fun
  | [d1, d2] => { results := [.lit (.bool true)], args := [d1, d2] }
  | _ => none }
def fnExactDropLeadRow : OpenClaim := { program := "ytkkjcdilpbofmaa", sum := "9415b75005e46cb7ee328c1c1f5f364bcd457a66683337ba9e5d1e9fe4be0086", func := "loop.example/g03303/laws.FnExactDropLead", spec := "fnExactDropLead", apart := false }
def FnExactDropLeadSaid : Prop := fnExactDropLeadRow.holds Try.pinned (OpenSpec.ofChange fnExactDropLeadSpec)

/-- ITS FALSE NEIGHBOUR: 'it returns false'. Refute it at one input. -/
def fnExactDropLeadWrong : ChangeSpec := { name := "fnExactDropLead", fn := fun _ => fun
  | [d1, d2] => { results := [.lit (.bool false)], args := [d1, d2] }
  | _ => none }
def FnExactDropLeadWrongFalsely : Prop := fnExactDropLeadRow.holds Try.pinned (OpenSpec.ofChange fnExactDropLeadWrong)

/-- 'laws.FnExactSampleWindow': WHATEVER THE INPUT: true; the input reads as it did. -/
def fnExactSampleWindowSpec : ChangeSpec := { name := "fnExactSampleWindow", fn := fun _ => fun
  | [] => { results := [.lit (.bool true)], args := [] }
  | _ => none }
def fnExactSampleWindowRow : OpenClaim := { program := "ytkkjcdilpbofmaa", sum := "9415b75005e46cb7ee328c1c1f5f364bcd457a66683337ba9e5d1e9fe4be0086", func := "loop.example/g03303/laws.FnExactSampleWindow", spec := "fnExactSampleWindow", apart := false }
def FnExactSampleWindowSaid : Prop := fnExactSampleWindowRow.holds Try.pinned (OpenSpec.ofChange fnExactSampleWindowSpec)

/-- ITS FALSE NEIGHBOUR: 'it returns false'. Refute it at one input. -/
def fnExactSampleWindowWrong : ChangeSpec := { name := "fnExactSampleWindow", fn := fun _ => fun
  | [] => { results := [.lit (.bool false)], args := [] }
  | _ => none }
def FnExactSampleWindowWrongFalsely : Prop := fnExactSampleWindowRow.holds Try.pinned (OpenSpec.ofChange fnExactSampleWindowWrong)

/-- 'laws.FnLeads': WHATEVER THE INPUT: true; the input reads as it did. -/
def fnLeadsSpec : ChangeSpec := { name := "fnLeads", fn := fun _ => fun
  | [d] => { results := [.lit (.bool true)], args := [d] }
  | _ => none }
def fnLeadsRow : OpenClaim := { program := "ytkkjcdilpbofmaa", sum := "9415b75005e46cb7ee328c1c1f5f364bcd457a66683337ba9e5d1e9fe4be0086", func := "loop.example/g03303/laws.FnLeads", spec := "fnLeads", apart := false }
def FnLeadsSaid : Prop := fnLeadsRow.holds Try.pinned (OpenSpec.ofChange fnLeadsSpec)

/-- ITS FALSE NEIGHBOUR: 'it returns false'. Refute it at one input. -/
def fnLeadsWrong : ChangeSpec := { name := "fnLeads", fn := fun _ => fun
  | [d] => { results := [.lit (.bool false)], args := [d] }
  | _ => none }
def FnLeadsWrongFalsely : Prop := fnLeadsRow.holds Try.pinned (OpenSpec.ofChange fnLeadsWrong)

/- THE SECOND FORM. 'bulk': how many values and letters a reading holds, each counted each time it is reached (what is shared counts as often as it is met; a slice's spare places count too). A statement '..UptoSaid' is the law's where the arguments, and the package variables that the reading takes, are together of bulk at most 1048576: NARROWER than '..Said'. Prove '..Said' where nothing that the law and all that it calls make is longer than what came in: it says more and counts as full. Else prove '..UptoSaid'. A law counts once. -/
mutual
def uptoBulk {H : Type} : DataW H → Nat
  | .lit (.string bytes) => bytes.length + 1
  | .lit _ => 1
  | .nil => 1
  | .ptr d => uptoBulk d + 1
  | .slice elems spare => uptoBulkAll elems + uptoBulkAll spare + 1
  | .agg parts => uptoBulkAll parts + 1
  | .iface _ d => uptoBulk d + 1
  | .map entries => uptoBulkEntries entries + 1
  | .held _ => 1
def uptoBulkAll {H : Type} : List (DataW H) → Nat
  | [] => 0
  | d :: r => uptoBulk d + uptoBulkAll r
def uptoBulkEntries {H : Type} : List (Lit × DataW H) → Nat
  | [] => 0
  | x :: r => uptoBulkEntry x + uptoBulkEntries r
def uptoBulkEntry {H : Type} : Lit × DataW H → Nat
  | (.string bytes, d) => bytes.length + uptoBulk d + 1
  | (_, d) => uptoBulk d + 1
 end
def uptoSmall : (H : Type) → List (DataW H) → Bool := fun _ ds => decide (uptoBulkAll ds ≤ 1048576)
def OpenSpec.upto (s : _root_.Go.ChangeSpec) : _root_.Go.OpenSpec := { _root_.Go.OpenSpec.ofChange s with cond := some uptoSmall }

/-- 'laws.FnExactTwinOf', WHERE WHAT IT READS IS OF BULK AT MOST 1048576: true; the input reads as it did. -/
def fnExactTwinOfUptoRow : OpenClaim := { program := "ytkkjcdilpbofmaa", sum := "9415b75005e46cb7ee328c1c1f5f364bcd457a66683337ba9e5d1e9fe4be0086", func := "loop.example/g03303/laws.FnExactTwinOf", spec := "fnExactTwinOf", apart := false, narrowed := true }
def FnExactTwinOfUptoSaid : Prop := fnExactTwinOfUptoRow.holds Try.pinned (OpenSpec.upto fnExactTwinOfSpec)

/-- 'laws.FnExactCountWishes', WHERE WHAT IT READS IS OF BULK AT MOST 1048576: true; the input reads as it did. -/
def fnExactCountWishesUptoRow : OpenClaim := { program := "ytkkjcdilpbofmaa", sum := "9415b75005e46cb7ee328c1c1f5f364bcd457a66683337ba9e5d1e9fe4be0086", func := "loop.example/g03303/laws.FnExactCountWishes", spec := "fnExactCountWishes", apart := false, narrowed := true }
def FnExactCountWishesUptoSaid : Prop := fnExactCountWishesUptoRow.holds Try.pinned (OpenSpec.upto fnExactCountWishesSpec)

/-- 'laws.FnExactDartFrom', WHERE WHAT IT READS IS OF BULK AT MOST 1048576: true; the input reads as it did. -/
def fnExactDartFromUptoRow : OpenClaim := { program := "ytkkjcdilpbofmaa", sum := "9415b75005e46cb7ee328c1c1f5f364bcd457a66683337ba9e5d1e9fe4be0086", func := "loop.example/g03303/laws.FnExactDartFrom", spec := "fnExactDartFrom", apart := false, narrowed := true }
def FnExactDartFromUptoSaid : Prop := fnExactDartFromUptoRow.holds Try.pinned (OpenSpec.upto fnExactDartFromSpec)

/-- 'laws.FnExactDartTo', WHERE WHAT IT READS IS OF BULK AT MOST 1048576: true; the input reads as it did. -/
def fnExactDartToUptoRow : OpenClaim := { program := "ytkkjcdilpbofmaa", sum := "9415b75005e46cb7ee328c1c1f5f364bcd457a66683337ba9e5d1e9fe4be0086", func := "loop.example/g03303/laws.FnExactDartTo", spec := "fnExactDartTo", apart := false, narrowed := true }
def FnExactDartToUptoSaid : Prop := fnExactDartToUptoRow.holds Try.pinned (OpenSpec.upto fnExactDartToSpec)

/-- 'laws.FnExactDartBetween', WHERE WHAT IT READS IS OF BULK AT MOST 1048576: true; the input reads as it did. -/
def fnExactDartBetweenUptoRow : OpenClaim := { program := "ytkkjcdilpbofmaa", sum := "9415b75005e46cb7ee328c1c1f5f364bcd457a66683337ba9e5d1e9fe4be0086", func := "loop.example/g03303/laws.FnExactDartBetween", spec := "fnExactDartBetween", apart := false, narrowed := true }
def FnExactDartBetweenUptoSaid : Prop := fnExactDartBetweenUptoRow.holds Try.pinned (OpenSpec.upto fnExactDartBetweenSpec)

/-- 'laws.FnExactEndNodes', WHERE WHAT IT READS IS OF BULK AT MOST 1048576: true; the input reads as it did. -/
def fnExactEndNodesUptoRow : OpenClaim := { program := "ytkkjcdilpbofmaa", sum := "9415b75005e46cb7ee328c1c1f5f364bcd457a66683337ba9e5d1e9fe4be0086", func := "loop.example/g03303/laws.FnExactEndNodes", spec := "fnExactEndNodes", apart := false, narrowed := true }
def FnExactEndNodesUptoSaid : Prop := fnExactEndNodesUptoRow.holds Try.pinned (OpenSpec.upto fnExactEndNodesSpec)

/-- 'laws.FnExactIsStraightNode', WHERE WHAT IT READS IS OF BULK AT MOST 1048576: true; the input reads as it did. -/
def fnExactIsStraightNodeUptoRow : OpenClaim := { program := "ytkkjcdilpbofmaa", sum := "9415b75005e46cb7ee328c1c1f5f364bcd457a66683337ba9e5d1e9fe4be0086", func := "loop.example/g03303/laws.FnExactIsStraightNode", spec := "fnExactIsStraightNode", apart := false, narrowed := true }
def FnExactIsStraightNodeUptoSaid : Prop := fnExactIsStraightNodeUptoRow.holds Try.pinned (OpenSpec.upto fnExactIsStraightNodeSpec)

/-- 'laws.FnExactStraightNodes', WHERE WHAT IT READS IS OF BULK AT MOST 1048576: true; the input reads as it did. -/
def fnExactStraightNodesUptoRow : OpenClaim := { program := "ytkkjcdilpbofmaa", sum := "9415b75005e46cb7ee328c1c1f5f364bcd457a66683337ba9e5d1e9fe4be0086", func := "loop.example/g03303/laws.FnExactStraightNodes", spec := "fnExactStraightNodes", apart := false, narrowed := true }
def FnExactStraightNodesUptoSaid : Prop := fnExactStraightNodesUptoRow.holds Try.pinned (OpenSpec.upto fnExactStraightNodesSpec)

/-- 'laws.FnExactAddLead', WHERE WHAT IT READS IS OF BULK AT MOST 1048576: true; the input reads as it did. -/
def fnExactAddLeadUptoRow : OpenClaim := { program := "ytkkjcdilpbofmaa", sum := "9415b75005e46cb7ee328c1c1f5f364bcd457a66683337ba9e5d1e9fe4be0086", func := "loop.example/g03303/laws.FnExactAddLead", spec := "fnExactAddLead", apart := false, narrowed := true }
def FnExactAddLeadUptoSaid : Prop := fnExactAddLeadUptoRow.holds Try.pinned (OpenSpec.upto fnExactAddLeadSpec)

/-- 'laws.FnExactDropLead', WHERE WHAT IT READS IS OF BULK AT MOST 1048576: true; the input reads as it did. -/
def fnExactDropLeadUptoRow : OpenClaim := { program := "ytkkjcdilpbofmaa", sum := "9415b75005e46cb7ee328c1c1f5f364bcd457a66683337ba9e5d1e9fe4be0086", func := "loop.example/g03303/laws.FnExactDropLead", spec := "fnExactDropLead", apart := false, narrowed := true }
def FnExactDropLeadUptoSaid : Prop := fnExactDropLeadUptoRow.holds Try.pinned (OpenSpec.upto fnExactDropLeadSpec)

/-- 'laws.FnExactSampleWindow', WHERE WHAT IT READS IS OF BULK AT MOST 1048576: true; the input reads as it did. -/
def fnExactSampleWindowUptoRow : OpenClaim := { program := "ytkkjcdilpbofmaa", sum := "9415b75005e46cb7ee328c1c1f5f364bcd457a66683337ba9e5d1e9fe4be0086", func := "loop.example/g03303/laws.FnExactSampleWindow", spec := "fnExactSampleWindow", apart := false, narrowed := true }
def FnExactSampleWindowUptoSaid : Prop := fnExactSampleWindowUptoRow.holds Try.pinned (OpenSpec.upto fnExactSampleWindowSpec)

/-- 'laws.FnLeads', WHERE WHAT IT READS IS OF BULK AT MOST 1048576: true; the input reads as it did. -/
def fnLeadsUptoRow : OpenClaim := { program := "ytkkjcdilpbofmaa", sum := "9415b75005e46cb7ee328c1c1f5f364bcd457a66683337ba9e5d1e9fe4be0086", func := "loop.example/g03303/laws.FnLeads", spec := "fnLeads", apart := false, narrowed := true }
def FnLeadsUptoSaid : Prop := fnLeadsUptoRow.holds Try.pinned (OpenSpec.upto fnLeadsSpec)

end Rows
end Go.Proofs.Ytkkjcdilpbofmaa
