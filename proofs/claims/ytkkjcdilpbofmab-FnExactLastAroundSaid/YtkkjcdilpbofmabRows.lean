/-
  No cell of these rows narrows 'for every input' (looked for: loops, veiled, ifaces, maps, wideKeys, modest, calm, conditions, laid).
  DERIVED. THE GIVEN ROWS OF THIS SEAT. 12 by the template 'for every input the law returns true; each argument reads behind the call as it read before'; 0 by the template 'total and deterministic' (their statements: YtkkjcdilpbofmabTotals.lean).
  GIVEN WITH THE SEED: the statements are not yours to turn. If you find one false, say at which input.
  Laid BY PROGRAM, IN A SANDBOX (cutbox-rows.mjs): the forced cells as the released guide's own fill.sh prints them over the translation 7e67e16a80afb517… (all of the seat's roots in one cut). By AI agents, Wed Nov 11 2026. No macro, syntax, notation, axiom, sorry.
-/
import Derived.Test.YtkkjcdilpbofmabChecked
import GoSem.Claim
import GoSem.ClaimJoined
import GoSem.ClaimMapViews
import Derived.JoinedTies
import Derived.KernelRfl
namespace Go.Proofs.Ytkkjcdilpbofmab
/- THE CELL 'sum', in the pinned program and in every row, IS THE sha256 OF THE DUMP (.gsa) THAT YtkkjcdilpbofmabProg.lean LOADS. Nothing in Lean hashes anything: it is a label: what it is worth is what the hold of that sum in a sandbox is worth. -/
noncomputable def Try.pinned : Pinned := { name := "ytkkjcdilpbofmab", sum := "7e67e16a80afb5176ca2ad491ab2cdb94d9558f4fcaa9a5ba6861e2bb10f6147", checked := Try.checked }
namespace Rows
def none {H : Type} : Left H := { results := [], args := [] }

/-- 'laws.FnWindows': WHATEVER THE INPUT: true; the input reads as it did. -/
def fnWindowsSpec : ChangeSpec := { name := "fnWindows", fn := fun _ => fun
  | [d] => { results := [.lit (.bool true)], args := [d] }
  | _ => none }
def fnWindowsRow : OpenClaim := { program := "ytkkjcdilpbofmab", sum := "7e67e16a80afb5176ca2ad491ab2cdb94d9558f4fcaa9a5ba6861e2bb10f6147", func := "loop.example/g03303/laws.FnWindows", spec := "fnWindows", apart := false }
def FnWindowsSaid : Prop := fnWindowsRow.holds Try.pinned (OpenSpec.ofChange fnWindowsSpec)

/-- ITS FALSE NEIGHBOUR: 'it returns false'. Refute it at one input. -/
def fnWindowsWrong : ChangeSpec := { name := "fnWindows", fn := fun _ => fun
  | [d] => { results := [.lit (.bool false)], args := [d] }
  | _ => none }
def FnWindowsWrongFalsely : Prop := fnWindowsRow.holds Try.pinned (OpenSpec.ofChange fnWindowsWrong)

/-- 'laws.FnExactPartOf': WHATEVER THE INPUT: true; the input reads as it did. -/
def fnExactPartOfSpec : ChangeSpec := { name := "fnExactPartOf", fn := fun _ => fun
  | [d1, d2] => { results := [.lit (.bool true)], args := [d1, d2] }
  | _ => none }
def fnExactPartOfRow : OpenClaim := { program := "ytkkjcdilpbofmab", sum := "7e67e16a80afb5176ca2ad491ab2cdb94d9558f4fcaa9a5ba6861e2bb10f6147", func := "loop.example/g03303/laws.FnExactPartOf", spec := "fnExactPartOf", recurses := true, apart := false }
def FnExactPartOfSaid : Prop := fnExactPartOfRow.holds Try.pinned (OpenSpec.ofChange fnExactPartOfSpec)

/-- ITS FALSE NEIGHBOUR: 'it returns false'. Refute it at one input. -/
def fnExactPartOfWrong : ChangeSpec := { name := "fnExactPartOf", fn := fun _ => fun
  | [d1, d2] => { results := [.lit (.bool false)], args := [d1, d2] }
  | _ => none }
def FnExactPartOfWrongFalsely : Prop := fnExactPartOfRow.holds Try.pinned (OpenSpec.ofChange fnExactPartOfWrong)

/-- 'laws.FnExactCountParts': WHATEVER THE INPUT: true; the input reads as it did. -/
def fnExactCountPartsSpec : ChangeSpec := { name := "fnExactCountParts", fn := fun _ => fun
  | [d] => { results := [.lit (.bool true)], args := [d] }
  | _ => none }
def fnExactCountPartsRow : OpenClaim := { program := "ytkkjcdilpbofmab", sum := "7e67e16a80afb5176ca2ad491ab2cdb94d9558f4fcaa9a5ba6861e2bb10f6147", func := "loop.example/g03303/laws.FnExactCountParts", spec := "fnExactCountParts", recurses := true, apart := false }
def FnExactCountPartsSaid : Prop := fnExactCountPartsRow.holds Try.pinned (OpenSpec.ofChange fnExactCountPartsSpec)

/-- ITS FALSE NEIGHBOUR: 'it returns false'. Refute it at one input. -/
def fnExactCountPartsWrong : ChangeSpec := { name := "fnExactCountParts", fn := fun _ => fun
  | [d] => { results := [.lit (.bool false)], args := [d] }
  | _ => none }
def FnExactCountPartsWrongFalsely : Prop := fnExactCountPartsRow.holds Try.pinned (OpenSpec.ofChange fnExactCountPartsWrong)

/-- 'laws.FnExactCountFaces': WHATEVER THE INPUT: true; the input reads as it did. -/
def fnExactCountFacesSpec : ChangeSpec := { name := "fnExactCountFaces", fn := fun _ => fun
  | [d] => { results := [.lit (.bool true)], args := [d] }
  | _ => none }
def fnExactCountFacesRow : OpenClaim := { program := "ytkkjcdilpbofmab", sum := "7e67e16a80afb5176ca2ad491ab2cdb94d9558f4fcaa9a5ba6861e2bb10f6147", func := "loop.example/g03303/laws.FnExactCountFaces", spec := "fnExactCountFaces", recurses := true, apart := false }
def FnExactCountFacesSaid : Prop := fnExactCountFacesRow.holds Try.pinned (OpenSpec.ofChange fnExactCountFacesSpec)

/-- ITS FALSE NEIGHBOUR: 'it returns false'. Refute it at one input. -/
def fnExactCountFacesWrong : ChangeSpec := { name := "fnExactCountFaces", fn := fun _ => fun
  | [d] => { results := [.lit (.bool false)], args := [d] }
  | _ => none }
def FnExactCountFacesWrongFalsely : Prop := fnExactCountFacesRow.holds Try.pinned (OpenSpec.ofChange fnExactCountFacesWrong)

/-- 'laws.FnExactCountPanes': WHATEVER THE INPUT: true; the input reads as it did. -/
def fnExactCountPanesSpec : ChangeSpec := { name := "fnExactCountPanes", fn := fun _ => fun
  | [d] => { results := [.lit (.bool true)], args := [d] }
  | _ => none }
def fnExactCountPanesRow : OpenClaim := { program := "ytkkjcdilpbofmab", sum := "7e67e16a80afb5176ca2ad491ab2cdb94d9558f4fcaa9a5ba6861e2bb10f6147", func := "loop.example/g03303/laws.FnExactCountPanes", spec := "fnExactCountPanes", recurses := true, apart := false }
def FnExactCountPanesSaid : Prop := fnExactCountPanesRow.holds Try.pinned (OpenSpec.ofChange fnExactCountPanesSpec)

/-- ITS FALSE NEIGHBOUR: 'it returns false'. Refute it at one input. -/
def fnExactCountPanesWrong : ChangeSpec := { name := "fnExactCountPanes", fn := fun _ => fun
  | [d] => { results := [.lit (.bool false)], args := [d] }
  | _ => none }
def FnExactCountPanesWrongFalsely : Prop := fnExactCountPanesRow.holds Try.pinned (OpenSpec.ofChange fnExactCountPanesWrong)

/-- 'laws.FnExactIsForest': WHATEVER THE INPUT: true; the input reads as it did. -/
def fnExactIsForestSpec : ChangeSpec := { name := "fnExactIsForest", fn := fun _ => fun
  | [d] => { results := [.lit (.bool true)], args := [d] }
  | _ => none }
def fnExactIsForestRow : OpenClaim := { program := "ytkkjcdilpbofmab", sum := "7e67e16a80afb5176ca2ad491ab2cdb94d9558f4fcaa9a5ba6861e2bb10f6147", func := "loop.example/g03303/laws.FnExactIsForest", spec := "fnExactIsForest", recurses := true, apart := false }
def FnExactIsForestSaid : Prop := fnExactIsForestRow.holds Try.pinned (OpenSpec.ofChange fnExactIsForestSpec)

/-- ITS FALSE NEIGHBOUR: 'it returns false'. Refute it at one input. -/
def fnExactIsForestWrong : ChangeSpec := { name := "fnExactIsForest", fn := fun _ => fun
  | [d] => { results := [.lit (.bool false)], args := [d] }
  | _ => none }
def FnExactIsForestWrongFalsely : Prop := fnExactIsForestRow.holds Try.pinned (OpenSpec.ofChange fnExactIsForestWrong)

/-- 'laws.FnExactIsWhole': WHATEVER THE INPUT: true; the input reads as it did. -/
def fnExactIsWholeSpec : ChangeSpec := { name := "fnExactIsWhole", fn := fun _ => fun
  | [d] => { results := [.lit (.bool true)], args := [d] }
  | _ => none }
def fnExactIsWholeRow : OpenClaim := { program := "ytkkjcdilpbofmab", sum := "7e67e16a80afb5176ca2ad491ab2cdb94d9558f4fcaa9a5ba6861e2bb10f6147", func := "loop.example/g03303/laws.FnExactIsWhole", spec := "fnExactIsWhole", recurses := true, apart := false }
def FnExactIsWholeSaid : Prop := fnExactIsWholeRow.holds Try.pinned (OpenSpec.ofChange fnExactIsWholeSpec)

/-- ITS FALSE NEIGHBOUR: 'it returns false'. Refute it at one input. -/
def fnExactIsWholeWrong : ChangeSpec := { name := "fnExactIsWhole", fn := fun _ => fun
  | [d] => { results := [.lit (.bool false)], args := [d] }
  | _ => none }
def FnExactIsWholeWrongFalsely : Prop := fnExactIsWholeRow.holds Try.pinned (OpenSpec.ofChange fnExactIsWholeWrong)

/-- 'laws.FnExactAroundNode': WHATEVER THE INPUT: true; the input reads as it did. -/
def fnExactAroundNodeSpec : ChangeSpec := { name := "fnExactAroundNode", fn := fun _ => fun
  | [d1, d2] => { results := [.lit (.bool true)], args := [d1, d2] }
  | _ => none }
def fnExactAroundNodeRow : OpenClaim := { program := "ytkkjcdilpbofmab", sum := "7e67e16a80afb5176ca2ad491ab2cdb94d9558f4fcaa9a5ba6861e2bb10f6147", func := "loop.example/g03303/laws.FnExactAroundNode", spec := "fnExactAroundNode", unfollowed := true, recurses := true, apart := false }
def FnExactAroundNodeSaid : Prop := fnExactAroundNodeRow.holds Try.pinned (OpenSpec.ofChange fnExactAroundNodeSpec)

/-- ITS FALSE NEIGHBOUR: 'it returns false'. Refute it at one input. -/
def fnExactAroundNodeWrong : ChangeSpec := { name := "fnExactAroundNode", fn := fun _ => fun
  | [d1, d2] => { results := [.lit (.bool false)], args := [d1, d2] }
  | _ => none }
def FnExactAroundNodeWrongFalsely : Prop := fnExactAroundNodeRow.holds Try.pinned (OpenSpec.ofChange fnExactAroundNodeWrong)

/-- 'laws.FnExactNextAround': WHATEVER THE INPUT: true; the input reads as it did. -/
def fnExactNextAroundSpec : ChangeSpec := { name := "fnExactNextAround", fn := fun _ => fun
  | [d1, d2] => { results := [.lit (.bool true)], args := [d1, d2] }
  | _ => none }
def fnExactNextAroundRow : OpenClaim := { program := "ytkkjcdilpbofmab", sum := "7e67e16a80afb5176ca2ad491ab2cdb94d9558f4fcaa9a5ba6861e2bb10f6147", func := "loop.example/g03303/laws.FnExactNextAround", spec := "fnExactNextAround", unfollowed := true, recurses := true, apart := false }
def FnExactNextAroundSaid : Prop := fnExactNextAroundRow.holds Try.pinned (OpenSpec.ofChange fnExactNextAroundSpec)

/-- ITS FALSE NEIGHBOUR: 'it returns false'. Refute it at one input. -/
def fnExactNextAroundWrong : ChangeSpec := { name := "fnExactNextAround", fn := fun _ => fun
  | [d1, d2] => { results := [.lit (.bool false)], args := [d1, d2] }
  | _ => none }
def FnExactNextAroundWrongFalsely : Prop := fnExactNextAroundRow.holds Try.pinned (OpenSpec.ofChange fnExactNextAroundWrong)

/-- 'laws.FnExactLastAround': WHATEVER THE INPUT: true; the input reads as it did. -/
def fnExactLastAroundSpec : ChangeSpec := { name := "fnExactLastAround", fn := fun _ => fun
  | [d1, d2] => { results := [.lit (.bool true)], args := [d1, d2] }
  | _ => none }
def fnExactLastAroundRow : OpenClaim := { program := "ytkkjcdilpbofmab", sum := "7e67e16a80afb5176ca2ad491ab2cdb94d9558f4fcaa9a5ba6861e2bb10f6147", func := "loop.example/g03303/laws.FnExactLastAround", spec := "fnExactLastAround", unfollowed := true, recurses := true, apart := false }
def FnExactLastAroundSaid : Prop := fnExactLastAroundRow.holds Try.pinned (OpenSpec.ofChange fnExactLastAroundSpec)

/-- ITS FALSE NEIGHBOUR: 'it returns false'. Refute it at one input. -/
def fnExactLastAroundWrong : ChangeSpec := { name := "fnExactLastAround", fn := fun _ => fun
  | [d1, d2] => { results := [.lit (.bool false)], args := [d1, d2] }
  | _ => none }
def FnExactLastAroundWrongFalsely : Prop := fnExactLastAroundRow.holds Try.pinned (OpenSpec.ofChange fnExactLastAroundWrong)

/-- 'laws.FnExactSplitLead': WHATEVER THE INPUT: true; the input reads as it did. -/
def fnExactSplitLeadSpec : ChangeSpec := { name := "fnExactSplitLead", fn := fun _ => fun
  | [d1, d2, d3] => { results := [.lit (.bool true)], args := [d1, d2, d3] }
  | _ => none }
def fnExactSplitLeadRow : OpenClaim := { program := "ytkkjcdilpbofmab", sum := "7e67e16a80afb5176ca2ad491ab2cdb94d9558f4fcaa9a5ba6861e2bb10f6147", func := "loop.example/g03303/laws.FnExactSplitLead", spec := "fnExactSplitLead", apart := false }
def FnExactSplitLeadSaid : Prop := fnExactSplitLeadRow.holds Try.pinned (OpenSpec.ofChange fnExactSplitLeadSpec)

/-- ITS FALSE NEIGHBOUR: 'it returns false'. Refute it at one input. -/
def fnExactSplitLeadWrong : ChangeSpec := { name := "fnExactSplitLead", fn := fun _ => fun
  | [d1, d2, d3] => { results := [.lit (.bool false)], args := [d1, d2, d3] }
  | _ => none }
def FnExactSplitLeadWrongFalsely : Prop := fnExactSplitLeadRow.holds Try.pinned (OpenSpec.ofChange fnExactSplitLeadWrong)

/-- 'laws.FnExactDropNode': WHATEVER THE INPUT: true; the input reads as it did. -/
def fnExactDropNodeSpec : ChangeSpec := { name := "fnExactDropNode", fn := fun _ => fun
  | [d1, d2] => { results := [.lit (.bool true)], args := [d1, d2] }
  | _ => none }
def fnExactDropNodeRow : OpenClaim := { program := "ytkkjcdilpbofmab", sum := "7e67e16a80afb5176ca2ad491ab2cdb94d9558f4fcaa9a5ba6861e2bb10f6147", func := "loop.example/g03303/laws.FnExactDropNode", spec := "fnExactDropNode", unfollowed := true, recurses := true, apart := false }
def FnExactDropNodeSaid : Prop := fnExactDropNodeRow.holds Try.pinned (OpenSpec.ofChange fnExactDropNodeSpec)

/-- ITS FALSE NEIGHBOUR: 'it returns false'. Refute it at one input. -/
def fnExactDropNodeWrong : ChangeSpec := { name := "fnExactDropNode", fn := fun _ => fun
  | [d1, d2] => { results := [.lit (.bool false)], args := [d1, d2] }
  | _ => none }
def FnExactDropNodeWrongFalsely : Prop := fnExactDropNodeRow.holds Try.pinned (OpenSpec.ofChange fnExactDropNodeWrong)

/- THE SECOND FORM. 'bulk': how many values and letters a reading holds, each counted each time it is reached (what is shared counts as often as it is met; a slice's spare places count too). A statement '..UptoSaid' is the law's where the arguments, and the package variables that the reading takes, are together of bulk at most 1048576: NARROWER than '..Said'. Prove '..Said' where nothing that the law and all that it calls make is longer than what came in: it says more and counts as full. Else prove '..UptoSaid'. A law counts once. -/
mutual
def uptoBulk {H : Type} : DataW H → Nat
  | .lit (.string bytes) => bytes.length + 1
  | .lit _ => 1
  | .nil => 1
  | .ptr d => uptoBulk d + 1
  | .slice elems spare => uptoBulkAll elems + uptoBulkAll spare + 1
  | .agg parts => uptoBulkAll parts + 1
  | .iface _ d => uptoBulk d + 1
  | .map entries => uptoBulkEntries entries + 1
  | .held _ => 1
def uptoBulkAll {H : Type} : List (DataW H) → Nat
  | [] => 0
  | d :: r => uptoBulk d + uptoBulkAll r
def uptoBulkEntries {H : Type} : List (Lit × DataW H) → Nat
  | [] => 0
  | x :: r => uptoBulkEntry x + uptoBulkEntries r
def uptoBulkEntry {H : Type} : Lit × DataW H → Nat
  | (.string bytes, d) => bytes.length + uptoBulk d + 1
  | (_, d) => uptoBulk d + 1
 end
def uptoSmall : (H : Type) → List (DataW H) → Bool := fun _ ds => decide (uptoBulkAll ds ≤ 1048576)
def OpenSpec.upto (s : _root_.Go.ChangeSpec) : _root_.Go.OpenSpec := { _root_.Go.OpenSpec.ofChange s with cond := some uptoSmall }

/-- 'laws.FnWindows', WHERE WHAT IT READS IS OF BULK AT MOST 1048576: true; the input reads as it did. -/
def fnWindowsUptoRow : OpenClaim := { program := "ytkkjcdilpbofmab", sum := "7e67e16a80afb5176ca2ad491ab2cdb94d9558f4fcaa9a5ba6861e2bb10f6147", func := "loop.example/g03303/laws.FnWindows", spec := "fnWindows", apart := false, narrowed := true }
def FnWindowsUptoSaid : Prop := fnWindowsUptoRow.holds Try.pinned (OpenSpec.upto fnWindowsSpec)

/-- 'laws.FnExactPartOf', WHERE WHAT IT READS IS OF BULK AT MOST 1048576: true; the input reads as it did. -/
def fnExactPartOfUptoRow : OpenClaim := { program := "ytkkjcdilpbofmab", sum := "7e67e16a80afb5176ca2ad491ab2cdb94d9558f4fcaa9a5ba6861e2bb10f6147", func := "loop.example/g03303/laws.FnExactPartOf", spec := "fnExactPartOf", recurses := true, apart := false, narrowed := true }
def FnExactPartOfUptoSaid : Prop := fnExactPartOfUptoRow.holds Try.pinned (OpenSpec.upto fnExactPartOfSpec)

/-- 'laws.FnExactCountParts', WHERE WHAT IT READS IS OF BULK AT MOST 1048576: true; the input reads as it did. -/
def fnExactCountPartsUptoRow : OpenClaim := { program := "ytkkjcdilpbofmab", sum := "7e67e16a80afb5176ca2ad491ab2cdb94d9558f4fcaa9a5ba6861e2bb10f6147", func := "loop.example/g03303/laws.FnExactCountParts", spec := "fnExactCountParts", recurses := true, apart := false, narrowed := true }
def FnExactCountPartsUptoSaid : Prop := fnExactCountPartsUptoRow.holds Try.pinned (OpenSpec.upto fnExactCountPartsSpec)

/-- 'laws.FnExactCountFaces', WHERE WHAT IT READS IS OF BULK AT MOST 1048576: true; the input reads as it did. -/
def fnExactCountFacesUptoRow : OpenClaim := { program := "ytkkjcdilpbofmab", sum := "7e67e16a80afb5176ca2ad491ab2cdb94d9558f4fcaa9a5ba6861e2bb10f6147", func := "loop.example/g03303/laws.FnExactCountFaces", spec := "fnExactCountFaces", recurses := true, apart := false, narrowed := true }
def FnExactCountFacesUptoSaid : Prop := fnExactCountFacesUptoRow.holds Try.pinned (OpenSpec.upto fnExactCountFacesSpec)

/-- 'laws.FnExactCountPanes', WHERE WHAT IT READS IS OF BULK AT MOST 1048576: true; the input reads as it did. -/
def fnExactCountPanesUptoRow : OpenClaim := { program := "ytkkjcdilpbofmab", sum := "7e67e16a80afb5176ca2ad491ab2cdb94d9558f4fcaa9a5ba6861e2bb10f6147", func := "loop.example/g03303/laws.FnExactCountPanes", spec := "fnExactCountPanes", recurses := true, apart := false, narrowed := true }
def FnExactCountPanesUptoSaid : Prop := fnExactCountPanesUptoRow.holds Try.pinned (OpenSpec.upto fnExactCountPanesSpec)

/-- 'laws.FnExactIsForest', WHERE WHAT IT READS IS OF BULK AT MOST 1048576: true; the input reads as it did. -/
def fnExactIsForestUptoRow : OpenClaim := { program := "ytkkjcdilpbofmab", sum := "7e67e16a80afb5176ca2ad491ab2cdb94d9558f4fcaa9a5ba6861e2bb10f6147", func := "loop.example/g03303/laws.FnExactIsForest", spec := "fnExactIsForest", recurses := true, apart := false, narrowed := true }
def FnExactIsForestUptoSaid : Prop := fnExactIsForestUptoRow.holds Try.pinned (OpenSpec.upto fnExactIsForestSpec)

/-- 'laws.FnExactIsWhole', WHERE WHAT IT READS IS OF BULK AT MOST 1048576: true; the input reads as it did. -/
def fnExactIsWholeUptoRow : OpenClaim := { program := "ytkkjcdilpbofmab", sum := "7e67e16a80afb5176ca2ad491ab2cdb94d9558f4fcaa9a5ba6861e2bb10f6147", func := "loop.example/g03303/laws.FnExactIsWhole", spec := "fnExactIsWhole", recurses := true, apart := false, narrowed := true }
def FnExactIsWholeUptoSaid : Prop := fnExactIsWholeUptoRow.holds Try.pinned (OpenSpec.upto fnExactIsWholeSpec)

/-- 'laws.FnExactAroundNode', WHERE WHAT IT READS IS OF BULK AT MOST 1048576: true; the input reads as it did. -/
def fnExactAroundNodeUptoRow : OpenClaim := { program := "ytkkjcdilpbofmab", sum := "7e67e16a80afb5176ca2ad491ab2cdb94d9558f4fcaa9a5ba6861e2bb10f6147", func := "loop.example/g03303/laws.FnExactAroundNode", spec := "fnExactAroundNode", unfollowed := true, recurses := true, apart := false, narrowed := true }
def FnExactAroundNodeUptoSaid : Prop := fnExactAroundNodeUptoRow.holds Try.pinned (OpenSpec.upto fnExactAroundNodeSpec)

/-- 'laws.FnExactNextAround', WHERE WHAT IT READS IS OF BULK AT MOST 1048576: true; the input reads as it did. -/
def fnExactNextAroundUptoRow : OpenClaim := { program := "ytkkjcdilpbofmab", sum := "7e67e16a80afb5176ca2ad491ab2cdb94d9558f4fcaa9a5ba6861e2bb10f6147", func := "loop.example/g03303/laws.FnExactNextAround", spec := "fnExactNextAround", unfollowed := true, recurses := true, apart := false, narrowed := true }
def FnExactNextAroundUptoSaid : Prop := fnExactNextAroundUptoRow.holds Try.pinned (OpenSpec.upto fnExactNextAroundSpec)

/-- 'laws.FnExactLastAround', WHERE WHAT IT READS IS OF BULK AT MOST 1048576: true; the input reads as it did. -/
def fnExactLastAroundUptoRow : OpenClaim := { program := "ytkkjcdilpbofmab", sum := "7e67e16a80afb5176ca2ad491ab2cdb94d9558f4fcaa9a5ba6861e2bb10f6147", func := "loop.example/g03303/laws.FnExactLastAround", spec := "fnExactLastAround", unfollowed := true, recurses := true, apart := false, narrowed := true }
def FnExactLastAroundUptoSaid : Prop := fnExactLastAroundUptoRow.holds Try.pinned (OpenSpec.upto fnExactLastAroundSpec)

/-- 'laws.FnExactSplitLead', WHERE WHAT IT READS IS OF BULK AT MOST 1048576: true; the input reads as it did. -/
def fnExactSplitLeadUptoRow : OpenClaim := { program := "ytkkjcdilpbofmab", sum := "7e67e16a80afb5176ca2ad491ab2cdb94d9558f4fcaa9a5ba6861e2bb10f6147", func := "loop.example/g03303/laws.FnExactSplitLead", spec := "fnExactSplitLead", apart := false, narrowed := true }
def FnExactSplitLeadUptoSaid : Prop := fnExactSplitLeadUptoRow.holds Try.pinned (OpenSpec.upto fnExactSplitLeadSpec)

/-- 'laws.FnExactDropNode', WHERE WHAT IT READS IS OF BULK AT MOST 1048576: true; the input reads as it did. -/
def fnExactDropNodeUptoRow : OpenClaim := { program := "ytkkjcdilpbofmab", sum := "7e67e16a80afb5176ca2ad491ab2cdb94d9558f4fcaa9a5ba6861e2bb10f6147", func := "loop.example/g03303/laws.FnExactDropNode", spec := "fnExactDropNode", unfollowed := true, recurses := true, apart := false, narrowed := true }
def FnExactDropNodeUptoSaid : Prop := fnExactDropNodeUptoRow.holds Try.pinned (OpenSpec.upto fnExactDropNodeSpec)

end Rows
end Go.Proofs.Ytkkjcdilpbofmab
