/-
  No cell of these rows narrows 'for every input' (looked for: loops, veiled, ifaces, maps, wideKeys, modest, calm, conditions, laid).
  DERIVED. THE GIVEN ROWS OF THIS SEAT. 11 by the template 'for every input the law returns true; each argument reads behind the call as it read before'; 0 by the template 'total and deterministic' (their statements: YtfppnaknnijobaaTotals.lean).
  GIVEN WITH THE SEED: the statements are not yours to turn. If you find one false, say at which input.
  Laid BY PROGRAM, IN A SANDBOX (cutbox-rows.mjs): the forced cells as the released guide's own fill.sh prints them over the translation dcc245b029fe7e88… (all of the seat's roots in one cut). By AI agents, Wed Nov 11 2026. No macro, syntax, notation, axiom, sorry.
-/
import Derived.Test.YtfppnaknnijobaaChecked
import GoSem.Claim
import GoSem.ClaimJoined
import GoSem.ClaimMapViews
import Derived.JoinedTies
import Derived.KernelRfl
namespace Go.Proofs.Ytfppnaknnijobaa
/- THE CELL 'sum', in the pinned program and in every row, IS THE sha256 OF THE DUMP (.gsa) THAT YtfppnaknnijobaaProg.lean LOADS. Nothing in Lean hashes anything: it is a label: what it is worth is what the hold of that sum in a sandbox is worth. -/
noncomputable def Try.pinned : Pinned := { name := "ytfppnaknnijobaa", sum := "dcc245b029fe7e88f4403ac6b2932efde92593d90a9a811033d3e3c46ca0139c", checked := Try.checked }
namespace Rows
def none {H : Type} : Left H := { results := [], args := [] }

/-- 'laws.FnExactCrossedBy': WHATEVER THE INPUT: true; the input reads as it did. -/
def fnExactCrossedBySpec : ChangeSpec := { name := "fnExactCrossedBy", fn := fun _ => fun
  | [d1, d2, d3] => { results := [.lit (.bool true)], args := [d1, d2, d3] }
  | _ => none }
def fnExactCrossedByRow : OpenClaim := { program := "ytfppnaknnijobaa", sum := "dcc245b029fe7e88f4403ac6b2932efde92593d90a9a811033d3e3c46ca0139c", func := "loop.example/g03303/laws.FnExactCrossedBy", spec := "fnExactCrossedBy", apart := false }
def FnExactCrossedBySaid : Prop := fnExactCrossedByRow.holds Try.pinned (OpenSpec.ofChange fnExactCrossedBySpec)

/-- ITS FALSE NEIGHBOUR: 'it returns false'. Refute it at one input. -/
def fnExactCrossedByWrong : ChangeSpec := { name := "fnExactCrossedBy", fn := fun _ => fun
  | [d1, d2, d3] => { results := [.lit (.bool false)], args := [d1, d2, d3] }
  | _ => none }
def FnExactCrossedByWrongFalsely : Prop := fnExactCrossedByRow.holds Try.pinned (OpenSpec.ofChange fnExactCrossedByWrong)

/-- 'laws.FnExactUnheldLeads': WHATEVER THE INPUT: true; the input reads as it did. -/
def fnExactUnheldLeadsSpec : ChangeSpec := { name := "fnExactUnheldLeads", fn := fun _ => fun
  | [d1, d2] => { results := [.lit (.bool true)], args := [d1, d2] }
  | _ => none }
def fnExactUnheldLeadsRow : OpenClaim := { program := "ytfppnaknnijobaa", sum := "dcc245b029fe7e88f4403ac6b2932efde92593d90a9a811033d3e3c46ca0139c", func := "loop.example/g03303/laws.FnExactUnheldLeads", spec := "fnExactUnheldLeads", apart := false }
def FnExactUnheldLeadsSaid : Prop := fnExactUnheldLeadsRow.holds Try.pinned (OpenSpec.ofChange fnExactUnheldLeadsSpec)

/-- ITS FALSE NEIGHBOUR: 'it returns false'. Refute it at one input. -/
def fnExactUnheldLeadsWrong : ChangeSpec := { name := "fnExactUnheldLeads", fn := fun _ => fun
  | [d1, d2] => { results := [.lit (.bool false)], args := [d1, d2] }
  | _ => none }
def FnExactUnheldLeadsWrongFalsely : Prop := fnExactUnheldLeadsRow.holds Try.pinned (OpenSpec.ofChange fnExactUnheldLeadsWrong)

/-- 'laws.FnExactFewestBars': WHATEVER THE INPUT: true; the input reads as it did. -/
def fnExactFewestBarsSpec : ChangeSpec := { name := "fnExactFewestBars", fn := fun _ => fun
  | [d1, d2] => { results := [.lit (.bool true)], args := [d1, d2] }
  | _ => none }
def fnExactFewestBarsRow : OpenClaim := { program := "ytfppnaknnijobaa", sum := "dcc245b029fe7e88f4403ac6b2932efde92593d90a9a811033d3e3c46ca0139c", func := "loop.example/g03303/laws.FnExactFewestBars", spec := "fnExactFewestBars", unfollowed := true, recurses := true, apart := false }
def FnExactFewestBarsSaid : Prop := fnExactFewestBarsRow.holds Try.pinned (OpenSpec.ofChange fnExactFewestBarsSpec)

/-- ITS FALSE NEIGHBOUR: 'it returns false'. Refute it at one input. -/
def fnExactFewestBarsWrong : ChangeSpec := { name := "fnExactFewestBars", fn := fun _ => fun
  | [d1, d2] => { results := [.lit (.bool false)], args := [d1, d2] }
  | _ => none }
def FnExactFewestBarsWrongFalsely : Prop := fnExactFewestBarsRow.holds Try.pinned (OpenSpec.ofChange fnExactFewestBarsWrong)

/-- 'laws.FnExactDropNode': WHATEVER THE INPUT: true; the input reads as it did. -/
def fnExactDropNodeSpec : ChangeSpec := { name := "fnExactDropNode", fn := fun _ => fun
  | [d1, d2] => { results := [.lit (.bool true)], args := [d1, d2] }
  | _ => none }
def fnExactDropNodeRow : OpenClaim := { program := "ytfppnaknnijobaa", sum := "dcc245b029fe7e88f4403ac6b2932efde92593d90a9a811033d3e3c46ca0139c", func := "loop.example/g03303/laws.FnExactDropNode", spec := "fnExactDropNode", unfollowed := true, recurses := true, apart := false }
def FnExactDropNodeSaid : Prop := fnExactDropNodeRow.holds Try.pinned (OpenSpec.ofChange fnExactDropNodeSpec)

/-- ITS FALSE NEIGHBOUR: 'it returns false'. Refute it at one input. -/
def fnExactDropNodeWrong : ChangeSpec := { name := "fnExactDropNode", fn := fun _ => fun
  | [d1, d2] => { results := [.lit (.bool false)], args := [d1, d2] }
  | _ => none }
def FnExactDropNodeWrongFalsely : Prop := fnExactDropNodeRow.holds Try.pinned (OpenSpec.ofChange fnExactDropNodeWrong)

/-- 'laws.FnExactSplitLead': WHATEVER THE INPUT: true; the input reads as it did. -/
def fnExactSplitLeadSpec : ChangeSpec := { name := "fnExactSplitLead", fn := fun _ => fun
  | [d1, d2, d3] => { results := [.lit (.bool true)], args := [d1, d2, d3] }
  | _ => none }
def fnExactSplitLeadRow : OpenClaim := { program := "ytfppnaknnijobaa", sum := "dcc245b029fe7e88f4403ac6b2932efde92593d90a9a811033d3e3c46ca0139c", func := "loop.example/g03303/laws.FnExactSplitLead", spec := "fnExactSplitLead", apart := false }
def FnExactSplitLeadSaid : Prop := fnExactSplitLeadRow.holds Try.pinned (OpenSpec.ofChange fnExactSplitLeadSpec)

/-- ITS FALSE NEIGHBOUR: 'it returns false'. Refute it at one input. -/
def fnExactSplitLeadWrong : ChangeSpec := { name := "fnExactSplitLead", fn := fun _ => fun
  | [d1, d2, d3] => { results := [.lit (.bool false)], args := [d1, d2, d3] }
  | _ => none }
def FnExactSplitLeadWrongFalsely : Prop := fnExactSplitLeadRow.holds Try.pinned (OpenSpec.ofChange fnExactSplitLeadWrong)

/-- 'laws.FnExactJoinLeads': WHATEVER THE INPUT: true; the input reads as it did. -/
def fnExactJoinLeadsSpec : ChangeSpec := { name := "fnExactJoinLeads", fn := fun _ => fun
  | [d1, d2] => { results := [.lit (.bool true)], args := [d1, d2] }
  | _ => none }
def fnExactJoinLeadsRow : OpenClaim := { program := "ytfppnaknnijobaa", sum := "dcc245b029fe7e88f4403ac6b2932efde92593d90a9a811033d3e3c46ca0139c", func := "loop.example/g03303/laws.FnExactJoinLeads", spec := "fnExactJoinLeads", unfollowed := true, recurses := true, apart := false }
def FnExactJoinLeadsSaid : Prop := fnExactJoinLeadsRow.holds Try.pinned (OpenSpec.ofChange fnExactJoinLeadsSpec)

/-- ITS FALSE NEIGHBOUR: 'it returns false'. Refute it at one input. -/
def fnExactJoinLeadsWrong : ChangeSpec := { name := "fnExactJoinLeads", fn := fun _ => fun
  | [d1, d2] => { results := [.lit (.bool false)], args := [d1, d2] }
  | _ => none }
def FnExactJoinLeadsWrongFalsely : Prop := fnExactJoinLeadsRow.holds Try.pinned (OpenSpec.ofChange fnExactJoinLeadsWrong)

/-- 'laws.FnExactSimplify': WHATEVER THE INPUT: true; the input reads as it did. -/
def fnExactSimplifySpec : ChangeSpec := { name := "fnExactSimplify", fn := fun _ => fun
  | [d] => { results := [.lit (.bool true)], args := [d] }
  | _ => none }
def fnExactSimplifyRow : OpenClaim := { program := "ytfppnaknnijobaa", sum := "dcc245b029fe7e88f4403ac6b2932efde92593d90a9a811033d3e3c46ca0139c", func := "loop.example/g03303/laws.FnExactSimplify", spec := "fnExactSimplify", unfollowed := true, recurses := true, apart := false }
def FnExactSimplifySaid : Prop := fnExactSimplifyRow.holds Try.pinned (OpenSpec.ofChange fnExactSimplifySpec)

/-- ITS FALSE NEIGHBOUR: 'it returns false'. Refute it at one input. -/
def fnExactSimplifyWrong : ChangeSpec := { name := "fnExactSimplify", fn := fun _ => fun
  | [d] => { results := [.lit (.bool false)], args := [d] }
  | _ => none }
def FnExactSimplifyWrongFalsely : Prop := fnExactSimplifyRow.holds Try.pinned (OpenSpec.ofChange fnExactSimplifyWrong)

/-- 'laws.FnExactTurnShape': WHATEVER THE INPUT: true; the input reads as it did. -/
def fnExactTurnShapeSpec : ChangeSpec := { name := "fnExactTurnShape", fn := fun _ => fun
  | [d] => { results := [.lit (.bool true)], args := [d] }
  | _ => none }
def fnExactTurnShapeRow : OpenClaim := { program := "ytfppnaknnijobaa", sum := "dcc245b029fe7e88f4403ac6b2932efde92593d90a9a811033d3e3c46ca0139c", func := "loop.example/g03303/laws.FnExactTurnShape", spec := "fnExactTurnShape", unfollowed := true, recurses := true, apart := false }
def FnExactTurnShapeSaid : Prop := fnExactTurnShapeRow.holds Try.pinned (OpenSpec.ofChange fnExactTurnShapeSpec)

/-- ITS FALSE NEIGHBOUR: 'it returns false'. Refute it at one input. -/
def fnExactTurnShapeWrong : ChangeSpec := { name := "fnExactTurnShape", fn := fun _ => fun
  | [d] => { results := [.lit (.bool false)], args := [d] }
  | _ => none }
def FnExactTurnShapeWrongFalsely : Prop := fnExactTurnShapeRow.holds Try.pinned (OpenSpec.ofChange fnExactTurnShapeWrong)

/-- 'laws.FnExactMirrorShape': WHATEVER THE INPUT: true; the input reads as it did. -/
def fnExactMirrorShapeSpec : ChangeSpec := { name := "fnExactMirrorShape", fn := fun _ => fun
  | [d] => { results := [.lit (.bool true)], args := [d] }
  | _ => none }
def fnExactMirrorShapeRow : OpenClaim := { program := "ytfppnaknnijobaa", sum := "dcc245b029fe7e88f4403ac6b2932efde92593d90a9a811033d3e3c46ca0139c", func := "loop.example/g03303/laws.FnExactMirrorShape", spec := "fnExactMirrorShape", unfollowed := true, recurses := true, apart := false }
def FnExactMirrorShapeSaid : Prop := fnExactMirrorShapeRow.holds Try.pinned (OpenSpec.ofChange fnExactMirrorShapeSpec)

/-- ITS FALSE NEIGHBOUR: 'it returns false'. Refute it at one input. -/
def fnExactMirrorShapeWrong : ChangeSpec := { name := "fnExactMirrorShape", fn := fun _ => fun
  | [d] => { results := [.lit (.bool false)], args := [d] }
  | _ => none }
def FnExactMirrorShapeWrongFalsely : Prop := fnExactMirrorShapeRow.holds Try.pinned (OpenSpec.ofChange fnExactMirrorShapeWrong)

/-- 'laws.FnExactAreAlike': WHATEVER THE INPUT: true; the input reads as it did. -/
def fnExactAreAlikeSpec : ChangeSpec := { name := "fnExactAreAlike", fn := fun _ => fun
  | [d1, d2] => { results := [.lit (.bool true)], args := [d1, d2] }
  | _ => none }
def fnExactAreAlikeRow : OpenClaim := { program := "ytfppnaknnijobaa", sum := "dcc245b029fe7e88f4403ac6b2932efde92593d90a9a811033d3e3c46ca0139c", func := "loop.example/g03303/laws.FnExactAreAlike", spec := "fnExactAreAlike", unfollowed := true, recurses := true, apart := false }
def FnExactAreAlikeSaid : Prop := fnExactAreAlikeRow.holds Try.pinned (OpenSpec.ofChange fnExactAreAlikeSpec)

/-- ITS FALSE NEIGHBOUR: 'it returns false'. Refute it at one input. -/
def fnExactAreAlikeWrong : ChangeSpec := { name := "fnExactAreAlike", fn := fun _ => fun
  | [d1, d2] => { results := [.lit (.bool false)], args := [d1, d2] }
  | _ => none }
def FnExactAreAlikeWrongFalsely : Prop := fnExactAreAlikeRow.holds Try.pinned (OpenSpec.ofChange fnExactAreAlikeWrong)

/-- 'laws.FnExactAreMirrored': WHATEVER THE INPUT: true; the input reads as it did. -/
def fnExactAreMirroredSpec : ChangeSpec := { name := "fnExactAreMirrored", fn := fun _ => fun
  | [d1, d2] => { results := [.lit (.bool true)], args := [d1, d2] }
  | _ => none }
def fnExactAreMirroredRow : OpenClaim := { program := "ytfppnaknnijobaa", sum := "dcc245b029fe7e88f4403ac6b2932efde92593d90a9a811033d3e3c46ca0139c", func := "loop.example/g03303/laws.FnExactAreMirrored", spec := "fnExactAreMirrored", unfollowed := true, recurses := true, apart := false }
def FnExactAreMirroredSaid : Prop := fnExactAreMirroredRow.holds Try.pinned (OpenSpec.ofChange fnExactAreMirroredSpec)

/-- ITS FALSE NEIGHBOUR: 'it returns false'. Refute it at one input. -/
def fnExactAreMirroredWrong : ChangeSpec := { name := "fnExactAreMirrored", fn := fun _ => fun
  | [d1, d2] => { results := [.lit (.bool false)], args := [d1, d2] }
  | _ => none }
def FnExactAreMirroredWrongFalsely : Prop := fnExactAreMirroredRow.holds Try.pinned (OpenSpec.ofChange fnExactAreMirroredWrong)

/- THE SECOND FORM. 'bulk': how many values and letters a reading holds, each counted each time it is reached (what is shared counts as often as it is met; a slice's spare places count too). A statement '..UptoSaid' is the law's where the arguments, and the package variables that the reading takes, are together of bulk at most 1048576: NARROWER than '..Said'. Prove '..Said' where nothing that the law and all that it calls make is longer than what came in: it says more and counts as full. Else prove '..UptoSaid'. A law counts once. -/
mutual
def uptoBulk {H : Type} : DataW H → Nat
  | .lit (.string bytes) => bytes.length + 1
  | .lit _ => 1
  | .nil => 1
  | .ptr d => uptoBulk d + 1
  | .slice elems spare => uptoBulkAll elems + uptoBulkAll spare + 1
  | .agg parts => uptoBulkAll parts + 1
  | .iface _ d => uptoBulk d + 1
  | .map entries => uptoBulkEntries entries + 1
  | .held _ => 1
def uptoBulkAll {H : Type} : List (DataW H) → Nat
  | [] => 0
  | d :: r => uptoBulk d + uptoBulkAll r
def uptoBulkEntries {H : Type} : List (Lit × DataW H) → Nat
  | [] => 0
  | x :: r => uptoBulkEntry x + uptoBulkEntries r
def uptoBulkEntry {H : Type} : Lit × DataW H → Nat
  | (.string bytes, d) => bytes.length + uptoBulk d + 1
  | (_, d) => uptoBulk d + 1
 end
def uptoSmall : (H : Type) → List (DataW H) → Bool := fun _ ds => decide (uptoBulkAll ds ≤ 1048576)
def OpenSpec.upto (s : _root_.Go.ChangeSpec) : _root_.Go.OpenSpec := { _root_.Go.OpenSpec.ofChange s with cond := some uptoSmall }

/-- 'laws.FnExactCrossedBy', WHERE WHAT IT READS IS OF BULK AT MOST 1048576: true; the input reads as it did. -/
def fnExactCrossedByUptoRow : OpenClaim := { program := "ytfppnaknnijobaa", sum := "dcc245b029fe7e88f4403ac6b2932efde92593d90a9a811033d3e3c46ca0139c", func := "loop.example/g03303/laws.FnExactCrossedBy", spec := "fnExactCrossedBy", apart := false, narrowed := true }
def FnExactCrossedByUptoSaid : Prop := fnExactCrossedByUptoRow.holds Try.pinned (OpenSpec.upto fnExactCrossedBySpec)

/-- 'laws.FnExactUnheldLeads', WHERE WHAT IT READS IS OF BULK AT MOST 1048576: true; the input reads as it did. -/
def fnExactUnheldLeadsUptoRow : OpenClaim := { program := "ytfppnaknnijobaa", sum := "dcc245b029fe7e88f4403ac6b2932efde92593d90a9a811033d3e3c46ca0139c", func := "loop.example/g03303/laws.FnExactUnheldLeads", spec := "fnExactUnheldLeads", apart := false, narrowed := true }
def FnExactUnheldLeadsUptoSaid : Prop := fnExactUnheldLeadsUptoRow.holds Try.pinned (OpenSpec.upto fnExactUnheldLeadsSpec)

/-- 'laws.FnExactFewestBars', WHERE WHAT IT READS IS OF BULK AT MOST 1048576: true; the input reads as it did. -/
def fnExactFewestBarsUptoRow : OpenClaim := { program := "ytfppnaknnijobaa", sum := "dcc245b029fe7e88f4403ac6b2932efde92593d90a9a811033d3e3c46ca0139c", func := "loop.example/g03303/laws.FnExactFewestBars", spec := "fnExactFewestBars", unfollowed := true, recurses := true, apart := false, narrowed := true }
def FnExactFewestBarsUptoSaid : Prop := fnExactFewestBarsUptoRow.holds Try.pinned (OpenSpec.upto fnExactFewestBarsSpec)

/-- 'laws.FnExactDropNode', WHERE WHAT IT READS IS OF BULK AT MOST 1048576: true; the input reads as it did. -/
def fnExactDropNodeUptoRow : OpenClaim := { program := "ytfppnaknnijobaa", sum := "dcc245b029fe7e88f4403ac6b2932efde92593d90a9a811033d3e3c46ca0139c", func := "loop.example/g03303/laws.FnExactDropNode", spec := "fnExactDropNode", unfollowed := true, recurses := true, apart := false, narrowed := true }
def FnExactDropNodeUptoSaid : Prop := fnExactDropNodeUptoRow.holds Try.pinned (OpenSpec.upto fnExactDropNodeSpec)

/-- 'laws.FnExactSplitLead', WHERE WHAT IT READS IS OF BULK AT MOST 1048576: true; the input reads as it did. -/
def fnExactSplitLeadUptoRow : OpenClaim := { program := "ytfppnaknnijobaa", sum := "dcc245b029fe7e88f4403ac6b2932efde92593d90a9a811033d3e3c46ca0139c", func := "loop.example/g03303/laws.FnExactSplitLead", spec := "fnExactSplitLead", apart := false, narrowed := true }
def FnExactSplitLeadUptoSaid : Prop := fnExactSplitLeadUptoRow.holds Try.pinned (OpenSpec.upto fnExactSplitLeadSpec)

/-- 'laws.FnExactJoinLeads', WHERE WHAT IT READS IS OF BULK AT MOST 1048576: true; the input reads as it did. -/
def fnExactJoinLeadsUptoRow : OpenClaim := { program := "ytfppnaknnijobaa", sum := "dcc245b029fe7e88f4403ac6b2932efde92593d90a9a811033d3e3c46ca0139c", func := "loop.example/g03303/laws.FnExactJoinLeads", spec := "fnExactJoinLeads", unfollowed := true, recurses := true, apart := false, narrowed := true }
def FnExactJoinLeadsUptoSaid : Prop := fnExactJoinLeadsUptoRow.holds Try.pinned (OpenSpec.upto fnExactJoinLeadsSpec)

/-- 'laws.FnExactSimplify', WHERE WHAT IT READS IS OF BULK AT MOST 1048576: true; the input reads as it did. -/
def fnExactSimplifyUptoRow : OpenClaim := { program := "ytfppnaknnijobaa", sum := "dcc245b029fe7e88f4403ac6b2932efde92593d90a9a811033d3e3c46ca0139c", func := "loop.example/g03303/laws.FnExactSimplify", spec := "fnExactSimplify", unfollowed := true, recurses := true, apart := false, narrowed := true }
def FnExactSimplifyUptoSaid : Prop := fnExactSimplifyUptoRow.holds Try.pinned (OpenSpec.upto fnExactSimplifySpec)

/-- 'laws.FnExactTurnShape', WHERE WHAT IT READS IS OF BULK AT MOST 1048576: true; the input reads as it did. -/
def fnExactTurnShapeUptoRow : OpenClaim := { program := "ytfppnaknnijobaa", sum := "dcc245b029fe7e88f4403ac6b2932efde92593d90a9a811033d3e3c46ca0139c", func := "loop.example/g03303/laws.FnExactTurnShape", spec := "fnExactTurnShape", unfollowed := true, recurses := true, apart := false, narrowed := true }
def FnExactTurnShapeUptoSaid : Prop := fnExactTurnShapeUptoRow.holds Try.pinned (OpenSpec.upto fnExactTurnShapeSpec)

/-- 'laws.FnExactMirrorShape', WHERE WHAT IT READS IS OF BULK AT MOST 1048576: true; the input reads as it did. -/
def fnExactMirrorShapeUptoRow : OpenClaim := { program := "ytfppnaknnijobaa", sum := "dcc245b029fe7e88f4403ac6b2932efde92593d90a9a811033d3e3c46ca0139c", func := "loop.example/g03303/laws.FnExactMirrorShape", spec := "fnExactMirrorShape", unfollowed := true, recurses := true, apart := false, narrowed := true }
def FnExactMirrorShapeUptoSaid : Prop := fnExactMirrorShapeUptoRow.holds Try.pinned (OpenSpec.upto fnExactMirrorShapeSpec)

/-- 'laws.FnExactAreAlike', WHERE WHAT IT READS IS OF BULK AT MOST 1048576: true; the input reads as it did. -/
def fnExactAreAlikeUptoRow : OpenClaim := { program := "ytfppnaknnijobaa", sum := "dcc245b029fe7e88f4403ac6b2932efde92593d90a9a811033d3e3c46ca0139c", func := "loop.example/g03303/laws.FnExactAreAlike", spec := "fnExactAreAlike", unfollowed := true, recurses := true, apart := false, narrowed := true }
def FnExactAreAlikeUptoSaid : Prop := fnExactAreAlikeUptoRow.holds Try.pinned (OpenSpec.upto fnExactAreAlikeSpec)

/-- 'laws.FnExactAreMirrored', WHERE WHAT IT READS IS OF BULK AT MOST 1048576: true; the input reads as it did. -/
def fnExactAreMirroredUptoRow : OpenClaim := { program := "ytfppnaknnijobaa", sum := "dcc245b029fe7e88f4403ac6b2932efde92593d90a9a811033d3e3c46ca0139c", func := "loop.example/g03303/laws.FnExactAreMirrored", spec := "fnExactAreMirrored", unfollowed := true, recurses := true, apart := false, narrowed := true }
def FnExactAreMirroredUptoSaid : Prop := fnExactAreMirroredUptoRow.holds Try.pinned (OpenSpec.upto fnExactAreMirroredSpec)

end Rows
end Go.Proofs.Ytfppnaknnijobaa
