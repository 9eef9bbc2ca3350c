/-
  No cell of these rows narrows 'for every input' (looked for: loops, veiled, ifaces, maps, wideKeys, modest, calm, conditions, laid).
  DERIVED. THE GIVEN ROWS OF THIS SEAT. 9 by the template 'for every input the law returns true; each argument reads behind the call as it read before'; 0 by the template 'total and deterministic' (their statements: YtemblmcfbonjoabTotals.lean).
  GIVEN WITH THE SEED: the statements are not yours to turn. If you find one false, say at which input.
  Laid BY PROGRAM, IN A SANDBOX (cutbox-rows.mjs): the forced cells as the released guide's own fill.sh prints them over the translation f8d9e3d0b276fdc5… (all of the seat's roots in one cut). By AI agents, Wed Nov 11 2026. No macro, syntax, notation, axiom, sorry.
-/
import Derived.Test.YtemblmcfbonjoabChecked
import GoSem.Claim
import GoSem.ClaimJoined
import GoSem.ClaimMapViews
import Derived.JoinedTies
import Derived.KernelRfl
namespace Go.Proofs.Ytemblmcfbonjoab
/- THE CELL 'sum', in the pinned program and in every row, IS THE sha256 OF THE DUMP (.gsa) THAT YtemblmcfbonjoabProg.lean LOADS. Nothing in Lean hashes anything: it is a label: what it is worth is what the hold of that sum in a sandbox is worth. -/
noncomputable def Try.pinned : Pinned := { name := "ytemblmcfbonjoab", sum := "f8d9e3d0b276fdc5611a1a424ba3856cab556066a9b1bc08bef169dbf73b1991", checked := Try.checked }
namespace Rows
def none {H : Type} : Left H := { results := [], args := [] }

/-- 'laws.FnExactOtherEnd': WHATEVER THE INPUT: true; the input reads as it did. -/
def fnExactOtherEndSpec : ChangeSpec := { name := "fnExactOtherEnd", fn := fun _ => fun
  | [d1, d2] => { results := [.lit (.bool true)], args := [d1, d2] }
  | _ => none }
def fnExactOtherEndRow : OpenClaim := { program := "ytemblmcfbonjoab", sum := "f8d9e3d0b276fdc5611a1a424ba3856cab556066a9b1bc08bef169dbf73b1991", func := "loop.example/g03303/laws.FnExactOtherEnd", spec := "fnExactOtherEnd", apart := false }
def FnExactOtherEndSaid : Prop := fnExactOtherEndRow.holds Try.pinned (OpenSpec.ofChange fnExactOtherEndSpec)

/-- ITS FALSE NEIGHBOUR: 'it returns false'. Refute it at one input. -/
def fnExactOtherEndWrong : ChangeSpec := { name := "fnExactOtherEnd", fn := fun _ => fun
  | [d1, d2] => { results := [.lit (.bool false)], args := [d1, d2] }
  | _ => none }
def FnExactOtherEndWrongFalsely : Prop := fnExactOtherEndRow.holds Try.pinned (OpenSpec.ofChange fnExactOtherEndWrong)

/-- 'laws.FnExactShareNode': WHATEVER THE INPUT: true; the input reads as it did. -/
def fnExactShareNodeSpec : ChangeSpec := { name := "fnExactShareNode", fn := fun _ => fun
  | [d1, d2] => { results := [.lit (.bool true)], args := [d1, d2] }
  | _ => none }
def fnExactShareNodeRow : OpenClaim := { program := "ytemblmcfbonjoab", sum := "f8d9e3d0b276fdc5611a1a424ba3856cab556066a9b1bc08bef169dbf73b1991", func := "loop.example/g03303/laws.FnExactShareNode", spec := "fnExactShareNode", apart := false }
def FnExactShareNodeSaid : Prop := fnExactShareNodeRow.holds Try.pinned (OpenSpec.ofChange fnExactShareNodeSpec)

/-- ITS FALSE NEIGHBOUR: 'it returns false'. Refute it at one input. -/
def fnExactShareNodeWrong : ChangeSpec := { name := "fnExactShareNode", fn := fun _ => fun
  | [d1, d2] => { results := [.lit (.bool false)], args := [d1, d2] }
  | _ => none }
def FnExactShareNodeWrongFalsely : Prop := fnExactShareNodeRow.holds Try.pinned (OpenSpec.ofChange fnExactShareNodeWrong)

/-- 'laws.FnExactWindowOk': WHATEVER THE INPUT: true; the input reads as it did. -/
def fnExactWindowOkSpec : ChangeSpec := { name := "fnExactWindowOk", fn := fun _ => fun
  | [d] => { results := [.lit (.bool true)], args := [d] }
  | _ => none }
def fnExactWindowOkRow : OpenClaim := { program := "ytemblmcfbonjoab", sum := "f8d9e3d0b276fdc5611a1a424ba3856cab556066a9b1bc08bef169dbf73b1991", func := "loop.example/g03303/laws.FnExactWindowOk", spec := "fnExactWindowOk", apart := false }
def FnExactWindowOkSaid : Prop := fnExactWindowOkRow.holds Try.pinned (OpenSpec.ofChange fnExactWindowOkSpec)

/-- ITS FALSE NEIGHBOUR: 'it returns false'. Refute it at one input. -/
def fnExactWindowOkWrong : ChangeSpec := { name := "fnExactWindowOk", fn := fun _ => fun
  | [d] => { results := [.lit (.bool false)], args := [d] }
  | _ => none }
def FnExactWindowOkWrongFalsely : Prop := fnExactWindowOkRow.holds Try.pinned (OpenSpec.ofChange fnExactWindowOkWrong)

/-- 'laws.FnExactLeadsAt': WHATEVER THE INPUT: true; the input reads as it did. -/
def fnExactLeadsAtSpec : ChangeSpec := { name := "fnExactLeadsAt", fn := fun _ => fun
  | [d1, d2] => { results := [.lit (.bool true)], args := [d1, d2] }
  | _ => none }
def fnExactLeadsAtRow : OpenClaim := { program := "ytemblmcfbonjoab", sum := "f8d9e3d0b276fdc5611a1a424ba3856cab556066a9b1bc08bef169dbf73b1991", func := "loop.example/g03303/laws.FnExactLeadsAt", spec := "fnExactLeadsAt", apart := false }
def FnExactLeadsAtSaid : Prop := fnExactLeadsAtRow.holds Try.pinned (OpenSpec.ofChange fnExactLeadsAtSpec)

/-- ITS FALSE NEIGHBOUR: 'it returns false'. Refute it at one input. -/
def fnExactLeadsAtWrong : ChangeSpec := { name := "fnExactLeadsAt", fn := fun _ => fun
  | [d1, d2] => { results := [.lit (.bool false)], args := [d1, d2] }
  | _ => none }
def FnExactLeadsAtWrongFalsely : Prop := fnExactLeadsAtRow.holds Try.pinned (OpenSpec.ofChange fnExactLeadsAtWrong)

/-- 'laws.FnExactDegreeOf': WHATEVER THE INPUT: true; the input reads as it did. -/
def fnExactDegreeOfSpec : ChangeSpec := { name := "fnExactDegreeOf", fn := fun _ => fun
  | [d1, d2] => { results := [.lit (.bool true)], args := [d1, d2] }
  | _ => none }
def fnExactDegreeOfRow : OpenClaim := { program := "ytemblmcfbonjoab", sum := "f8d9e3d0b276fdc5611a1a424ba3856cab556066a9b1bc08bef169dbf73b1991", func := "loop.example/g03303/laws.FnExactDegreeOf", spec := "fnExactDegreeOf", apart := false }
def FnExactDegreeOfSaid : Prop := fnExactDegreeOfRow.holds Try.pinned (OpenSpec.ofChange fnExactDegreeOfSpec)

/-- ITS FALSE NEIGHBOUR: 'it returns false'. Refute it at one input. -/
def fnExactDegreeOfWrong : ChangeSpec := { name := "fnExactDegreeOf", fn := fun _ => fun
  | [d1, d2] => { results := [.lit (.bool false)], args := [d1, d2] }
  | _ => none }
def FnExactDegreeOfWrongFalsely : Prop := fnExactDegreeOfRow.holds Try.pinned (OpenSpec.ofChange fnExactDegreeOfWrong)

/-- 'laws.FnExactAddLead': WHATEVER THE INPUT: true; the input reads as it did. -/
def fnExactAddLeadSpec : ChangeSpec := { name := "fnExactAddLead", fn := fun _ => fun
  | [d1, d2, d3] => { results := [.lit (.bool true)], args := [d1, d2, d3] }
  | _ => none }
def fnExactAddLeadRow : OpenClaim := { program := "ytemblmcfbonjoab", sum := "f8d9e3d0b276fdc5611a1a424ba3856cab556066a9b1bc08bef169dbf73b1991", func := "loop.example/g03303/laws.FnExactAddLead", spec := "fnExactAddLead", apart := false }
def FnExactAddLeadSaid : Prop := fnExactAddLeadRow.holds Try.pinned (OpenSpec.ofChange fnExactAddLeadSpec)

/-- ITS FALSE NEIGHBOUR: 'it returns false'. Refute it at one input. -/
def fnExactAddLeadWrong : ChangeSpec := { name := "fnExactAddLead", fn := fun _ => fun
  | [d1, d2, d3] => { results := [.lit (.bool false)], args := [d1, d2, d3] }
  | _ => none }
def FnExactAddLeadWrongFalsely : Prop := fnExactAddLeadRow.holds Try.pinned (OpenSpec.ofChange fnExactAddLeadWrong)

/-- 'laws.FnExactDropLead': WHATEVER THE INPUT: true; the input reads as it did. -/
def fnExactDropLeadSpec : ChangeSpec := { name := "fnExactDropLead", fn := fun _ => fun
  | [d1, d2] => { results := [.lit (.bool true)], args := [d1, d2] }
  | _ => none }
def fnExactDropLeadRow : OpenClaim := { program := "ytemblmcfbonjoab", sum := "f8d9e3d0b276fdc5611a1a424ba3856cab556066a9b1bc08bef169dbf73b1991", func := "loop.example/g03303/laws.FnExactDropLead", spec := "fnExactDropLead", apart := false }
def FnExactDropLeadSaid : Prop := fnExactDropLeadRow.holds Try.pinned (OpenSpec.ofChange fnExactDropLeadSpec)

/-- ITS FALSE NEIGHBOUR: 'it returns false'. Refute it at one input. -/
def fnExactDropLeadWrong : ChangeSpec := { name := "fnExactDropLead", fn := fun _ => fun
  | [d1, d2] => { results := [.lit (.bool false)], args := [d1, d2] }
  | _ => none }
def FnExactDropLeadWrongFalsely : Prop := fnExactDropLeadRow.holds Try.pinned (OpenSpec.ofChange fnExactDropLeadWrong)

/-- 'laws.FnExactLeadBetween': WHATEVER THE INPUT: true; the input reads as it did. -/
def fnExactLeadBetweenSpec : ChangeSpec := { name := "fnExactLeadBetween", fn := fun _ => fun
  | [d1, d2, d3] => { results := [.lit (.bool true)], args := [d1, d2, d3] }
  | _ => none }
def fnExactLeadBetweenRow : OpenClaim := { program := "ytemblmcfbonjoab", sum := "f8d9e3d0b276fdc5611a1a424ba3856cab556066a9b1bc08bef169dbf73b1991", func := "loop.example/g03303/laws.FnExactLeadBetween", spec := "fnExactLeadBetween", apart := false }
def FnExactLeadBetweenSaid : Prop := fnExactLeadBetweenRow.holds Try.pinned (OpenSpec.ofChange fnExactLeadBetweenSpec)

/-- ITS FALSE NEIGHBOUR: 'it returns false'. Refute it at one input. -/
def fnExactLeadBetweenWrong : ChangeSpec := { name := "fnExactLeadBetween", fn := fun _ => fun
  | [d1, d2, d3] => { results := [.lit (.bool false)], args := [d1, d2, d3] }
  | _ => none }
def FnExactLeadBetweenWrongFalsely : Prop := fnExactLeadBetweenRow.holds Try.pinned (OpenSpec.ofChange fnExactLeadBetweenWrong)

/-- 'laws.FnExactSampleWindow': WHATEVER THE INPUT: true; the input reads as it did. -/
def fnExactSampleWindowSpec : ChangeSpec := { name := "fnExactSampleWindow", fn := fun _ => fun
  | [] => { results := [.lit (.bool true)], args := [] }
  | _ => none }
def fnExactSampleWindowRow : OpenClaim := { program := "ytemblmcfbonjoab", sum := "f8d9e3d0b276fdc5611a1a424ba3856cab556066a9b1bc08bef169dbf73b1991", func := "loop.example/g03303/laws.FnExactSampleWindow", spec := "fnExactSampleWindow", apart := false }
def FnExactSampleWindowSaid : Prop := fnExactSampleWindowRow.holds Try.pinned (OpenSpec.ofChange fnExactSampleWindowSpec)

/-- ITS FALSE NEIGHBOUR: 'it returns false'. Refute it at one input. -/
def fnExactSampleWindowWrong : ChangeSpec := { name := "fnExactSampleWindow", fn := fun _ => fun
  | [] => { results := [.lit (.bool false)], args := [] }
  | _ => none }
def FnExactSampleWindowWrongFalsely : Prop := fnExactSampleWindowRow.holds Try.pinned (OpenSpec.ofChange fnExactSampleWindowWrong)

/- THE SECOND FORM. 'bulk': how many values and letters a reading holds, each counted each time it is reached (what is shared counts as often as it is met; a slice's spare places count too). A statement '..UptoSaid' is the law's where the arguments, and the package variables that the reading takes, are together of bulk at most 1048576: NARROWER than '..Said'. Prove '..Said' where nothing that the law and all that it calls make is longer than what came in: it says more and counts as full. Else prove '..UptoSaid'. A law counts once. -/
mutual
def uptoBulk {H : Type} : DataW H → Nat
  | .lit (.string bytes) => bytes.length + 1
  | .lit _ => 1
  | .nil => 1
  | .ptr d => uptoBulk d + 1
  | .slice elems spare => uptoBulkAll elems + uptoBulkAll spare + 1
  | .agg parts => uptoBulkAll parts + 1
  | .iface _ d => uptoBulk d + 1
  | .map entries => uptoBulkEntries entries + 1
  | .held _ => 1
def uptoBulkAll {H : Type} : List (DataW H) → Nat
  | [] => 0
  | d :: r => uptoBulk d + uptoBulkAll r
def uptoBulkEntries {H : Type} : List (Lit × DataW H) → Nat
  | [] => 0
  | x :: r => uptoBulkEntry x + uptoBulkEntries r
def uptoBulkEntry {H : Type} : Lit × DataW H → Nat
  | (.string bytes, d) => bytes.length + uptoBulk d + 1
  | (_, d) => uptoBulk d + 1
 end
def uptoSmall : (H : Type) → List (DataW H) → Bool := fun _ ds => decide (uptoBulkAll ds ≤ 1048576)
def OpenSpec.upto (s : _root_.Go.ChangeSpec) : _root_.Go.OpenSpec := { _root_.Go.OpenSpec.ofChange s with cond := some uptoSmall }

/-- 'laws.FnExactOtherEnd', WHERE WHAT IT READS IS OF BULK AT MOST 1048576: true; the input reads as it did. -/
def fnExactOtherEndUptoRow : OpenClaim := { program := "ytemblmcfbonjoab", sum := "f8d9e3d0b276fdc5611a1a424ba3856cab556066a9b1bc08bef169dbf73b1991", func := "loop.example/g03303/laws.FnExactOtherEnd", spec := "fnExactOtherEnd", apart := false, narrowed := true }
def FnExactOtherEndUptoSaid : Prop := fnExactOtherEndUptoRow.holds Try.pinned (OpenSpec.upto fnExactOtherEndSpec)

/-- 'laws.FnExactShareNode', WHERE WHAT IT READS IS OF BULK AT MOST 1048576: true; the input reads as it did. -/
def fnExactShareNodeUptoRow : OpenClaim := { program := "ytemblmcfbonjoab", sum := "f8d9e3d0b276fdc5611a1a424ba3856cab556066a9b1bc08bef169dbf73b1991", func := "loop.example/g03303/laws.FnExactShareNode", spec := "fnExactShareNode", apart := false, narrowed := true }
def FnExactShareNodeUptoSaid : Prop := fnExactShareNodeUptoRow.holds Try.pinned (OpenSpec.upto fnExactShareNodeSpec)

/-- 'laws.FnExactWindowOk', WHERE WHAT IT READS IS OF BULK AT MOST 1048576: true; the input reads as it did. -/
def fnExactWindowOkUptoRow : OpenClaim := { program := "ytemblmcfbonjoab", sum := "f8d9e3d0b276fdc5611a1a424ba3856cab556066a9b1bc08bef169dbf73b1991", func := "loop.example/g03303/laws.FnExactWindowOk", spec := "fnExactWindowOk", apart := false, narrowed := true }
def FnExactWindowOkUptoSaid : Prop := fnExactWindowOkUptoRow.holds Try.pinned (OpenSpec.upto fnExactWindowOkSpec)

/-- 'laws.FnExactLeadsAt', WHERE WHAT IT READS IS OF BULK AT MOST 1048576: true; the input reads as it did. -/
def fnExactLeadsAtUptoRow : OpenClaim := { program := "ytemblmcfbonjoab", sum := "f8d9e3d0b276fdc5611a1a424ba3856cab556066a9b1bc08bef169dbf73b1991", func := "loop.example/g03303/laws.FnExactLeadsAt", spec := "fnExactLeadsAt", apart := false, narrowed := true }
def FnExactLeadsAtUptoSaid : Prop := fnExactLeadsAtUptoRow.holds Try.pinned (OpenSpec.upto fnExactLeadsAtSpec)

/-- 'laws.FnExactDegreeOf', WHERE WHAT IT READS IS OF BULK AT MOST 1048576: true; the input reads as it did. -/
def fnExactDegreeOfUptoRow : OpenClaim := { program := "ytemblmcfbonjoab", sum := "f8d9e3d0b276fdc5611a1a424ba3856cab556066a9b1bc08bef169dbf73b1991", func := "loop.example/g03303/laws.FnExactDegreeOf", spec := "fnExactDegreeOf", apart := false, narrowed := true }
def FnExactDegreeOfUptoSaid : Prop := fnExactDegreeOfUptoRow.holds Try.pinned (OpenSpec.upto fnExactDegreeOfSpec)

/-- 'laws.FnExactAddLead', WHERE WHAT IT READS IS OF BULK AT MOST 1048576: true; the input reads as it did. -/
def fnExactAddLeadUptoRow : OpenClaim := { program := "ytemblmcfbonjoab", sum := "f8d9e3d0b276fdc5611a1a424ba3856cab556066a9b1bc08bef169dbf73b1991", func := "loop.example/g03303/laws.FnExactAddLead", spec := "fnExactAddLead", apart := false, narrowed := true }
def FnExactAddLeadUptoSaid : Prop := fnExactAddLeadUptoRow.holds Try.pinned (OpenSpec.upto fnExactAddLeadSpec)

/-- 'laws.FnExactDropLead', WHERE WHAT IT READS IS OF BULK AT MOST 1048576: true; the input reads as it did. -/
def fnExactDropLeadUptoRow : OpenClaim := { program := "ytemblmcfbonjoab", sum := "f8d9e3d0b276fdc5611a1a424ba3856cab556066a9b1bc08bef169dbf73b1991", func := "loop.example/g03303/laws.FnExactDropLead", spec := "fnExactDropLead", apart := false, narrowed := true }
def FnExactDropLeadUptoSaid : Prop := fnExactDropLeadUptoRow.holds Try.pinned (OpenSpec.upto fnExactDropLeadSpec)

/-- 'laws.FnExactLeadBetween', WHERE WHAT IT READS IS OF BULK AT MOST 1048576: true; the input reads as it did. -/
def fnExactLeadBetweenUptoRow : OpenClaim := { program := "ytemblmcfbonjoab", sum := "f8d9e3d0b276fdc5611a1a424ba3856cab556066a9b1bc08bef169dbf73b1991", func := "loop.example/g03303/laws.FnExactLeadBetween", spec := "fnExactLeadBetween", apart := false, narrowed := true }
def FnExactLeadBetweenUptoSaid : Prop := fnExactLeadBetweenUptoRow.holds Try.pinned (OpenSpec.upto fnExactLeadBetweenSpec)

/-- 'laws.FnExactSampleWindow', WHERE WHAT IT READS IS OF BULK AT MOST 1048576: true; the input reads as it did. -/
def fnExactSampleWindowUptoRow : OpenClaim := { program := "ytemblmcfbonjoab", sum := "f8d9e3d0b276fdc5611a1a424ba3856cab556066a9b1bc08bef169dbf73b1991", func := "loop.example/g03303/laws.FnExactSampleWindow", spec := "fnExactSampleWindow", apart := false, narrowed := true }
def FnExactSampleWindowUptoSaid : Prop := fnExactSampleWindowUptoRow.holds Try.pinned (OpenSpec.upto fnExactSampleWindowSpec)

end Rows
end Go.Proofs.Ytemblmcfbonjoab
