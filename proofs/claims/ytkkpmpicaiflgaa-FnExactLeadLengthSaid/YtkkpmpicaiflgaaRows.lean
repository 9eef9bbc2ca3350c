/-
  No cell of these rows narrows 'for every input' (looked for: loops, veiled, ifaces, maps, wideKeys, modest, calm, conditions, laid).
  DERIVED. THE GIVEN ROWS OF THIS SEAT. 7 by the template 'for every input the law returns true; each argument reads behind the call as it read before'; 0 by the template 'total and deterministic' (their statements: YtkkpmpicaiflgaaTotals.lean).
  GIVEN WITH THE SEED: the statements are not yours to turn. If you find one false, say at which input.
  Laid BY PROGRAM, IN A SANDBOX (cutbox-rows.mjs): the forced cells as the released guide's own fill.sh prints them over the translation d01c06d8071c36aa… (all of the seat's roots in one cut). By AI agents, Wed Nov 11 2026. No macro, syntax, notation, axiom, sorry.
-/
import Derived.Test.YtkkpmpicaiflgaaChecked
import GoSem.Claim
import GoSem.ClaimJoined
import GoSem.ClaimMapViews
import Derived.JoinedTies
import Derived.KernelRfl
namespace Go.Proofs.Ytkkpmpicaiflgaa
/- THE CELL 'sum', in the pinned program and in every row, IS THE sha256 OF THE DUMP (.gsa) THAT YtkkpmpicaiflgaaProg.lean LOADS. Nothing in Lean hashes anything: it is a label: what it is worth is what the hold of that sum in a sandbox is worth. -/
noncomputable def Try.pinned : Pinned := { name := "ytkkpmpicaiflgaa", sum := "d01c06d8071c36aae39d8dcc9c8335fbcf141a6fb57ec9a8453f63dbc9e6906e", checked := Try.checked }
namespace Rows
def none {H : Type} : Left H := { results := [], args := [] }

/-- 'laws.FnExactTurnShape': WHATEVER THE INPUT: true; the input reads as it did. -/
def fnExactTurnShapeSpec : ChangeSpec := { name := "fnExactTurnShape", fn := fun _ => fun
  | [d] => { results := [.lit (.bool true)], args := [d] }
  | _ => none }
def fnExactTurnShapeRow : OpenClaim := { program := "ytkkpmpicaiflgaa", sum := "d01c06d8071c36aae39d8dcc9c8335fbcf141a6fb57ec9a8453f63dbc9e6906e", func := "loop.example/g03303/laws.FnExactTurnShape", spec := "fnExactTurnShape", unfollowed := true, recurses := true, apart := false }
def FnExactTurnShapeSaid : Prop := fnExactTurnShapeRow.holds Try.pinned (OpenSpec.ofChange fnExactTurnShapeSpec)

/-- ITS FALSE NEIGHBOUR: 'it returns false'. Refute it at one input. -/
def fnExactTurnShapeWrong : ChangeSpec := { name := "fnExactTurnShape", fn := fun _ => fun
  | [d] => { results := [.lit (.bool false)], args := [d] }
  | _ => none }
def FnExactTurnShapeWrongFalsely : Prop := fnExactTurnShapeRow.holds Try.pinned (OpenSpec.ofChange fnExactTurnShapeWrong)

/-- 'laws.FnExactMirrorShape': WHATEVER THE INPUT: true; the input reads as it did. -/
def fnExactMirrorShapeSpec : ChangeSpec := { name := "fnExactMirrorShape", fn := fun _ => fun
  | [d] => { results := [.lit (.bool true)], args := [d] }
  | _ => none }
def fnExactMirrorShapeRow : OpenClaim := { program := "ytkkpmpicaiflgaa", sum := "d01c06d8071c36aae39d8dcc9c8335fbcf141a6fb57ec9a8453f63dbc9e6906e", func := "loop.example/g03303/laws.FnExactMirrorShape", spec := "fnExactMirrorShape", unfollowed := true, recurses := true, apart := false }
def FnExactMirrorShapeSaid : Prop := fnExactMirrorShapeRow.holds Try.pinned (OpenSpec.ofChange fnExactMirrorShapeSpec)

/-- ITS FALSE NEIGHBOUR: 'it returns false'. Refute it at one input. -/
def fnExactMirrorShapeWrong : ChangeSpec := { name := "fnExactMirrorShape", fn := fun _ => fun
  | [d] => { results := [.lit (.bool false)], args := [d] }
  | _ => none }
def FnExactMirrorShapeWrongFalsely : Prop := fnExactMirrorShapeRow.holds Try.pinned (OpenSpec.ofChange fnExactMirrorShapeWrong)

/-- 'laws.FnExactCountMatched': WHATEVER THE INPUT: true; the input reads as it did. -/
def fnExactCountMatchedSpec : ChangeSpec := { name := "fnExactCountMatched", fn := fun _ => fun
  | [d] => { results := [.lit (.bool true)], args := [d] }
  | _ => none }
def fnExactCountMatchedRow : OpenClaim := { program := "ytkkpmpicaiflgaa", sum := "d01c06d8071c36aae39d8dcc9c8335fbcf141a6fb57ec9a8453f63dbc9e6906e", func := "loop.example/g03303/laws.FnExactCountMatched", spec := "fnExactCountMatched", apart := false }
def FnExactCountMatchedSaid : Prop := fnExactCountMatchedRow.holds Try.pinned (OpenSpec.ofChange fnExactCountMatchedSpec)

/-- ITS FALSE NEIGHBOUR: 'it returns false'. Refute it at one input. -/
def fnExactCountMatchedWrong : ChangeSpec := { name := "fnExactCountMatched", fn := fun _ => fun
  | [d] => { results := [.lit (.bool false)], args := [d] }
  | _ => none }
def FnExactCountMatchedWrongFalsely : Prop := fnExactCountMatchedRow.holds Try.pinned (OpenSpec.ofChange fnExactCountMatchedWrong)

/-- 'laws.FnExactLeadLength': WHATEVER THE INPUT: true; the input reads as it did. -/
def fnExactLeadLengthSpec : ChangeSpec := { name := "fnExactLeadLength", fn := fun _ => fun
  | [d] => { results := [.lit (.bool true)], args := [d] }
  | _ => none }
def fnExactLeadLengthRow : OpenClaim := { program := "ytkkpmpicaiflgaa", sum := "d01c06d8071c36aae39d8dcc9c8335fbcf141a6fb57ec9a8453f63dbc9e6906e", func := "loop.example/g03303/laws.FnExactLeadLength", spec := "fnExactLeadLength", apart := false }
def FnExactLeadLengthSaid : Prop := fnExactLeadLengthRow.holds Try.pinned (OpenSpec.ofChange fnExactLeadLengthSpec)

/-- ITS FALSE NEIGHBOUR: 'it returns false'. Refute it at one input. -/
def fnExactLeadLengthWrong : ChangeSpec := { name := "fnExactLeadLength", fn := fun _ => fun
  | [d] => { results := [.lit (.bool false)], args := [d] }
  | _ => none }
def FnExactLeadLengthWrongFalsely : Prop := fnExactLeadLengthRow.holds Try.pinned (OpenSpec.ofChange fnExactLeadLengthWrong)

/-- 'laws.FnExactCrateWeight': WHATEVER THE INPUT: true; the input reads as it did. -/
def fnExactCrateWeightSpec : ChangeSpec := { name := "fnExactCrateWeight", fn := fun _ => fun
  | [d1, d2] => { results := [.lit (.bool true)], args := [d1, d2] }
  | _ => none }
def fnExactCrateWeightRow : OpenClaim := { program := "ytkkpmpicaiflgaa", sum := "d01c06d8071c36aae39d8dcc9c8335fbcf141a6fb57ec9a8453f63dbc9e6906e", func := "loop.example/g03303/laws.FnExactCrateWeight", spec := "fnExactCrateWeight", apart := false }
def FnExactCrateWeightSaid : Prop := fnExactCrateWeightRow.holds Try.pinned (OpenSpec.ofChange fnExactCrateWeightSpec)

/-- ITS FALSE NEIGHBOUR: 'it returns false'. Refute it at one input. -/
def fnExactCrateWeightWrong : ChangeSpec := { name := "fnExactCrateWeight", fn := fun _ => fun
  | [d1, d2] => { results := [.lit (.bool false)], args := [d1, d2] }
  | _ => none }
def FnExactCrateWeightWrongFalsely : Prop := fnExactCrateWeightRow.holds Try.pinned (OpenSpec.ofChange fnExactCrateWeightWrong)

/-- 'laws.FnExactCrateOk': WHATEVER THE INPUT: true; the input reads as it did. -/
def fnExactCrateOkSpec : ChangeSpec := { name := "fnExactCrateOk", fn := fun _ => fun
  | [d1, d2] => { results := [.lit (.bool true)], args := [d1, d2] }
  | _ => none }
def fnExactCrateOkRow : OpenClaim := { program := "ytkkpmpicaiflgaa", sum := "d01c06d8071c36aae39d8dcc9c8335fbcf141a6fb57ec9a8453f63dbc9e6906e", func := "loop.example/g03303/laws.FnExactCrateOk", spec := "fnExactCrateOk", apart := false }
def FnExactCrateOkSaid : Prop := fnExactCrateOkRow.holds Try.pinned (OpenSpec.ofChange fnExactCrateOkSpec)

/-- ITS FALSE NEIGHBOUR: 'it returns false'. Refute it at one input. -/
def fnExactCrateOkWrong : ChangeSpec := { name := "fnExactCrateOk", fn := fun _ => fun
  | [d1, d2] => { results := [.lit (.bool false)], args := [d1, d2] }
  | _ => none }
def FnExactCrateOkWrongFalsely : Prop := fnExactCrateOkRow.holds Try.pinned (OpenSpec.ofChange fnExactCrateOkWrong)

/-- 'laws.FnExactCountJoints': WHATEVER THE INPUT: true; the input reads as it did. -/
def fnExactCountJointsSpec : ChangeSpec := { name := "fnExactCountJoints", fn := fun _ => fun
  | [d] => { results := [.lit (.bool true)], args := [d] }
  | _ => none }
def fnExactCountJointsRow : OpenClaim := { program := "ytkkpmpicaiflgaa", sum := "d01c06d8071c36aae39d8dcc9c8335fbcf141a6fb57ec9a8453f63dbc9e6906e", func := "loop.example/g03303/laws.FnExactCountJoints", spec := "fnExactCountJoints", apart := false }
def FnExactCountJointsSaid : Prop := fnExactCountJointsRow.holds Try.pinned (OpenSpec.ofChange fnExactCountJointsSpec)

/-- ITS FALSE NEIGHBOUR: 'it returns false'. Refute it at one input. -/
def fnExactCountJointsWrong : ChangeSpec := { name := "fnExactCountJoints", fn := fun _ => fun
  | [d] => { results := [.lit (.bool false)], args := [d] }
  | _ => none }
def FnExactCountJointsWrongFalsely : Prop := fnExactCountJointsRow.holds Try.pinned (OpenSpec.ofChange fnExactCountJointsWrong)

/- THE SECOND FORM. 'bulk': how many values and letters a reading holds, each counted each time it is reached (what is shared counts as often as it is met; a slice's spare places count too). A statement '..UptoSaid' is the law's where the arguments, and the package variables that the reading takes, are together of bulk at most 1048576: NARROWER than '..Said'. Prove '..Said' where nothing that the law and all that it calls make is longer than what came in: it says more and counts as full. Else prove '..UptoSaid'. A law counts once. -/
mutual
def uptoBulk {H : Type} : DataW H → Nat
  | .lit (.string bytes) => bytes.length + 1
  | .lit _ => 1
  | .nil => 1
  | .ptr d => uptoBulk d + 1
  | .slice elems spare => uptoBulkAll elems + uptoBulkAll spare + 1
  | .agg parts => uptoBulkAll parts + 1
  | .iface _ d => uptoBulk d + 1
  | .map entries => uptoBulkEntries entries + 1
  | .held _ => 1
def uptoBulkAll {H : Type} : List (DataW H) → Nat
  | [] => 0
  | d :: r => uptoBulk d + uptoBulkAll r
def uptoBulkEntries {H : Type} : List (Lit × DataW H) → Nat
  | [] => 0
  | x :: r => uptoBulkEntry x + uptoBulkEntries r
def uptoBulkEntry {H : Type} : Lit × DataW H → Nat
  | (.string bytes, d) => bytes.length + uptoBulk d + 1
  | (_, d) => uptoBulk d + 1
 end
def uptoSmall : (H : Type) → List (DataW H) → Bool := fun _ ds => decide (uptoBulkAll ds ≤ 1048576)
def OpenSpec.upto (s : _root_.Go.ChangeSpec) : _root_.Go.OpenSpec := { _root_.Go.OpenSpec.ofChange s with cond := some uptoSmall }

/-- 'laws.FnExactTurnShape', WHERE WHAT IT READS IS OF BULK AT MOST 1048576: true; the input reads as it did. -/
def fnExactTurnShapeUptoRow : OpenClaim := { program := "ytkkpmpicaiflgaa", sum := "d01c06d8071c36aae39d8dcc9c8335fbcf141a6fb57ec9a8453f63dbc9e6906e", func := "loop.example/g03303/laws.FnExactTurnShape", spec := "fnExactTurnShape", unfollowed := true, recurses := true, apart := false, narrowed := true }
def FnExactTurnShapeUptoSaid : Prop := fnExactTurnShapeUptoRow.holds Try.pinned (OpenSpec.upto fnExactTurnShapeSpec)

/-- 'laws.FnExactMirrorShape', WHERE WHAT IT READS IS OF BULK AT MOST 1048576: true; the input reads as it did. -/
def fnExactMirrorShapeUptoRow : OpenClaim := { program := "ytkkpmpicaiflgaa", sum := "d01c06d8071c36aae39d8dcc9c8335fbcf141a6fb57ec9a8453f63dbc9e6906e", func := "loop.example/g03303/laws.FnExactMirrorShape", spec := "fnExactMirrorShape", unfollowed := true, recurses := true, apart := false, narrowed := true }
def FnExactMirrorShapeUptoSaid : Prop := fnExactMirrorShapeUptoRow.holds Try.pinned (OpenSpec.upto fnExactMirrorShapeSpec)

/-- 'laws.FnExactCountMatched', WHERE WHAT IT READS IS OF BULK AT MOST 1048576: true; the input reads as it did. -/
def fnExactCountMatchedUptoRow : OpenClaim := { program := "ytkkpmpicaiflgaa", sum := "d01c06d8071c36aae39d8dcc9c8335fbcf141a6fb57ec9a8453f63dbc9e6906e", func := "loop.example/g03303/laws.FnExactCountMatched", spec := "fnExactCountMatched", apart := false, narrowed := true }
def FnExactCountMatchedUptoSaid : Prop := fnExactCountMatchedUptoRow.holds Try.pinned (OpenSpec.upto fnExactCountMatchedSpec)

/-- 'laws.FnExactLeadLength', WHERE WHAT IT READS IS OF BULK AT MOST 1048576: true; the input reads as it did. -/
def fnExactLeadLengthUptoRow : OpenClaim := { program := "ytkkpmpicaiflgaa", sum := "d01c06d8071c36aae39d8dcc9c8335fbcf141a6fb57ec9a8453f63dbc9e6906e", func := "loop.example/g03303/laws.FnExactLeadLength", spec := "fnExactLeadLength", apart := false, narrowed := true }
def FnExactLeadLengthUptoSaid : Prop := fnExactLeadLengthUptoRow.holds Try.pinned (OpenSpec.upto fnExactLeadLengthSpec)

/-- 'laws.FnExactCrateWeight', WHERE WHAT IT READS IS OF BULK AT MOST 1048576: true; the input reads as it did. -/
def fnExactCrateWeightUptoRow : OpenClaim := { program := "ytkkpmpicaiflgaa", sum := "d01c06d8071c36aae39d8dcc9c8335fbcf141a6fb57ec9a8453f63dbc9e6906e", func := "loop.example/g03303/laws.FnExactCrateWeight", spec := "fnExactCrateWeight", apart := false, narrowed := true }
def FnExactCrateWeightUptoSaid : Prop := fnExactCrateWeightUptoRow.holds Try.pinned (OpenSpec.upto fnExactCrateWeightSpec)

/-- 'laws.FnExactCrateOk', WHERE WHAT IT READS IS OF BULK AT MOST 1048576: true; the input reads as it did. -/
def fnExactCrateOkUptoRow : OpenClaim := { program := "ytkkpmpicaiflgaa", sum := "d01c06d8071c36aae39d8dcc9c8335fbcf141a6fb57ec9a8453f63dbc9e6906e", func := "loop.example/g03303/laws.FnExactCrateOk", spec := "fnExactCrateOk", apart := false, narrowed := true }
def FnExactCrateOkUptoSaid : Prop := fnExactCrateOkUptoRow.holds Try.pinned (OpenSpec.upto fnExactCrateOkSpec)

/-- 'laws.FnExactCountJoints', WHERE WHAT IT READS IS OF BULK AT MOST 1048576: true; the input reads as it did. -/
def fnExactCountJointsUptoRow : OpenClaim := { program := "ytkkpmpicaiflgaa", sum := "d01c06d8071c36aae39d8dcc9c8335fbcf141a6fb57ec9a8453f63dbc9e6906e", func := "loop.example/g03303/laws.FnExactCountJoints", spec := "fnExactCountJoints", apart := false, narrowed := true }
def FnExactCountJointsUptoSaid : Prop := fnExactCountJointsUptoRow.holds Try.pinned (OpenSpec.upto fnExactCountJointsSpec)

end Rows
end Go.Proofs.Ytkkpmpicaiflgaa
