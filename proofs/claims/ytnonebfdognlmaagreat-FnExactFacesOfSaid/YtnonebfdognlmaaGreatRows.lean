/-
  No cell of these rows narrows 'for every input' (looked for: loops, veiled, ifaces, maps, wideKeys, modest, calm, conditions, laid).
  DERIVED. THE GIVEN ROWS OF THIS SEAT. 12 by the template 'for every input the law returns true; each argument reads behind the call as it read before'; 0 by the template 'total and deterministic' (their statements: YtnonebfdognlmaaGreatTotals.lean).
  GIVEN WITH THE SEED: the statements are not yours to turn. If you find one false, say at which input.
  Laid BY PROGRAM, IN A SANDBOX (cutbox-rows.mjs): the forced cells as the released guide's own fill.sh prints them over the translation c8053d6318ea0b0e… (all of the seat's roots in one cut). By AI agents, Wed Nov 11 2026. No macro, syntax, notation, axiom, sorry.
-/
import Derived.Test.YtnonebfdognlmaaGreatChecked
import GoSem.Claim
import GoSem.ClaimJoined
import GoSem.ClaimMapViews
import Derived.JoinedTies
import Derived.KernelRfl
namespace Go.Proofs.YtnonebfdognlmaaGreat
/- THE CELL 'sum', in the pinned program and in every row, IS THE sha256 OF THE DUMP (.gsa) THAT YtnonebfdognlmaaGreatProg.lean LOADS. Nothing in Lean hashes anything: it is a label: what it is worth is what the hold of that sum in a sandbox is worth. -/
noncomputable def Tryz.pinned : Pinned := { name := "ytnonebfdognlmaagreat", sum := "c8053d6318ea0b0ebfaed4a311fcbf2ac4df34e930dbfff985b28655c46a1298", checked := Tryz.checked }
namespace Rows
def none {H : Type} : Left H := { results := [], args := [] }

/-- 'laws.FnExactFacesOf': WHATEVER THE INPUT: true; the input reads as it did. -/
def fnExactFacesOfSpec : ChangeSpec := { name := "fnExactFacesOf", fn := fun _ => fun
  | [d] => { results := [.lit (.bool true)], args := [d] }
  | _ => none }
def fnExactFacesOfRow : OpenClaim := { program := "ytnonebfdognlmaagreat", sum := "c8053d6318ea0b0ebfaed4a311fcbf2ac4df34e930dbfff985b28655c46a1298", func := "loop.example/g03303/laws.FnExactFacesOf", spec := "fnExactFacesOf", unfollowed := true, recurses := true, apart := false }
def FnExactFacesOfSaid : Prop := fnExactFacesOfRow.holds Tryz.pinned (OpenSpec.ofChange fnExactFacesOfSpec)

/-- ITS FALSE NEIGHBOUR: 'it returns false'. Refute it at one input. -/
def fnExactFacesOfWrong : ChangeSpec := { name := "fnExactFacesOf", fn := fun _ => fun
  | [d] => { results := [.lit (.bool false)], args := [d] }
  | _ => none }
def FnExactFacesOfWrongFalsely : Prop := fnExactFacesOfRow.holds Tryz.pinned (OpenSpec.ofChange fnExactFacesOfWrong)

/-- 'laws.FnExactFaceAt': WHATEVER THE INPUT: true; the input reads as it did. -/
def fnExactFaceAtSpec : ChangeSpec := { name := "fnExactFaceAt", fn := fun _ => fun
  | [d1, d2] => { results := [.lit (.bool true)], args := [d1, d2] }
  | _ => none }
def fnExactFaceAtRow : OpenClaim := { program := "ytnonebfdognlmaagreat", sum := "c8053d6318ea0b0ebfaed4a311fcbf2ac4df34e930dbfff985b28655c46a1298", func := "loop.example/g03303/laws.FnExactFaceAt", spec := "fnExactFaceAt", unfollowed := true, recurses := true, apart := false }
def FnExactFaceAtSaid : Prop := fnExactFaceAtRow.holds Tryz.pinned (OpenSpec.ofChange fnExactFaceAtSpec)

/-- ITS FALSE NEIGHBOUR: 'it returns false'. Refute it at one input. -/
def fnExactFaceAtWrong : ChangeSpec := { name := "fnExactFaceAt", fn := fun _ => fun
  | [d1, d2] => { results := [.lit (.bool false)], args := [d1, d2] }
  | _ => none }
def FnExactFaceAtWrongFalsely : Prop := fnExactFaceAtRow.holds Tryz.pinned (OpenSpec.ofChange fnExactFaceAtWrong)

/-- 'laws.FnExactOuterFace': WHATEVER THE INPUT: true; the input reads as it did. -/
def fnExactOuterFaceSpec : ChangeSpec := { name := "fnExactOuterFace", fn := fun _ => fun
  | [d] => { results := [.lit (.bool true)], args := [d] }
  | _ => none }
def fnExactOuterFaceRow : OpenClaim := { program := "ytnonebfdognlmaagreat", sum := "c8053d6318ea0b0ebfaed4a311fcbf2ac4df34e930dbfff985b28655c46a1298", func := "loop.example/g03303/laws.FnExactOuterFace", spec := "fnExactOuterFace", unfollowed := true, recurses := true, apart := false }
def FnExactOuterFaceSaid : Prop := fnExactOuterFaceRow.holds Tryz.pinned (OpenSpec.ofChange fnExactOuterFaceSpec)

/-- ITS FALSE NEIGHBOUR: 'it returns false'. Refute it at one input. -/
def fnExactOuterFaceWrong : ChangeSpec := { name := "fnExactOuterFace", fn := fun _ => fun
  | [d] => { results := [.lit (.bool false)], args := [d] }
  | _ => none }
def FnExactOuterFaceWrongFalsely : Prop := fnExactOuterFaceRow.holds Tryz.pinned (OpenSpec.ofChange fnExactOuterFaceWrong)

/-- 'laws.FnExactAreaOf': WHATEVER THE INPUT: true; the input reads as it did. -/
def fnExactAreaOfSpec : ChangeSpec := { name := "fnExactAreaOf", fn := fun _ => fun
  | [d1, d2] => { results := [.lit (.bool true)], args := [d1, d2] }
  | _ => none }
def fnExactAreaOfRow : OpenClaim := { program := "ytnonebfdognlmaagreat", sum := "c8053d6318ea0b0ebfaed4a311fcbf2ac4df34e930dbfff985b28655c46a1298", func := "loop.example/g03303/laws.FnExactAreaOf", spec := "fnExactAreaOf", unfollowed := true, recurses := true, apart := false }
def FnExactAreaOfSaid : Prop := fnExactAreaOfRow.holds Tryz.pinned (OpenSpec.ofChange fnExactAreaOfSpec)

/-- ITS FALSE NEIGHBOUR: 'it returns false'. Refute it at one input. -/
def fnExactAreaOfWrong : ChangeSpec := { name := "fnExactAreaOf", fn := fun _ => fun
  | [d1, d2] => { results := [.lit (.bool false)], args := [d1, d2] }
  | _ => none }
def FnExactAreaOfWrongFalsely : Prop := fnExactAreaOfRow.holds Tryz.pinned (OpenSpec.ofChange fnExactAreaOfWrong)

/-- 'laws.FnExactTotalArea': WHATEVER THE INPUT: true; the input reads as it did. -/
def fnExactTotalAreaSpec : ChangeSpec := { name := "fnExactTotalArea", fn := fun _ => fun
  | [d] => { results := [.lit (.bool true)], args := [d] }
  | _ => none }
def fnExactTotalAreaRow : OpenClaim := { program := "ytnonebfdognlmaagreat", sum := "c8053d6318ea0b0ebfaed4a311fcbf2ac4df34e930dbfff985b28655c46a1298", func := "loop.example/g03303/laws.FnExactTotalArea", spec := "fnExactTotalArea", unfollowed := true, recurses := true, apart := false }
def FnExactTotalAreaSaid : Prop := fnExactTotalAreaRow.holds Tryz.pinned (OpenSpec.ofChange fnExactTotalAreaSpec)

/-- ITS FALSE NEIGHBOUR: 'it returns false'. Refute it at one input. -/
def fnExactTotalAreaWrong : ChangeSpec := { name := "fnExactTotalArea", fn := fun _ => fun
  | [d] => { results := [.lit (.bool false)], args := [d] }
  | _ => none }
def FnExactTotalAreaWrongFalsely : Prop := fnExactTotalAreaRow.holds Tryz.pinned (OpenSpec.ofChange fnExactTotalAreaWrong)

/-- 'laws.FnExactFaceDegrees': WHATEVER THE INPUT: true; the input reads as it did. -/
def fnExactFaceDegreesSpec : ChangeSpec := { name := "fnExactFaceDegrees", fn := fun _ => fun
  | [d] => { results := [.lit (.bool true)], args := [d] }
  | _ => none }
def fnExactFaceDegreesRow : OpenClaim := { program := "ytnonebfdognlmaagreat", sum := "c8053d6318ea0b0ebfaed4a311fcbf2ac4df34e930dbfff985b28655c46a1298", func := "loop.example/g03303/laws.FnExactFaceDegrees", spec := "fnExactFaceDegrees", unfollowed := true, recurses := true, apart := false }
def FnExactFaceDegreesSaid : Prop := fnExactFaceDegreesRow.holds Tryz.pinned (OpenSpec.ofChange fnExactFaceDegreesSpec)

/-- ITS FALSE NEIGHBOUR: 'it returns false'. Refute it at one input. -/
def fnExactFaceDegreesWrong : ChangeSpec := { name := "fnExactFaceDegrees", fn := fun _ => fun
  | [d] => { results := [.lit (.bool false)], args := [d] }
  | _ => none }
def FnExactFaceDegreesWrongFalsely : Prop := fnExactFaceDegreesRow.holds Tryz.pinned (OpenSpec.ofChange fnExactFaceDegreesWrong)

/-- 'laws.FnExactSidesOf': WHATEVER THE INPUT: true; the input reads as it did. -/
def fnExactSidesOfSpec : ChangeSpec := { name := "fnExactSidesOf", fn := fun _ => fun
  | [d1, d2] => { results := [.lit (.bool true)], args := [d1, d2] }
  | _ => none }
def fnExactSidesOfRow : OpenClaim := { program := "ytnonebfdognlmaagreat", sum := "c8053d6318ea0b0ebfaed4a311fcbf2ac4df34e930dbfff985b28655c46a1298", func := "loop.example/g03303/laws.FnExactSidesOf", spec := "fnExactSidesOf", unfollowed := true, recurses := true, apart := false }
def FnExactSidesOfSaid : Prop := fnExactSidesOfRow.holds Tryz.pinned (OpenSpec.ofChange fnExactSidesOfSpec)

/-- ITS FALSE NEIGHBOUR: 'it returns false'. Refute it at one input. -/
def fnExactSidesOfWrong : ChangeSpec := { name := "fnExactSidesOf", fn := fun _ => fun
  | [d1, d2] => { results := [.lit (.bool false)], args := [d1, d2] }
  | _ => none }
def FnExactSidesOfWrongFalsely : Prop := fnExactSidesOfRow.holds Tryz.pinned (OpenSpec.ofChange fnExactSidesOfWrong)

/-- 'laws.FnExactSharedLeads': WHATEVER THE INPUT: true; the input reads as it did. -/
def fnExactSharedLeadsSpec : ChangeSpec := { name := "fnExactSharedLeads", fn := fun _ => fun
  | [d1, d2, d3] => { results := [.lit (.bool true)], args := [d1, d2, d3] }
  | _ => none }
def fnExactSharedLeadsRow : OpenClaim := { program := "ytnonebfdognlmaagreat", sum := "c8053d6318ea0b0ebfaed4a311fcbf2ac4df34e930dbfff985b28655c46a1298", func := "loop.example/g03303/laws.FnExactSharedLeads", spec := "fnExactSharedLeads", unfollowed := true, recurses := true, apart := false }
def FnExactSharedLeadsSaid : Prop := fnExactSharedLeadsRow.holds Tryz.pinned (OpenSpec.ofChange fnExactSharedLeadsSpec)

/-- ITS FALSE NEIGHBOUR: 'it returns false'. Refute it at one input. -/
def fnExactSharedLeadsWrong : ChangeSpec := { name := "fnExactSharedLeads", fn := fun _ => fun
  | [d1, d2, d3] => { results := [.lit (.bool false)], args := [d1, d2, d3] }
  | _ => none }
def FnExactSharedLeadsWrongFalsely : Prop := fnExactSharedLeadsRow.holds Tryz.pinned (OpenSpec.ofChange fnExactSharedLeadsWrong)

/-- 'laws.FnExactAreBeside': WHATEVER THE INPUT: true; the input reads as it did. -/
def fnExactAreBesideSpec : ChangeSpec := { name := "fnExactAreBeside", fn := fun _ => fun
  | [d1, d2, d3] => { results := [.lit (.bool true)], args := [d1, d2, d3] }
  | _ => none }
def fnExactAreBesideRow : OpenClaim := { program := "ytnonebfdognlmaagreat", sum := "c8053d6318ea0b0ebfaed4a311fcbf2ac4df34e930dbfff985b28655c46a1298", func := "loop.example/g03303/laws.FnExactAreBeside", spec := "fnExactAreBeside", unfollowed := true, recurses := true, apart := false }
def FnExactAreBesideSaid : Prop := fnExactAreBesideRow.holds Tryz.pinned (OpenSpec.ofChange fnExactAreBesideSpec)

/-- ITS FALSE NEIGHBOUR: 'it returns false'. Refute it at one input. -/
def fnExactAreBesideWrong : ChangeSpec := { name := "fnExactAreBeside", fn := fun _ => fun
  | [d1, d2, d3] => { results := [.lit (.bool false)], args := [d1, d2, d3] }
  | _ => none }
def FnExactAreBesideWrongFalsely : Prop := fnExactAreBesideRow.holds Tryz.pinned (OpenSpec.ofChange fnExactAreBesideWrong)

/-- 'laws.FnExactBesideOf': WHATEVER THE INPUT: true; the input reads as it did. -/
def fnExactBesideOfSpec : ChangeSpec := { name := "fnExactBesideOf", fn := fun _ => fun
  | [d1, d2] => { results := [.lit (.bool true)], args := [d1, d2] }
  | _ => none }
def fnExactBesideOfRow : OpenClaim := { program := "ytnonebfdognlmaagreat", sum := "c8053d6318ea0b0ebfaed4a311fcbf2ac4df34e930dbfff985b28655c46a1298", func := "loop.example/g03303/laws.FnExactBesideOf", spec := "fnExactBesideOf", unfollowed := true, recurses := true, apart := false }
def FnExactBesideOfSaid : Prop := fnExactBesideOfRow.holds Tryz.pinned (OpenSpec.ofChange fnExactBesideOfSpec)

/-- ITS FALSE NEIGHBOUR: 'it returns false'. Refute it at one input. -/
def fnExactBesideOfWrong : ChangeSpec := { name := "fnExactBesideOf", fn := fun _ => fun
  | [d1, d2] => { results := [.lit (.bool false)], args := [d1, d2] }
  | _ => none }
def FnExactBesideOfWrongFalsely : Prop := fnExactBesideOfRow.holds Tryz.pinned (OpenSpec.ofChange fnExactBesideOfWrong)

/-- 'laws.FnExactFacesAround': WHATEVER THE INPUT: true; the input reads as it did. -/
def fnExactFacesAroundSpec : ChangeSpec := { name := "fnExactFacesAround", fn := fun _ => fun
  | [d1, d2] => { results := [.lit (.bool true)], args := [d1, d2] }
  | _ => none }
def fnExactFacesAroundRow : OpenClaim := { program := "ytnonebfdognlmaagreat", sum := "c8053d6318ea0b0ebfaed4a311fcbf2ac4df34e930dbfff985b28655c46a1298", func := "loop.example/g03303/laws.FnExactFacesAround", spec := "fnExactFacesAround", unfollowed := true, recurses := true, apart := false }
def FnExactFacesAroundSaid : Prop := fnExactFacesAroundRow.holds Tryz.pinned (OpenSpec.ofChange fnExactFacesAroundSpec)

/-- ITS FALSE NEIGHBOUR: 'it returns false'. Refute it at one input. -/
def fnExactFacesAroundWrong : ChangeSpec := { name := "fnExactFacesAround", fn := fun _ => fun
  | [d1, d2] => { results := [.lit (.bool false)], args := [d1, d2] }
  | _ => none }
def FnExactFacesAroundWrongFalsely : Prop := fnExactFacesAroundRow.holds Tryz.pinned (OpenSpec.ofChange fnExactFacesAroundWrong)

/-- 'laws.FnExactDualDegree': WHATEVER THE INPUT: true; the input reads as it did. -/
def fnExactDualDegreeSpec : ChangeSpec := { name := "fnExactDualDegree", fn := fun _ => fun
  | [d1, d2] => { results := [.lit (.bool true)], args := [d1, d2] }
  | _ => none }
def fnExactDualDegreeRow : OpenClaim := { program := "ytnonebfdognlmaagreat", sum := "c8053d6318ea0b0ebfaed4a311fcbf2ac4df34e930dbfff985b28655c46a1298", func := "loop.example/g03303/laws.FnExactDualDegree", spec := "fnExactDualDegree", unfollowed := true, recurses := true, apart := false }
def FnExactDualDegreeSaid : Prop := fnExactDualDegreeRow.holds Tryz.pinned (OpenSpec.ofChange fnExactDualDegreeSpec)

/-- ITS FALSE NEIGHBOUR: 'it returns false'. Refute it at one input. -/
def fnExactDualDegreeWrong : ChangeSpec := { name := "fnExactDualDegree", fn := fun _ => fun
  | [d1, d2] => { results := [.lit (.bool false)], args := [d1, d2] }
  | _ => none }
def FnExactDualDegreeWrongFalsely : Prop := fnExactDualDegreeRow.holds Tryz.pinned (OpenSpec.ofChange fnExactDualDegreeWrong)

/- THE SECOND FORM. 'bulk': how many values and letters a reading holds, each counted each time it is reached (what is shared counts as often as it is met; a slice's spare places count too). A statement '..UptoSaid' is the law's where the arguments, and the package variables that the reading takes, are together of bulk at most 1048576: NARROWER than '..Said'. Prove '..Said' where nothing that the law and all that it calls make is longer than what came in: it says more and counts as full. Else prove '..UptoSaid'. A law counts once. -/
mutual
def uptoBulk {H : Type} : DataW H → Nat
  | .lit (.string bytes) => bytes.length + 1
  | .lit _ => 1
  | .nil => 1
  | .ptr d => uptoBulk d + 1
  | .slice elems spare => uptoBulkAll elems + uptoBulkAll spare + 1
  | .agg parts => uptoBulkAll parts + 1
  | .iface _ d => uptoBulk d + 1
  | .map entries => uptoBulkEntries entries + 1
  | .held _ => 1
def uptoBulkAll {H : Type} : List (DataW H) → Nat
  | [] => 0
  | d :: r => uptoBulk d + uptoBulkAll r
def uptoBulkEntries {H : Type} : List (Lit × DataW H) → Nat
  | [] => 0
  | x :: r => uptoBulkEntry x + uptoBulkEntries r
def uptoBulkEntry {H : Type} : Lit × DataW H → Nat
  | (.string bytes, d) => bytes.length + uptoBulk d + 1
  | (_, d) => uptoBulk d + 1
 end
def uptoSmall : (H : Type) → List (DataW H) → Bool := fun _ ds => decide (uptoBulkAll ds ≤ 1048576)
def OpenSpec.upto (s : _root_.Go.ChangeSpec) : _root_.Go.OpenSpec := { _root_.Go.OpenSpec.ofChange s with cond := some uptoSmall }

/-- 'laws.FnExactFacesOf', WHERE WHAT IT READS IS OF BULK AT MOST 1048576: true; the input reads as it did. -/
def fnExactFacesOfUptoRow : OpenClaim := { program := "ytnonebfdognlmaagreat", sum := "c8053d6318ea0b0ebfaed4a311fcbf2ac4df34e930dbfff985b28655c46a1298", func := "loop.example/g03303/laws.FnExactFacesOf", spec := "fnExactFacesOf", unfollowed := true, recurses := true, apart := false, narrowed := true }
def FnExactFacesOfUptoSaid : Prop := fnExactFacesOfUptoRow.holds Tryz.pinned (OpenSpec.upto fnExactFacesOfSpec)

/-- 'laws.FnExactFaceAt', WHERE WHAT IT READS IS OF BULK AT MOST 1048576: true; the input reads as it did. -/
def fnExactFaceAtUptoRow : OpenClaim := { program := "ytnonebfdognlmaagreat", sum := "c8053d6318ea0b0ebfaed4a311fcbf2ac4df34e930dbfff985b28655c46a1298", func := "loop.example/g03303/laws.FnExactFaceAt", spec := "fnExactFaceAt", unfollowed := true, recurses := true, apart := false, narrowed := true }
def FnExactFaceAtUptoSaid : Prop := fnExactFaceAtUptoRow.holds Tryz.pinned (OpenSpec.upto fnExactFaceAtSpec)

/-- 'laws.FnExactOuterFace', WHERE WHAT IT READS IS OF BULK AT MOST 1048576: true; the input reads as it did. -/
def fnExactOuterFaceUptoRow : OpenClaim := { program := "ytnonebfdognlmaagreat", sum := "c8053d6318ea0b0ebfaed4a311fcbf2ac4df34e930dbfff985b28655c46a1298", func := "loop.example/g03303/laws.FnExactOuterFace", spec := "fnExactOuterFace", unfollowed := true, recurses := true, apart := false, narrowed := true }
def FnExactOuterFaceUptoSaid : Prop := fnExactOuterFaceUptoRow.holds Tryz.pinned (OpenSpec.upto fnExactOuterFaceSpec)

/-- 'laws.FnExactAreaOf', WHERE WHAT IT READS IS OF BULK AT MOST 1048576: true; the input reads as it did. -/
def fnExactAreaOfUptoRow : OpenClaim := { program := "ytnonebfdognlmaagreat", sum := "c8053d6318ea0b0ebfaed4a311fcbf2ac4df34e930dbfff985b28655c46a1298", func := "loop.example/g03303/laws.FnExactAreaOf", spec := "fnExactAreaOf", unfollowed := true, recurses := true, apart := false, narrowed := true }
def FnExactAreaOfUptoSaid : Prop := fnExactAreaOfUptoRow.holds Tryz.pinned (OpenSpec.upto fnExactAreaOfSpec)

/-- 'laws.FnExactTotalArea', WHERE WHAT IT READS IS OF BULK AT MOST 1048576: true; the input reads as it did. -/
def fnExactTotalAreaUptoRow : OpenClaim := { program := "ytnonebfdognlmaagreat", sum := "c8053d6318ea0b0ebfaed4a311fcbf2ac4df34e930dbfff985b28655c46a1298", func := "loop.example/g03303/laws.FnExactTotalArea", spec := "fnExactTotalArea", unfollowed := true, recurses := true, apart := false, narrowed := true }
def FnExactTotalAreaUptoSaid : Prop := fnExactTotalAreaUptoRow.holds Tryz.pinned (OpenSpec.upto fnExactTotalAreaSpec)

/-- 'laws.FnExactFaceDegrees', WHERE WHAT IT READS IS OF BULK AT MOST 1048576: true; the input reads as it did. -/
def fnExactFaceDegreesUptoRow : OpenClaim := { program := "ytnonebfdognlmaagreat", sum := "c8053d6318ea0b0ebfaed4a311fcbf2ac4df34e930dbfff985b28655c46a1298", func := "loop.example/g03303/laws.FnExactFaceDegrees", spec := "fnExactFaceDegrees", unfollowed := true, recurses := true, apart := false, narrowed := true }
def FnExactFaceDegreesUptoSaid : Prop := fnExactFaceDegreesUptoRow.holds Tryz.pinned (OpenSpec.upto fnExactFaceDegreesSpec)

/-- 'laws.FnExactSidesOf', WHERE WHAT IT READS IS OF BULK AT MOST 1048576: true; the input reads as it did. -/
def fnExactSidesOfUptoRow : OpenClaim := { program := "ytnonebfdognlmaagreat", sum := "c8053d6318ea0b0ebfaed4a311fcbf2ac4df34e930dbfff985b28655c46a1298", func := "loop.example/g03303/laws.FnExactSidesOf", spec := "fnExactSidesOf", unfollowed := true, recurses := true, apart := false, narrowed := true }
def FnExactSidesOfUptoSaid : Prop := fnExactSidesOfUptoRow.holds Tryz.pinned (OpenSpec.upto fnExactSidesOfSpec)

/-- 'laws.FnExactSharedLeads', WHERE WHAT IT READS IS OF BULK AT MOST 1048576: true; the input reads as it did. -/
def fnExactSharedLeadsUptoRow : OpenClaim := { program := "ytnonebfdognlmaagreat", sum := "c8053d6318ea0b0ebfaed4a311fcbf2ac4df34e930dbfff985b28655c46a1298", func := "loop.example/g03303/laws.FnExactSharedLeads", spec := "fnExactSharedLeads", unfollowed := true, recurses := true, apart := false, narrowed := true }
def FnExactSharedLeadsUptoSaid : Prop := fnExactSharedLeadsUptoRow.holds Tryz.pinned (OpenSpec.upto fnExactSharedLeadsSpec)

/-- 'laws.FnExactAreBeside', WHERE WHAT IT READS IS OF BULK AT MOST 1048576: true; the input reads as it did. -/
def fnExactAreBesideUptoRow : OpenClaim := { program := "ytnonebfdognlmaagreat", sum := "c8053d6318ea0b0ebfaed4a311fcbf2ac4df34e930dbfff985b28655c46a1298", func := "loop.example/g03303/laws.FnExactAreBeside", spec := "fnExactAreBeside", unfollowed := true, recurses := true, apart := false, narrowed := true }
def FnExactAreBesideUptoSaid : Prop := fnExactAreBesideUptoRow.holds Tryz.pinned (OpenSpec.upto fnExactAreBesideSpec)

/-- 'laws.FnExactBesideOf', WHERE WHAT IT READS IS OF BULK AT MOST 1048576: true; the input reads as it did. -/
def fnExactBesideOfUptoRow : OpenClaim := { program := "ytnonebfdognlmaagreat", sum := "c8053d6318ea0b0ebfaed4a311fcbf2ac4df34e930dbfff985b28655c46a1298", func := "loop.example/g03303/laws.FnExactBesideOf", spec := "fnExactBesideOf", unfollowed := true, recurses := true, apart := false, narrowed := true }
def FnExactBesideOfUptoSaid : Prop := fnExactBesideOfUptoRow.holds Tryz.pinned (OpenSpec.upto fnExactBesideOfSpec)

/-- 'laws.FnExactFacesAround', WHERE WHAT IT READS IS OF BULK AT MOST 1048576: true; the input reads as it did. -/
def fnExactFacesAroundUptoRow : OpenClaim := { program := "ytnonebfdognlmaagreat", sum := "c8053d6318ea0b0ebfaed4a311fcbf2ac4df34e930dbfff985b28655c46a1298", func := "loop.example/g03303/laws.FnExactFacesAround", spec := "fnExactFacesAround", unfollowed := true, recurses := true, apart := false, narrowed := true }
def FnExactFacesAroundUptoSaid : Prop := fnExactFacesAroundUptoRow.holds Tryz.pinned (OpenSpec.upto fnExactFacesAroundSpec)

/-- 'laws.FnExactDualDegree', WHERE WHAT IT READS IS OF BULK AT MOST 1048576: true; the input reads as it did. -/
def fnExactDualDegreeUptoRow : OpenClaim := { program := "ytnonebfdognlmaagreat", sum := "c8053d6318ea0b0ebfaed4a311fcbf2ac4df34e930dbfff985b28655c46a1298", func := "loop.example/g03303/laws.FnExactDualDegree", spec := "fnExactDualDegree", unfollowed := true, recurses := true, apart := false, narrowed := true }
def FnExactDualDegreeUptoSaid : Prop := fnExactDualDegreeUptoRow.holds Tryz.pinned (OpenSpec.upto fnExactDualDegreeSpec)

end Rows
end Go.Proofs.YtnonebfdognlmaaGreat
