/-
  No cell of these rows narrows 'for every input' (looked for: loops, veiled, ifaces, maps, wideKeys, modest, calm, conditions, laid).
  DERIVED. THE GIVEN ROWS OF THIS SEAT. 13 by the template 'for every input the law returns true; each argument reads behind the call as it read before'; 0 by the template 'total and deterministic' (their statements: YtepacoacalhdcaaGreatTotals.lean).
  GIVEN WITH THE SEED: the statements are not yours to turn. If you find one false, say at which input.
  Laid BY PROGRAM, IN A SANDBOX (cutbox-rows.mjs): the forced cells as the released guide's own fill.sh prints them over the translation b251b48e3df2e3ea… (all of the seat's roots in one cut). By AI agents, Wed Nov 11 2026. No macro, syntax, notation, axiom, sorry.
-/
import Derived.Test.YtepacoacalhdcaaGreatChecked
import GoSem.Claim
import GoSem.ClaimJoined
import GoSem.ClaimMapViews
import Derived.JoinedTies
import Derived.KernelRfl
namespace Go.Proofs.YtepacoacalhdcaaGreat
/- THE CELL 'sum', in the pinned program and in every row, IS THE sha256 OF THE DUMP (.gsa) THAT YtepacoacalhdcaaGreatProg.lean LOADS. Nothing in Lean hashes anything: it is a label: what it is worth is what the hold of that sum in a sandbox is worth. -/
noncomputable def Tryz.pinned : Pinned := { name := "ytepacoacalhdcaagreat", sum := "b251b48e3df2e3ea6d38a7209079302cbee019d018646950cf0e4c76019bfc56", checked := Tryz.checked }
namespace Rows
def none {H : Type} : Left H := { results := [], args := [] }

/-- 'laws.FnExactLooseAfter': WHATEVER THE INPUT: true; the input reads as it did. -/
def fnExactLooseAfterSpec : ChangeSpec := { name := "fnExactLooseAfter", fn := fun _ => fun
  | [d1, d2] => { results := [.lit (.bool true)], args := [d1, d2] }
  | _ => none }
def fnExactLooseAfterRow : OpenClaim := { program := "ytepacoacalhdcaagreat", sum := "b251b48e3df2e3ea6d38a7209079302cbee019d018646950cf0e4c76019bfc56", func := "loop.example/g03303/laws.FnExactLooseAfter", spec := "fnExactLooseAfter", unfollowed := true, recurses := true, apart := false }
def FnExactLooseAfterSaid : Prop := fnExactLooseAfterRow.holds Tryz.pinned (OpenSpec.ofChange fnExactLooseAfterSpec)

/-- ITS FALSE NEIGHBOUR: 'it returns false'. Refute it at one input. -/
def fnExactLooseAfterWrong : ChangeSpec := { name := "fnExactLooseAfter", fn := fun _ => fun
  | [d1, d2] => { results := [.lit (.bool false)], args := [d1, d2] }
  | _ => none }
def FnExactLooseAfterWrongFalsely : Prop := fnExactLooseAfterRow.holds Tryz.pinned (OpenSpec.ofChange fnExactLooseAfterWrong)

/-- 'laws.FnExactWeakFaces': WHATEVER THE INPUT: true; the input reads as it did. -/
def fnExactWeakFacesSpec : ChangeSpec := { name := "fnExactWeakFaces", fn := fun _ => fun
  | [d1, d2, d3] => { results := [.lit (.bool true)], args := [d1, d2, d3] }
  | _ => none }
def fnExactWeakFacesRow : OpenClaim := { program := "ytepacoacalhdcaagreat", sum := "b251b48e3df2e3ea6d38a7209079302cbee019d018646950cf0e4c76019bfc56", func := "loop.example/g03303/laws.FnExactWeakFaces", spec := "fnExactWeakFaces", unfollowed := true, recurses := true, apart := false }
def FnExactWeakFacesSaid : Prop := fnExactWeakFacesRow.holds Tryz.pinned (OpenSpec.ofChange fnExactWeakFacesSpec)

/-- ITS FALSE NEIGHBOUR: 'it returns false'. Refute it at one input. -/
def fnExactWeakFacesWrong : ChangeSpec := { name := "fnExactWeakFaces", fn := fun _ => fun
  | [d1, d2, d3] => { results := [.lit (.bool false)], args := [d1, d2, d3] }
  | _ => none }
def FnExactWeakFacesWrongFalsely : Prop := fnExactWeakFacesRow.holds Tryz.pinned (OpenSpec.ofChange fnExactWeakFacesWrong)

/-- 'laws.FnExactGreatestWind': WHATEVER THE INPUT: true; the input reads as it did. -/
def fnExactGreatestWindSpec : ChangeSpec := { name := "fnExactGreatestWind", fn := fun _ => fun
  | [d1, d2] => { results := [.lit (.bool true)], args := [d1, d2] }
  | _ => none }
def fnExactGreatestWindRow : OpenClaim := { program := "ytepacoacalhdcaagreat", sum := "b251b48e3df2e3ea6d38a7209079302cbee019d018646950cf0e4c76019bfc56", func := "loop.example/g03303/laws.FnExactGreatestWind", spec := "fnExactGreatestWind", unfollowed := true, recurses := true, apart := false }
def FnExactGreatestWindSaid : Prop := fnExactGreatestWindRow.holds Tryz.pinned (OpenSpec.ofChange fnExactGreatestWindSpec)

/-- ITS FALSE NEIGHBOUR: 'it returns false'. Refute it at one input. -/
def fnExactGreatestWindWrong : ChangeSpec := { name := "fnExactGreatestWind", fn := fun _ => fun
  | [d1, d2] => { results := [.lit (.bool false)], args := [d1, d2] }
  | _ => none }
def FnExactGreatestWindWrongFalsely : Prop := fnExactGreatestWindRow.holds Tryz.pinned (OpenSpec.ofChange fnExactGreatestWindWrong)

/-- 'laws.FnExactOriginalArea': WHATEVER THE INPUT: true; the input reads as it did. -/
def fnExactOriginalAreaSpec : ChangeSpec := { name := "fnExactOriginalArea", fn := fun _ => fun
  | [d1, d2] => { results := [.lit (.bool true)], args := [d1, d2] }
  | _ => none }
def fnExactOriginalAreaRow : OpenClaim := { program := "ytepacoacalhdcaagreat", sum := "b251b48e3df2e3ea6d38a7209079302cbee019d018646950cf0e4c76019bfc56", func := "loop.example/g03303/laws.FnExactOriginalArea", spec := "fnExactOriginalArea", unfollowed := true, recurses := true, apart := false }
def FnExactOriginalAreaSaid : Prop := fnExactOriginalAreaRow.holds Tryz.pinned (OpenSpec.ofChange fnExactOriginalAreaSpec)

/-- ITS FALSE NEIGHBOUR: 'it returns false'. Refute it at one input. -/
def fnExactOriginalAreaWrong : ChangeSpec := { name := "fnExactOriginalArea", fn := fun _ => fun
  | [d1, d2] => { results := [.lit (.bool false)], args := [d1, d2] }
  | _ => none }
def FnExactOriginalAreaWrongFalsely : Prop := fnExactOriginalAreaRow.holds Tryz.pinned (OpenSpec.ofChange fnExactOriginalAreaWrong)

/-- 'laws.FnExactMayReplace': WHATEVER THE INPUT: true; the input reads as it did. -/
def fnExactMayReplaceSpec : ChangeSpec := { name := "fnExactMayReplace", fn := fun _ => fun
  | [d1, d2, d3, d4] => { results := [.lit (.bool true)], args := [d1, d2, d3, d4] }
  | _ => none }
def fnExactMayReplaceRow : OpenClaim := { program := "ytepacoacalhdcaagreat", sum := "b251b48e3df2e3ea6d38a7209079302cbee019d018646950cf0e4c76019bfc56", func := "loop.example/g03303/laws.FnExactMayReplace", spec := "fnExactMayReplace", unfollowed := true, recurses := true, apart := false }
def FnExactMayReplaceSaid : Prop := fnExactMayReplaceRow.holds Tryz.pinned (OpenSpec.ofChange fnExactMayReplaceSpec)

/-- ITS FALSE NEIGHBOUR: 'it returns false'. Refute it at one input. -/
def fnExactMayReplaceWrong : ChangeSpec := { name := "fnExactMayReplace", fn := fun _ => fun
  | [d1, d2, d3, d4] => { results := [.lit (.bool false)], args := [d1, d2, d3, d4] }
  | _ => none }
def FnExactMayReplaceWrongFalsely : Prop := fnExactMayReplaceRow.holds Tryz.pinned (OpenSpec.ofChange fnExactMayReplaceWrong)

/-- 'laws.FnExactReplaceFace': WHATEVER THE INPUT: true; the input reads as it did. -/
def fnExactReplaceFaceSpec : ChangeSpec := { name := "fnExactReplaceFace", fn := fun _ => fun
  | [d1, d2, d3, d4, d5] => { results := [.lit (.bool true)], args := [d1, d2, d3, d4, d5] }
  | _ => none }
def fnExactReplaceFaceRow : OpenClaim := { program := "ytepacoacalhdcaagreat", sum := "b251b48e3df2e3ea6d38a7209079302cbee019d018646950cf0e4c76019bfc56", func := "loop.example/g03303/laws.FnExactReplaceFace", spec := "fnExactReplaceFace", unfollowed := true, recurses := true, apart := false }
def FnExactReplaceFaceSaid : Prop := fnExactReplaceFaceRow.holds Tryz.pinned (OpenSpec.ofChange fnExactReplaceFaceSpec)

/-- ITS FALSE NEIGHBOUR: 'it returns false'. Refute it at one input. -/
def fnExactReplaceFaceWrong : ChangeSpec := { name := "fnExactReplaceFace", fn := fun _ => fun
  | [d1, d2, d3, d4, d5] => { results := [.lit (.bool false)], args := [d1, d2, d3, d4, d5] }
  | _ => none }
def FnExactReplaceFaceWrongFalsely : Prop := fnExactReplaceFaceRow.holds Tryz.pinned (OpenSpec.ofChange fnExactReplaceFaceWrong)

/-- 'laws.FnExactMiddleOf': WHATEVER THE INPUT: true; the input reads as it did. -/
def fnExactMiddleOfSpec : ChangeSpec := { name := "fnExactMiddleOf", fn := fun _ => fun
  | [d] => { results := [.lit (.bool true)], args := [d] }
  | _ => none }
def fnExactMiddleOfRow : OpenClaim := { program := "ytepacoacalhdcaagreat", sum := "b251b48e3df2e3ea6d38a7209079302cbee019d018646950cf0e4c76019bfc56", func := "loop.example/g03303/laws.FnExactMiddleOf", spec := "fnExactMiddleOf", unfollowed := true, recurses := true, apart := false }
def FnExactMiddleOfSaid : Prop := fnExactMiddleOfRow.holds Tryz.pinned (OpenSpec.ofChange fnExactMiddleOfSpec)

/-- ITS FALSE NEIGHBOUR: 'it returns false'. Refute it at one input. -/
def fnExactMiddleOfWrong : ChangeSpec := { name := "fnExactMiddleOf", fn := fun _ => fun
  | [d] => { results := [.lit (.bool false)], args := [d] }
  | _ => none }
def FnExactMiddleOfWrongFalsely : Prop := fnExactMiddleOfRow.holds Tryz.pinned (OpenSpec.ofChange fnExactMiddleOfWrong)

/-- 'laws.FnExactBillOf': WHATEVER THE INPUT: true; the input reads as it did. -/
def fnExactBillOfSpec : ChangeSpec := { name := "fnExactBillOf", fn := fun _ => fun
  | [d1, d2, d3] => { results := [.lit (.bool true)], args := [d1, d2, d3] }
  | _ => none }
def fnExactBillOfRow : OpenClaim := { program := "ytepacoacalhdcaagreat", sum := "b251b48e3df2e3ea6d38a7209079302cbee019d018646950cf0e4c76019bfc56", func := "loop.example/g03303/laws.FnExactBillOf", spec := "fnExactBillOf", unfollowed := true, recurses := true, apart := false }
def FnExactBillOfSaid : Prop := fnExactBillOfRow.holds Tryz.pinned (OpenSpec.ofChange fnExactBillOfSpec)

/-- ITS FALSE NEIGHBOUR: 'it returns false'. Refute it at one input. -/
def fnExactBillOfWrong : ChangeSpec := { name := "fnExactBillOf", fn := fun _ => fun
  | [d1, d2, d3] => { results := [.lit (.bool false)], args := [d1, d2, d3] }
  | _ => none }
def FnExactBillOfWrongFalsely : Prop := fnExactBillOfRow.holds Tryz.pinned (OpenSpec.ofChange fnExactBillOfWrong)

/-- 'laws.FnExactCheaperTariff': WHATEVER THE INPUT: true; the input reads as it did. -/
def fnExactCheaperTariffSpec : ChangeSpec := { name := "fnExactCheaperTariff", fn := fun _ => fun
  | [d1, d2, d3] => { results := [.lit (.bool true)], args := [d1, d2, d3] }
  | _ => none }
def fnExactCheaperTariffRow : OpenClaim := { program := "ytepacoacalhdcaagreat", sum := "b251b48e3df2e3ea6d38a7209079302cbee019d018646950cf0e4c76019bfc56", func := "loop.example/g03303/laws.FnExactCheaperTariff", spec := "fnExactCheaperTariff", unfollowed := true, recurses := true, apart := false }
def FnExactCheaperTariffSaid : Prop := fnExactCheaperTariffRow.holds Tryz.pinned (OpenSpec.ofChange fnExactCheaperTariffSpec)

/-- ITS FALSE NEIGHBOUR: 'it returns false'. Refute it at one input. -/
def fnExactCheaperTariffWrong : ChangeSpec := { name := "fnExactCheaperTariff", fn := fun _ => fun
  | [d1, d2, d3] => { results := [.lit (.bool false)], args := [d1, d2, d3] }
  | _ => none }
def FnExactCheaperTariffWrongFalsely : Prop := fnExactCheaperTariffRow.holds Tryz.pinned (OpenSpec.ofChange fnExactCheaperTariffWrong)

/-- 'laws.FnExactFreeFace': WHATEVER THE INPUT: true; the input reads as it did. -/
def fnExactFreeFaceSpec : ChangeSpec := { name := "fnExactFreeFace", fn := fun _ => fun
  | [d1, d2, d3, d4] => { results := [.lit (.bool true)], args := [d1, d2, d3, d4] }
  | _ => none }
def fnExactFreeFaceRow : OpenClaim := { program := "ytepacoacalhdcaagreat", sum := "b251b48e3df2e3ea6d38a7209079302cbee019d018646950cf0e4c76019bfc56", func := "loop.example/g03303/laws.FnExactFreeFace", spec := "fnExactFreeFace", unfollowed := true, recurses := true, apart := false }
def FnExactFreeFaceSaid : Prop := fnExactFreeFaceRow.holds Tryz.pinned (OpenSpec.ofChange fnExactFreeFaceSpec)

/-- ITS FALSE NEIGHBOUR: 'it returns false'. Refute it at one input. -/
def fnExactFreeFaceWrong : ChangeSpec := { name := "fnExactFreeFace", fn := fun _ => fun
  | [d1, d2, d3, d4] => { results := [.lit (.bool false)], args := [d1, d2, d3, d4] }
  | _ => none }
def FnExactFreeFaceWrongFalsely : Prop := fnExactFreeFaceRow.holds Tryz.pinned (OpenSpec.ofChange fnExactFreeFaceWrong)

/-- 'laws.FnExactBrightestFace': WHATEVER THE INPUT: true; the input reads as it did. -/
def fnExactBrightestFaceSpec : ChangeSpec := { name := "fnExactBrightestFace", fn := fun _ => fun
  | [d1, d2] => { results := [.lit (.bool true)], args := [d1, d2] }
  | _ => none }
def fnExactBrightestFaceRow : OpenClaim := { program := "ytepacoacalhdcaagreat", sum := "b251b48e3df2e3ea6d38a7209079302cbee019d018646950cf0e4c76019bfc56", func := "loop.example/g03303/laws.FnExactBrightestFace", spec := "fnExactBrightestFace", unfollowed := true, recurses := true, apart := false }
def FnExactBrightestFaceSaid : Prop := fnExactBrightestFaceRow.holds Tryz.pinned (OpenSpec.ofChange fnExactBrightestFaceSpec)

/-- ITS FALSE NEIGHBOUR: 'it returns false'. Refute it at one input. -/
def fnExactBrightestFaceWrong : ChangeSpec := { name := "fnExactBrightestFace", fn := fun _ => fun
  | [d1, d2] => { results := [.lit (.bool false)], args := [d1, d2] }
  | _ => none }
def FnExactBrightestFaceWrongFalsely : Prop := fnExactBrightestFaceRow.holds Tryz.pinned (OpenSpec.ofChange fnExactBrightestFaceWrong)

/-- 'laws.FnExactLightOf': WHATEVER THE INPUT: true; the input reads as it did. -/
def fnExactLightOfSpec : ChangeSpec := { name := "fnExactLightOf", fn := fun _ => fun
  | [d1, d2] => { results := [.lit (.bool true)], args := [d1, d2] }
  | _ => none }
def fnExactLightOfRow : OpenClaim := { program := "ytepacoacalhdcaagreat", sum := "b251b48e3df2e3ea6d38a7209079302cbee019d018646950cf0e4c76019bfc56", func := "loop.example/g03303/laws.FnExactLightOf", spec := "fnExactLightOf", unfollowed := true, recurses := true, apart := false }
def FnExactLightOfSaid : Prop := fnExactLightOfRow.holds Tryz.pinned (OpenSpec.ofChange fnExactLightOfSpec)

/-- ITS FALSE NEIGHBOUR: 'it returns false'. Refute it at one input. -/
def fnExactLightOfWrong : ChangeSpec := { name := "fnExactLightOf", fn := fun _ => fun
  | [d1, d2] => { results := [.lit (.bool false)], args := [d1, d2] }
  | _ => none }
def FnExactLightOfWrongFalsely : Prop := fnExactLightOfRow.holds Tryz.pinned (OpenSpec.ofChange fnExactLightOfWrong)

/-- 'laws.FnExactShareOfLight': WHATEVER THE INPUT: true; the input reads as it did. -/
def fnExactShareOfLightSpec : ChangeSpec := { name := "fnExactShareOfLight", fn := fun _ => fun
  | [d1, d2] => { results := [.lit (.bool true)], args := [d1, d2] }
  | _ => none }
def fnExactShareOfLightRow : OpenClaim := { program := "ytepacoacalhdcaagreat", sum := "b251b48e3df2e3ea6d38a7209079302cbee019d018646950cf0e4c76019bfc56", func := "loop.example/g03303/laws.FnExactShareOfLight", spec := "fnExactShareOfLight", unfollowed := true, recurses := true, apart := false }
def FnExactShareOfLightSaid : Prop := fnExactShareOfLightRow.holds Tryz.pinned (OpenSpec.ofChange fnExactShareOfLightSpec)

/-- ITS FALSE NEIGHBOUR: 'it returns false'. Refute it at one input. -/
def fnExactShareOfLightWrong : ChangeSpec := { name := "fnExactShareOfLight", fn := fun _ => fun
  | [d1, d2] => { results := [.lit (.bool false)], args := [d1, d2] }
  | _ => none }
def FnExactShareOfLightWrongFalsely : Prop := fnExactShareOfLightRow.holds Tryz.pinned (OpenSpec.ofChange fnExactShareOfLightWrong)

/- THE SECOND FORM. 'bulk': how many values and letters a reading holds, each counted each time it is reached (what is shared counts as often as it is met; a slice's spare places count too). A statement '..UptoSaid' is the law's where the arguments, and the package variables that the reading takes, are together of bulk at most 1048576: NARROWER than '..Said'. Prove '..Said' where nothing that the law and all that it calls make is longer than what came in: it says more and counts as full. Else prove '..UptoSaid'. A law counts once. -/
mutual
def uptoBulk {H : Type} : DataW H → Nat
  | .lit (.string bytes) => bytes.length + 1
  | .lit _ => 1
  | .nil => 1
  | .ptr d => uptoBulk d + 1
  | .slice elems spare => uptoBulkAll elems + uptoBulkAll spare + 1
  | .agg parts => uptoBulkAll parts + 1
  | .iface _ d => uptoBulk d + 1
  | .map entries => uptoBulkEntries entries + 1
  | .held _ => 1
def uptoBulkAll {H : Type} : List (DataW H) → Nat
  | [] => 0
  | d :: r => uptoBulk d + uptoBulkAll r
def uptoBulkEntries {H : Type} : List (Lit × DataW H) → Nat
  | [] => 0
  | x :: r => uptoBulkEntry x + uptoBulkEntries r
def uptoBulkEntry {H : Type} : Lit × DataW H → Nat
  | (.string bytes, d) => bytes.length + uptoBulk d + 1
  | (_, d) => uptoBulk d + 1
 end
def uptoSmall : (H : Type) → List (DataW H) → Bool := fun _ ds => decide (uptoBulkAll ds ≤ 1048576)
def OpenSpec.upto (s : _root_.Go.ChangeSpec) : _root_.Go.OpenSpec := { _root_.Go.OpenSpec.ofChange s with cond := some uptoSmall }

/-- 'laws.FnExactLooseAfter', WHERE WHAT IT READS IS OF BULK AT MOST 1048576: true; the input reads as it did. -/
def fnExactLooseAfterUptoRow : OpenClaim := { program := "ytepacoacalhdcaagreat", sum := "b251b48e3df2e3ea6d38a7209079302cbee019d018646950cf0e4c76019bfc56", func := "loop.example/g03303/laws.FnExactLooseAfter", spec := "fnExactLooseAfter", unfollowed := true, recurses := true, apart := false, narrowed := true }
def FnExactLooseAfterUptoSaid : Prop := fnExactLooseAfterUptoRow.holds Tryz.pinned (OpenSpec.upto fnExactLooseAfterSpec)

/-- 'laws.FnExactWeakFaces', WHERE WHAT IT READS IS OF BULK AT MOST 1048576: true; the input reads as it did. -/
def fnExactWeakFacesUptoRow : OpenClaim := { program := "ytepacoacalhdcaagreat", sum := "b251b48e3df2e3ea6d38a7209079302cbee019d018646950cf0e4c76019bfc56", func := "loop.example/g03303/laws.FnExactWeakFaces", spec := "fnExactWeakFaces", unfollowed := true, recurses := true, apart := false, narrowed := true }
def FnExactWeakFacesUptoSaid : Prop := fnExactWeakFacesUptoRow.holds Tryz.pinned (OpenSpec.upto fnExactWeakFacesSpec)

/-- 'laws.FnExactGreatestWind', WHERE WHAT IT READS IS OF BULK AT MOST 1048576: true; the input reads as it did. -/
def fnExactGreatestWindUptoRow : OpenClaim := { program := "ytepacoacalhdcaagreat", sum := "b251b48e3df2e3ea6d38a7209079302cbee019d018646950cf0e4c76019bfc56", func := "loop.example/g03303/laws.FnExactGreatestWind", spec := "fnExactGreatestWind", unfollowed := true, recurses := true, apart := false, narrowed := true }
def FnExactGreatestWindUptoSaid : Prop := fnExactGreatestWindUptoRow.holds Tryz.pinned (OpenSpec.upto fnExactGreatestWindSpec)

/-- 'laws.FnExactOriginalArea', WHERE WHAT IT READS IS OF BULK AT MOST 1048576: true; the input reads as it did. -/
def fnExactOriginalAreaUptoRow : OpenClaim := { program := "ytepacoacalhdcaagreat", sum := "b251b48e3df2e3ea6d38a7209079302cbee019d018646950cf0e4c76019bfc56", func := "loop.example/g03303/laws.FnExactOriginalArea", spec := "fnExactOriginalArea", unfollowed := true, recurses := true, apart := false, narrowed := true }
def FnExactOriginalAreaUptoSaid : Prop := fnExactOriginalAreaUptoRow.holds Tryz.pinned (OpenSpec.upto fnExactOriginalAreaSpec)

/-- 'laws.FnExactMayReplace', WHERE WHAT IT READS IS OF BULK AT MOST 1048576: true; the input reads as it did. -/
def fnExactMayReplaceUptoRow : OpenClaim := { program := "ytepacoacalhdcaagreat", sum := "b251b48e3df2e3ea6d38a7209079302cbee019d018646950cf0e4c76019bfc56", func := "loop.example/g03303/laws.FnExactMayReplace", spec := "fnExactMayReplace", unfollowed := true, recurses := true, apart := false, narrowed := true }
def FnExactMayReplaceUptoSaid : Prop := fnExactMayReplaceUptoRow.holds Tryz.pinned (OpenSpec.upto fnExactMayReplaceSpec)

/-- 'laws.FnExactReplaceFace', WHERE WHAT IT READS IS OF BULK AT MOST 1048576: true; the input reads as it did. -/
def fnExactReplaceFaceUptoRow : OpenClaim := { program := "ytepacoacalhdcaagreat", sum := "b251b48e3df2e3ea6d38a7209079302cbee019d018646950cf0e4c76019bfc56", func := "loop.example/g03303/laws.FnExactReplaceFace", spec := "fnExactReplaceFace", unfollowed := true, recurses := true, apart := false, narrowed := true }
def FnExactReplaceFaceUptoSaid : Prop := fnExactReplaceFaceUptoRow.holds Tryz.pinned (OpenSpec.upto fnExactReplaceFaceSpec)

/-- 'laws.FnExactMiddleOf', WHERE WHAT IT READS IS OF BULK AT MOST 1048576: true; the input reads as it did. -/
def fnExactMiddleOfUptoRow : OpenClaim := { program := "ytepacoacalhdcaagreat", sum := "b251b48e3df2e3ea6d38a7209079302cbee019d018646950cf0e4c76019bfc56", func := "loop.example/g03303/laws.FnExactMiddleOf", spec := "fnExactMiddleOf", unfollowed := true, recurses := true, apart := false, narrowed := true }
def FnExactMiddleOfUptoSaid : Prop := fnExactMiddleOfUptoRow.holds Tryz.pinned (OpenSpec.upto fnExactMiddleOfSpec)

/-- 'laws.FnExactBillOf', WHERE WHAT IT READS IS OF BULK AT MOST 1048576: true; the input reads as it did. -/
def fnExactBillOfUptoRow : OpenClaim := { program := "ytepacoacalhdcaagreat", sum := "b251b48e3df2e3ea6d38a7209079302cbee019d018646950cf0e4c76019bfc56", func := "loop.example/g03303/laws.FnExactBillOf", spec := "fnExactBillOf", unfollowed := true, recurses := true, apart := false, narrowed := true }
def FnExactBillOfUptoSaid : Prop := fnExactBillOfUptoRow.holds Tryz.pinned (OpenSpec.upto fnExactBillOfSpec)

/-- 'laws.FnExactCheaperTariff', WHERE WHAT IT READS IS OF BULK AT MOST 1048576: true; the input reads as it did. -/
def fnExactCheaperTariffUptoRow : OpenClaim := { program := "ytepacoacalhdcaagreat", sum := "b251b48e3df2e3ea6d38a7209079302cbee019d018646950cf0e4c76019bfc56", func := "loop.example/g03303/laws.FnExactCheaperTariff", spec := "fnExactCheaperTariff", unfollowed := true, recurses := true, apart := false, narrowed := true }
def FnExactCheaperTariffUptoSaid : Prop := fnExactCheaperTariffUptoRow.holds Tryz.pinned (OpenSpec.upto fnExactCheaperTariffSpec)

/-- 'laws.FnExactFreeFace', WHERE WHAT IT READS IS OF BULK AT MOST 1048576: true; the input reads as it did. -/
def fnExactFreeFaceUptoRow : OpenClaim := { program := "ytepacoacalhdcaagreat", sum := "b251b48e3df2e3ea6d38a7209079302cbee019d018646950cf0e4c76019bfc56", func := "loop.example/g03303/laws.FnExactFreeFace", spec := "fnExactFreeFace", unfollowed := true, recurses := true, apart := false, narrowed := true }
def FnExactFreeFaceUptoSaid : Prop := fnExactFreeFaceUptoRow.holds Tryz.pinned (OpenSpec.upto fnExactFreeFaceSpec)

/-- 'laws.FnExactBrightestFace', WHERE WHAT IT READS IS OF BULK AT MOST 1048576: true; the input reads as it did. -/
def fnExactBrightestFaceUptoRow : OpenClaim := { program := "ytepacoacalhdcaagreat", sum := "b251b48e3df2e3ea6d38a7209079302cbee019d018646950cf0e4c76019bfc56", func := "loop.example/g03303/laws.FnExactBrightestFace", spec := "fnExactBrightestFace", unfollowed := true, recurses := true, apart := false, narrowed := true }
def FnExactBrightestFaceUptoSaid : Prop := fnExactBrightestFaceUptoRow.holds Tryz.pinned (OpenSpec.upto fnExactBrightestFaceSpec)

/-- 'laws.FnExactLightOf', WHERE WHAT IT READS IS OF BULK AT MOST 1048576: true; the input reads as it did. -/
def fnExactLightOfUptoRow : OpenClaim := { program := "ytepacoacalhdcaagreat", sum := "b251b48e3df2e3ea6d38a7209079302cbee019d018646950cf0e4c76019bfc56", func := "loop.example/g03303/laws.FnExactLightOf", spec := "fnExactLightOf", unfollowed := true, recurses := true, apart := false, narrowed := true }
def FnExactLightOfUptoSaid : Prop := fnExactLightOfUptoRow.holds Tryz.pinned (OpenSpec.upto fnExactLightOfSpec)

/-- 'laws.FnExactShareOfLight', WHERE WHAT IT READS IS OF BULK AT MOST 1048576: true; the input reads as it did. -/
def fnExactShareOfLightUptoRow : OpenClaim := { program := "ytepacoacalhdcaagreat", sum := "b251b48e3df2e3ea6d38a7209079302cbee019d018646950cf0e4c76019bfc56", func := "loop.example/g03303/laws.FnExactShareOfLight", spec := "fnExactShareOfLight", unfollowed := true, recurses := true, apart := false, narrowed := true }
def FnExactShareOfLightUptoSaid : Prop := fnExactShareOfLightUptoRow.holds Tryz.pinned (OpenSpec.upto fnExactShareOfLightSpec)

end Rows
end Go.Proofs.YtepacoacalhdcaaGreat
