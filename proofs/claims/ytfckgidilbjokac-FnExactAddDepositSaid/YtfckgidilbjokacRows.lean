/-
  No cell of these rows narrows 'for every input' (looked for: loops, veiled, ifaces, maps, wideKeys, modest, calm, conditions, laid).
  DERIVED. THE GIVEN ROWS OF THIS SEAT. 12 by the template 'for every input the law returns true; each argument reads behind the call as it read before'; 0 by the template 'total and deterministic' (their statements: YtfckgidilbjokacTotals.lean).
  GIVEN WITH THE SEED: the statements are not yours to turn. If you find one false, say at which input.
  Laid BY PROGRAM, IN A SANDBOX (cutbox-rows.mjs): the forced cells as the released guide's own fill.sh prints them over the translation 1c3ed4ab0541ee86… (all of the seat's roots in one cut). By AI agents, Wed Nov 11 2026. No macro, syntax, notation, axiom, sorry.
-/
import Derived.Test.YtfckgidilbjokacChecked
import GoSem.Claim
import GoSem.ClaimJoined
import GoSem.ClaimMapViews
import Derived.JoinedTies
import Derived.KernelRfl
namespace Go.Proofs.Ytfckgidilbjokac
/- THE CELL 'sum', in the pinned program and in every row, IS THE sha256 OF THE DUMP (.gsa) THAT YtfckgidilbjokacProg.lean LOADS. Nothing in Lean hashes anything: it is a label: what it is worth is what the hold of that sum in a sandbox is worth. -/
noncomputable def Try.pinned : Pinned := { name := "ytfckgidilbjokac", sum := "1c3ed4ab0541ee86881d348be05838cf4905c88c0c4ad44b938f77c72fd21c03", checked := Try.checked }
namespace Rows
def none {H : Type} : Left H := { results := [], args := [] }

/-- 'laws.FnExactWidestGap': WHATEVER THE INPUT: true; the input reads as it did. -/
def fnExactWidestGapSpec : ChangeSpec := { name := "fnExactWidestGap", fn := fun _ => fun
  | [d1, d2] => { results := [.lit (.bool true)], args := [d1, d2] }
  | _ => none }
def fnExactWidestGapRow : OpenClaim := { program := "ytfckgidilbjokac", sum := "1c3ed4ab0541ee86881d348be05838cf4905c88c0c4ad44b938f77c72fd21c03", func := "loop.example/g03303/laws.FnExactWidestGap", spec := "fnExactWidestGap", apart := false }
def FnExactWidestGapSaid : Prop := fnExactWidestGapRow.holds Try.pinned (OpenSpec.ofChange fnExactWidestGapSpec)

/-- ITS FALSE NEIGHBOUR: 'it returns false'. Refute it at one input. -/
def fnExactWidestGapWrong : ChangeSpec := { name := "fnExactWidestGap", fn := fun _ => fun
  | [d1, d2] => { results := [.lit (.bool false)], args := [d1, d2] }
  | _ => none }
def FnExactWidestGapWrongFalsely : Prop := fnExactWidestGapRow.holds Try.pinned (OpenSpec.ofChange fnExactWidestGapWrong)

/-- 'laws.FnExactFewestBars': WHATEVER THE INPUT: true; the input reads as it did. -/
def fnExactFewestBarsSpec : ChangeSpec := { name := "fnExactFewestBars", fn := fun _ => fun
  | [d1, d2] => { results := [.lit (.bool true)], args := [d1, d2] }
  | _ => none }
def fnExactFewestBarsRow : OpenClaim := { program := "ytfckgidilbjokac", sum := "1c3ed4ab0541ee86881d348be05838cf4905c88c0c4ad44b938f77c72fd21c03", func := "loop.example/g03303/laws.FnExactFewestBars", spec := "fnExactFewestBars", unfollowed := true, recurses := true, apart := false }
def FnExactFewestBarsSaid : Prop := fnExactFewestBarsRow.holds Try.pinned (OpenSpec.ofChange fnExactFewestBarsSpec)

/-- ITS FALSE NEIGHBOUR: 'it returns false'. Refute it at one input. -/
def fnExactFewestBarsWrong : ChangeSpec := { name := "fnExactFewestBars", fn := fun _ => fun
  | [d1, d2] => { results := [.lit (.bool false)], args := [d1, d2] }
  | _ => none }
def FnExactFewestBarsWrongFalsely : Prop := fnExactFewestBarsRow.holds Try.pinned (OpenSpec.ofChange fnExactFewestBarsWrong)

/-- 'laws.FnExactUnheldLeads': WHATEVER THE INPUT: true; the input reads as it did. -/
def fnExactUnheldLeadsSpec : ChangeSpec := { name := "fnExactUnheldLeads", fn := fun _ => fun
  | [d1, d2] => { results := [.lit (.bool true)], args := [d1, d2] }
  | _ => none }
def fnExactUnheldLeadsRow : OpenClaim := { program := "ytfckgidilbjokac", sum := "1c3ed4ab0541ee86881d348be05838cf4905c88c0c4ad44b938f77c72fd21c03", func := "loop.example/g03303/laws.FnExactUnheldLeads", spec := "fnExactUnheldLeads", apart := false }
def FnExactUnheldLeadsSaid : Prop := fnExactUnheldLeadsRow.holds Try.pinned (OpenSpec.ofChange fnExactUnheldLeadsSpec)

/-- ITS FALSE NEIGHBOUR: 'it returns false'. Refute it at one input. -/
def fnExactUnheldLeadsWrong : ChangeSpec := { name := "fnExactUnheldLeads", fn := fun _ => fun
  | [d1, d2] => { results := [.lit (.bool false)], args := [d1, d2] }
  | _ => none }
def FnExactUnheldLeadsWrongFalsely : Prop := fnExactUnheldLeadsRow.holds Try.pinned (OpenSpec.ofChange fnExactUnheldLeadsWrong)

/-- 'laws.FnExactWithStain': WHATEVER THE INPUT: true; the input reads as it did. -/
def fnExactWithStainSpec : ChangeSpec := { name := "fnExactWithStain", fn := fun _ => fun
  | [d1, d2, d3] => { results := [.lit (.bool true)], args := [d1, d2, d3] }
  | _ => none }
def fnExactWithStainRow : OpenClaim := { program := "ytfckgidilbjokac", sum := "1c3ed4ab0541ee86881d348be05838cf4905c88c0c4ad44b938f77c72fd21c03", func := "loop.example/g03303/laws.FnExactWithStain", spec := "fnExactWithStain", apart := false }
def FnExactWithStainSaid : Prop := fnExactWithStainRow.holds Try.pinned (OpenSpec.ofChange fnExactWithStainSpec)

/-- ITS FALSE NEIGHBOUR: 'it returns false'. Refute it at one input. -/
def fnExactWithStainWrong : ChangeSpec := { name := "fnExactWithStain", fn := fun _ => fun
  | [d1, d2, d3] => { results := [.lit (.bool false)], args := [d1, d2, d3] }
  | _ => none }
def FnExactWithStainWrongFalsely : Prop := fnExactWithStainRow.holds Try.pinned (OpenSpec.ofChange fnExactWithStainWrong)

/-- 'laws.FnExactColorStains': WHATEVER THE INPUT: true; the input reads as it did. -/
def fnExactColorStainsSpec : ChangeSpec := { name := "fnExactColorStains", fn := fun _ => fun
  | [d1, d2] => { results := [.lit (.bool true)], args := [d1, d2] }
  | _ => none }
def fnExactColorStainsRow : OpenClaim := { program := "ytfckgidilbjokac", sum := "1c3ed4ab0541ee86881d348be05838cf4905c88c0c4ad44b938f77c72fd21c03", func := "loop.example/g03303/laws.FnExactColorStains", spec := "fnExactColorStains", apart := false }
def FnExactColorStainsSaid : Prop := fnExactColorStainsRow.holds Try.pinned (OpenSpec.ofChange fnExactColorStainsSpec)

/-- ITS FALSE NEIGHBOUR: 'it returns false'. Refute it at one input. -/
def fnExactColorStainsWrong : ChangeSpec := { name := "fnExactColorStains", fn := fun _ => fun
  | [d1, d2] => { results := [.lit (.bool false)], args := [d1, d2] }
  | _ => none }
def FnExactColorStainsWrongFalsely : Prop := fnExactColorStainsRow.holds Try.pinned (OpenSpec.ofChange fnExactColorStainsWrong)

/-- 'laws.FnExactAverageOf': WHATEVER THE INPUT: true; the input reads as it did. -/
def fnExactAverageOfSpec : ChangeSpec := { name := "fnExactAverageOf", fn := fun _ => fun
  | [d] => { results := [.lit (.bool true)], args := [d] }
  | _ => none }
def fnExactAverageOfRow : OpenClaim := { program := "ytfckgidilbjokac", sum := "1c3ed4ab0541ee86881d348be05838cf4905c88c0c4ad44b938f77c72fd21c03", func := "loop.example/g03303/laws.FnExactAverageOf", spec := "fnExactAverageOf", unfollowed := true, recurses := true, apart := false }
def FnExactAverageOfSaid : Prop := fnExactAverageOfRow.holds Try.pinned (OpenSpec.ofChange fnExactAverageOfSpec)

/-- ITS FALSE NEIGHBOUR: 'it returns false'. Refute it at one input. -/
def fnExactAverageOfWrong : ChangeSpec := { name := "fnExactAverageOf", fn := fun _ => fun
  | [d] => { results := [.lit (.bool false)], args := [d] }
  | _ => none }
def FnExactAverageOfWrongFalsely : Prop := fnExactAverageOfRow.holds Try.pinned (OpenSpec.ofChange fnExactAverageOfWrong)

/-- 'laws.FnExactDepositsOk': WHATEVER THE INPUT: true; the input reads as it did. -/
def fnExactDepositsOkSpec : ChangeSpec := { name := "fnExactDepositsOk", fn := fun _ => fun
  | [d] => { results := [.lit (.bool true)], args := [d] }
  | _ => none }
def fnExactDepositsOkRow : OpenClaim := { program := "ytfckgidilbjokac", sum := "1c3ed4ab0541ee86881d348be05838cf4905c88c0c4ad44b938f77c72fd21c03", func := "loop.example/g03303/laws.FnExactDepositsOk", spec := "fnExactDepositsOk", apart := false }
def FnExactDepositsOkSaid : Prop := fnExactDepositsOkRow.holds Try.pinned (OpenSpec.ofChange fnExactDepositsOkSpec)

/-- ITS FALSE NEIGHBOUR: 'it returns false'. Refute it at one input. -/
def fnExactDepositsOkWrong : ChangeSpec := { name := "fnExactDepositsOk", fn := fun _ => fun
  | [d] => { results := [.lit (.bool false)], args := [d] }
  | _ => none }
def FnExactDepositsOkWrongFalsely : Prop := fnExactDepositsOkRow.holds Try.pinned (OpenSpec.ofChange fnExactDepositsOkWrong)

/-- 'laws.FnExactAddDeposit': WHATEVER THE INPUT: true; the input reads as it did. -/
def fnExactAddDepositSpec : ChangeSpec := { name := "fnExactAddDeposit", fn := fun _ => fun
  | [d1, d2] => { results := [.lit (.bool true)], args := [d1, d2] }
  | _ => none }
def fnExactAddDepositRow : OpenClaim := { program := "ytfckgidilbjokac", sum := "1c3ed4ab0541ee86881d348be05838cf4905c88c0c4ad44b938f77c72fd21c03", func := "loop.example/g03303/laws.FnExactAddDeposit", spec := "fnExactAddDeposit", apart := false }
def FnExactAddDepositSaid : Prop := fnExactAddDepositRow.holds Try.pinned (OpenSpec.ofChange fnExactAddDepositSpec)

/-- ITS FALSE NEIGHBOUR: 'it returns false'. Refute it at one input. -/
def fnExactAddDepositWrong : ChangeSpec := { name := "fnExactAddDeposit", fn := fun _ => fun
  | [d1, d2] => { results := [.lit (.bool false)], args := [d1, d2] }
  | _ => none }
def FnExactAddDepositWrongFalsely : Prop := fnExactAddDepositRow.holds Try.pinned (OpenSpec.ofChange fnExactAddDepositWrong)

/-- 'laws.FnExactTakeBack': WHATEVER THE INPUT: true; the input reads as it did. -/
def fnExactTakeBackSpec : ChangeSpec := { name := "fnExactTakeBack", fn := fun _ => fun
  | [d1, d2] => { results := [.lit (.bool true)], args := [d1, d2] }
  | _ => none }
def fnExactTakeBackRow : OpenClaim := { program := "ytfckgidilbjokac", sum := "1c3ed4ab0541ee86881d348be05838cf4905c88c0c4ad44b938f77c72fd21c03", func := "loop.example/g03303/laws.FnExactTakeBack", spec := "fnExactTakeBack", unfollowed := true, recurses := true, apart := false }
def FnExactTakeBackSaid : Prop := fnExactTakeBackRow.holds Try.pinned (OpenSpec.ofChange fnExactTakeBackSpec)

/-- ITS FALSE NEIGHBOUR: 'it returns false'. Refute it at one input. -/
def fnExactTakeBackWrong : ChangeSpec := { name := "fnExactTakeBack", fn := fun _ => fun
  | [d1, d2] => { results := [.lit (.bool false)], args := [d1, d2] }
  | _ => none }
def FnExactTakeBackWrongFalsely : Prop := fnExactTakeBackRow.holds Try.pinned (OpenSpec.ofChange fnExactTakeBackWrong)

/-- 'laws.FnExactBestValue': WHATEVER THE INPUT: true; the input reads as it did. -/
def fnExactBestValueSpec : ChangeSpec := { name := "fnExactBestValue", fn := fun _ => fun
  | [d1, d2, d3] => { results := [.lit (.bool true)], args := [d1, d2, d3] }
  | _ => none }
def fnExactBestValueRow : OpenClaim := { program := "ytfckgidilbjokac", sum := "1c3ed4ab0541ee86881d348be05838cf4905c88c0c4ad44b938f77c72fd21c03", func := "loop.example/g03303/laws.FnExactBestValue", spec := "fnExactBestValue", apart := false }
def FnExactBestValueSaid : Prop := fnExactBestValueRow.holds Try.pinned (OpenSpec.ofChange fnExactBestValueSpec)

/-- ITS FALSE NEIGHBOUR: 'it returns false'. Refute it at one input. -/
def fnExactBestValueWrong : ChangeSpec := { name := "fnExactBestValue", fn := fun _ => fun
  | [d1, d2, d3] => { results := [.lit (.bool false)], args := [d1, d2, d3] }
  | _ => none }
def FnExactBestValueWrongFalsely : Prop := fnExactBestValueRow.holds Try.pinned (OpenSpec.ofChange fnExactBestValueWrong)

/-- 'laws.FnExactWasteOf': WHATEVER THE INPUT: true; the input reads as it did. -/
def fnExactWasteOfSpec : ChangeSpec := { name := "fnExactWasteOf", fn := fun _ => fun
  | [d1, d2] => { results := [.lit (.bool true)], args := [d1, d2] }
  | _ => none }
def fnExactWasteOfRow : OpenClaim := { program := "ytfckgidilbjokac", sum := "1c3ed4ab0541ee86881d348be05838cf4905c88c0c4ad44b938f77c72fd21c03", func := "loop.example/g03303/laws.FnExactWasteOf", spec := "fnExactWasteOf", apart := false }
def FnExactWasteOfSaid : Prop := fnExactWasteOfRow.holds Try.pinned (OpenSpec.ofChange fnExactWasteOfSpec)

/-- ITS FALSE NEIGHBOUR: 'it returns false'. Refute it at one input. -/
def fnExactWasteOfWrong : ChangeSpec := { name := "fnExactWasteOf", fn := fun _ => fun
  | [d1, d2] => { results := [.lit (.bool false)], args := [d1, d2] }
  | _ => none }
def FnExactWasteOfWrongFalsely : Prop := fnExactWasteOfRow.holds Try.pinned (OpenSpec.ofChange fnExactWasteOfWrong)

/-- 'laws.FnExactFireOrder': WHATEVER THE INPUT: true; the input reads as it did. -/
def fnExactFireOrderSpec : ChangeSpec := { name := "fnExactFireOrder", fn := fun _ => fun
  | [d] => { results := [.lit (.bool true)], args := [d] }
  | _ => none }
def fnExactFireOrderRow : OpenClaim := { program := "ytfckgidilbjokac", sum := "1c3ed4ab0541ee86881d348be05838cf4905c88c0c4ad44b938f77c72fd21c03", func := "loop.example/g03303/laws.FnExactFireOrder", spec := "fnExactFireOrder", unfollowed := true, recurses := true, apart := false }
def FnExactFireOrderSaid : Prop := fnExactFireOrderRow.holds Try.pinned (OpenSpec.ofChange fnExactFireOrderSpec)

/-- ITS FALSE NEIGHBOUR: 'it returns false'. Refute it at one input. -/
def fnExactFireOrderWrong : ChangeSpec := { name := "fnExactFireOrder", fn := fun _ => fun
  | [d] => { results := [.lit (.bool false)], args := [d] }
  | _ => none }
def FnExactFireOrderWrongFalsely : Prop := fnExactFireOrderRow.holds Try.pinned (OpenSpec.ofChange fnExactFireOrderWrong)

/- THE SECOND FORM. 'bulk': how many values and letters a reading holds, each counted each time it is reached (what is shared counts as often as it is met; a slice's spare places count too). A statement '..UptoSaid' is the law's where the arguments, and the package variables that the reading takes, are together of bulk at most 1048576: NARROWER than '..Said'. Prove '..Said' where nothing that the law and all that it calls make is longer than what came in: it says more and counts as full. Else prove '..UptoSaid'. A law counts once. -/
mutual
def uptoBulk {H : Type} : DataW H → Nat
  | .lit (.string bytes) => bytes.length + 1
  | .lit _ => 1
  | .nil => 1
  | .ptr d => uptoBulk d + 1
  | .slice elems spare => uptoBulkAll elems + uptoBulkAll spare + 1
  | .agg parts => uptoBulkAll parts + 1
  | .iface _ d => uptoBulk d + 1
  | .map entries => uptoBulkEntries entries + 1
  | .held _ => 1
def uptoBulkAll {H : Type} : List (DataW H) → Nat
  | [] => 0
  | d :: r => uptoBulk d + uptoBulkAll r
def uptoBulkEntries {H : Type} : List (Lit × DataW H) → Nat
  | [] => 0
  | x :: r => uptoBulkEntry x + uptoBulkEntries r
def uptoBulkEntry {H : Type} : Lit × DataW H → Nat
  | (.string bytes, d) => bytes.length + uptoBulk d + 1
  | (_, d) => uptoBulk d + 1
 end
def uptoSmall : (H : Type) → List (DataW H) → Bool := fun _ ds => decide (uptoBulkAll ds ≤ 1048576)
def OpenSpec.upto (s : _root_.Go.ChangeSpec) : _root_.Go.OpenSpec := { _root_.Go.OpenSpec.ofChange s with cond := some uptoSmall }

/-- 'laws.FnExactWidestGap', WHERE WHAT IT READS IS OF BULK AT MOST 1048576: true; the input reads as it did. -/
def fnExactWidestGapUptoRow : OpenClaim := { program := "ytfckgidilbjokac", sum := "1c3ed4ab0541ee86881d348be05838cf4905c88c0c4ad44b938f77c72fd21c03", func := "loop.example/g03303/laws.FnExactWidestGap", spec := "fnExactWidestGap", apart := false, narrowed := true }
def FnExactWidestGapUptoSaid : Prop := fnExactWidestGapUptoRow.holds Try.pinned (OpenSpec.upto fnExactWidestGapSpec)

/-- 'laws.FnExactFewestBars', WHERE WHAT IT READS IS OF BULK AT MOST 1048576: true; the input reads as it did. -/
def fnExactFewestBarsUptoRow : OpenClaim := { program := "ytfckgidilbjokac", sum := "1c3ed4ab0541ee86881d348be05838cf4905c88c0c4ad44b938f77c72fd21c03", func := "loop.example/g03303/laws.FnExactFewestBars", spec := "fnExactFewestBars", unfollowed := true, recurses := true, apart := false, narrowed := true }
def FnExactFewestBarsUptoSaid : Prop := fnExactFewestBarsUptoRow.holds Try.pinned (OpenSpec.upto fnExactFewestBarsSpec)

/-- 'laws.FnExactUnheldLeads', WHERE WHAT IT READS IS OF BULK AT MOST 1048576: true; the input reads as it did. -/
def fnExactUnheldLeadsUptoRow : OpenClaim := { program := "ytfckgidilbjokac", sum := "1c3ed4ab0541ee86881d348be05838cf4905c88c0c4ad44b938f77c72fd21c03", func := "loop.example/g03303/laws.FnExactUnheldLeads", spec := "fnExactUnheldLeads", apart := false, narrowed := true }
def FnExactUnheldLeadsUptoSaid : Prop := fnExactUnheldLeadsUptoRow.holds Try.pinned (OpenSpec.upto fnExactUnheldLeadsSpec)

/-- 'laws.FnExactWithStain', WHERE WHAT IT READS IS OF BULK AT MOST 1048576: true; the input reads as it did. -/
def fnExactWithStainUptoRow : OpenClaim := { program := "ytfckgidilbjokac", sum := "1c3ed4ab0541ee86881d348be05838cf4905c88c0c4ad44b938f77c72fd21c03", func := "loop.example/g03303/laws.FnExactWithStain", spec := "fnExactWithStain", apart := false, narrowed := true }
def FnExactWithStainUptoSaid : Prop := fnExactWithStainUptoRow.holds Try.pinned (OpenSpec.upto fnExactWithStainSpec)

/-- 'laws.FnExactColorStains', WHERE WHAT IT READS IS OF BULK AT MOST 1048576: true; the input reads as it did. -/
def fnExactColorStainsUptoRow : OpenClaim := { program := "ytfckgidilbjokac", sum := "1c3ed4ab0541ee86881d348be05838cf4905c88c0c4ad44b938f77c72fd21c03", func := "loop.example/g03303/laws.FnExactColorStains", spec := "fnExactColorStains", apart := false, narrowed := true }
def FnExactColorStainsUptoSaid : Prop := fnExactColorStainsUptoRow.holds Try.pinned (OpenSpec.upto fnExactColorStainsSpec)

/-- 'laws.FnExactAverageOf', WHERE WHAT IT READS IS OF BULK AT MOST 1048576: true; the input reads as it did. -/
def fnExactAverageOfUptoRow : OpenClaim := { program := "ytfckgidilbjokac", sum := "1c3ed4ab0541ee86881d348be05838cf4905c88c0c4ad44b938f77c72fd21c03", func := "loop.example/g03303/laws.FnExactAverageOf", spec := "fnExactAverageOf", unfollowed := true, recurses := true, apart := false, narrowed := true }
def FnExactAverageOfUptoSaid : Prop := fnExactAverageOfUptoRow.holds Try.pinned (OpenSpec.upto fnExactAverageOfSpec)

/-- 'laws.FnExactDepositsOk', WHERE WHAT IT READS IS OF BULK AT MOST 1048576: true; the input reads as it did. -/
def fnExactDepositsOkUptoRow : OpenClaim := { program := "ytfckgidilbjokac", sum := "1c3ed4ab0541ee86881d348be05838cf4905c88c0c4ad44b938f77c72fd21c03", func := "loop.example/g03303/laws.FnExactDepositsOk", spec := "fnExactDepositsOk", apart := false, narrowed := true }
def FnExactDepositsOkUptoSaid : Prop := fnExactDepositsOkUptoRow.holds Try.pinned (OpenSpec.upto fnExactDepositsOkSpec)

/-- 'laws.FnExactAddDeposit', WHERE WHAT IT READS IS OF BULK AT MOST 1048576: true; the input reads as it did. -/
def fnExactAddDepositUptoRow : OpenClaim := { program := "ytfckgidilbjokac", sum := "1c3ed4ab0541ee86881d348be05838cf4905c88c0c4ad44b938f77c72fd21c03", func := "loop.example/g03303/laws.FnExactAddDeposit", spec := "fnExactAddDeposit", apart := false, narrowed := true }
def FnExactAddDepositUptoSaid : Prop := fnExactAddDepositUptoRow.holds Try.pinned (OpenSpec.upto fnExactAddDepositSpec)

/-- 'laws.FnExactTakeBack', WHERE WHAT IT READS IS OF BULK AT MOST 1048576: true; the input reads as it did. -/
def fnExactTakeBackUptoRow : OpenClaim := { program := "ytfckgidilbjokac", sum := "1c3ed4ab0541ee86881d348be05838cf4905c88c0c4ad44b938f77c72fd21c03", func := "loop.example/g03303/laws.FnExactTakeBack", spec := "fnExactTakeBack", unfollowed := true, recurses := true, apart := false, narrowed := true }
def FnExactTakeBackUptoSaid : Prop := fnExactTakeBackUptoRow.holds Try.pinned (OpenSpec.upto fnExactTakeBackSpec)

/-- 'laws.FnExactBestValue', WHERE WHAT IT READS IS OF BULK AT MOST 1048576: true; the input reads as it did. -/
def fnExactBestValueUptoRow : OpenClaim := { program := "ytfckgidilbjokac", sum := "1c3ed4ab0541ee86881d348be05838cf4905c88c0c4ad44b938f77c72fd21c03", func := "loop.example/g03303/laws.FnExactBestValue", spec := "fnExactBestValue", apart := false, narrowed := true }
def FnExactBestValueUptoSaid : Prop := fnExactBestValueUptoRow.holds Try.pinned (OpenSpec.upto fnExactBestValueSpec)

/-- 'laws.FnExactWasteOf', WHERE WHAT IT READS IS OF BULK AT MOST 1048576: true; the input reads as it did. -/
def fnExactWasteOfUptoRow : OpenClaim := { program := "ytfckgidilbjokac", sum := "1c3ed4ab0541ee86881d348be05838cf4905c88c0c4ad44b938f77c72fd21c03", func := "loop.example/g03303/laws.FnExactWasteOf", spec := "fnExactWasteOf", apart := false, narrowed := true }
def FnExactWasteOfUptoSaid : Prop := fnExactWasteOfUptoRow.holds Try.pinned (OpenSpec.upto fnExactWasteOfSpec)

/-- 'laws.FnExactFireOrder', WHERE WHAT IT READS IS OF BULK AT MOST 1048576: true; the input reads as it did. -/
def fnExactFireOrderUptoRow : OpenClaim := { program := "ytfckgidilbjokac", sum := "1c3ed4ab0541ee86881d348be05838cf4905c88c0c4ad44b938f77c72fd21c03", func := "loop.example/g03303/laws.FnExactFireOrder", spec := "fnExactFireOrder", unfollowed := true, recurses := true, apart := false, narrowed := true }
def FnExactFireOrderUptoSaid : Prop := fnExactFireOrderUptoRow.holds Try.pinned (OpenSpec.upto fnExactFireOrderSpec)

end Rows
end Go.Proofs.Ytfckgidilbjokac
