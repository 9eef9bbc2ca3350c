/-
  No cell of these rows narrows 'for every input' (looked for: loops, veiled, ifaces, maps, wideKeys, modest, calm, conditions, laid).
  DERIVED. THE GIVEN ROWS OF THIS SEAT. 12 by the template 'for every input the law returns true; each argument reads behind the call as it read before'; 0 by the template 'total and deterministic' (their statements: YtmcbbjobjogkmaaGreatTotals.lean).
  GIVEN WITH THE SEED: the statements are not yours to turn. If you find one false, say at which input.
  Laid BY PROGRAM, IN A SANDBOX (cutbox-rows.mjs): the forced cells as the released guide's own fill.sh prints them over the translation 7ddc656f45f47c0b… (all of the seat's roots in one cut). By AI agents, Wed Nov 11 2026. No macro, syntax, notation, axiom, sorry.
-/
import Derived.Test.YtmcbbjobjogkmaaGreatChecked
import GoSem.Claim
import GoSem.ClaimJoined
import GoSem.ClaimMapViews
import Derived.JoinedTies
import Derived.KernelRfl
namespace Go.Proofs.YtmcbbjobjogkmaaGreat
/- THE CELL 'sum', in the pinned program and in every row, IS THE sha256 OF THE DUMP (.gsa) THAT YtmcbbjobjogkmaaGreatProg.lean LOADS. Nothing in Lean hashes anything: it is a label: what it is worth is what the hold of that sum in a sandbox is worth. -/
noncomputable def Tryz.pinned : Pinned := { name := "ytmcbbjobjogkmaagreat", sum := "7ddc656f45f47c0be3e77c69cb6fba718976fb97790dac6cf965fdcb6a4f9eb6", checked := Tryz.checked }
namespace Rows
def none {H : Type} : Left H := { results := [], args := [] }

/-- 'laws.FnExactIsSpanning': WHATEVER THE INPUT: true; the input reads as it did. -/
def fnExactIsSpanningSpec : ChangeSpec := { name := "fnExactIsSpanning", fn := fun _ => fun
  | [d1, d2] => { results := [.lit (.bool true)], args := [d1, d2] }
  | _ => none }
def fnExactIsSpanningRow : OpenClaim := { program := "ytmcbbjobjogkmaagreat", sum := "7ddc656f45f47c0be3e77c69cb6fba718976fb97790dac6cf965fdcb6a4f9eb6", func := "loop.example/g03303/laws.FnExactIsSpanning", spec := "fnExactIsSpanning", unfollowed := true, recurses := true, plainKeys := false, apart := false }
def FnExactIsSpanningSaid : Prop := fnExactIsSpanningRow.holds Tryz.pinned (OpenSpec.ofChange fnExactIsSpanningSpec)

/-- ITS FALSE NEIGHBOUR: 'it returns false'. Refute it at one input. -/
def fnExactIsSpanningWrong : ChangeSpec := { name := "fnExactIsSpanning", fn := fun _ => fun
  | [d1, d2] => { results := [.lit (.bool false)], args := [d1, d2] }
  | _ => none }
def FnExactIsSpanningWrongFalsely : Prop := fnExactIsSpanningRow.holds Tryz.pinned (OpenSpec.ofChange fnExactIsSpanningWrong)

/-- 'laws.FnExactFirstSpanning': WHATEVER THE INPUT: true; the input reads as it did. -/
def fnExactFirstSpanningSpec : ChangeSpec := { name := "fnExactFirstSpanning", fn := fun _ => fun
  | [d] => { results := [.lit (.bool true)], args := [d] }
  | _ => none }
def fnExactFirstSpanningRow : OpenClaim := { program := "ytmcbbjobjogkmaagreat", sum := "7ddc656f45f47c0be3e77c69cb6fba718976fb97790dac6cf965fdcb6a4f9eb6", func := "loop.example/g03303/laws.FnExactFirstSpanning", spec := "fnExactFirstSpanning", unfollowed := true, recurses := true, plainKeys := false, apart := false }
def FnExactFirstSpanningSaid : Prop := fnExactFirstSpanningRow.holds Tryz.pinned (OpenSpec.ofChange fnExactFirstSpanningSpec)

/-- ITS FALSE NEIGHBOUR: 'it returns false'. Refute it at one input. -/
def fnExactFirstSpanningWrong : ChangeSpec := { name := "fnExactFirstSpanning", fn := fun _ => fun
  | [d] => { results := [.lit (.bool false)], args := [d] }
  | _ => none }
def FnExactFirstSpanningWrongFalsely : Prop := fnExactFirstSpanningRow.holds Tryz.pinned (OpenSpec.ofChange fnExactFirstSpanningWrong)

/-- 'laws.FnExactDualSpanning': WHATEVER THE INPUT: true; the input reads as it did. -/
def fnExactDualSpanningSpec : ChangeSpec := { name := "fnExactDualSpanning", fn := fun _ => fun
  | [d1, d2] => { results := [.lit (.bool true)], args := [d1, d2] }
  | _ => none }
def fnExactDualSpanningRow : OpenClaim := { program := "ytmcbbjobjogkmaagreat", sum := "7ddc656f45f47c0be3e77c69cb6fba718976fb97790dac6cf965fdcb6a4f9eb6", func := "loop.example/g03303/laws.FnExactDualSpanning", spec := "fnExactDualSpanning", unfollowed := true, recurses := true, plainKeys := false, apart := false }
def FnExactDualSpanningSaid : Prop := fnExactDualSpanningRow.holds Tryz.pinned (OpenSpec.ofChange fnExactDualSpanningSpec)

/-- ITS FALSE NEIGHBOUR: 'it returns false'. Refute it at one input. -/
def fnExactDualSpanningWrong : ChangeSpec := { name := "fnExactDualSpanning", fn := fun _ => fun
  | [d1, d2] => { results := [.lit (.bool false)], args := [d1, d2] }
  | _ => none }
def FnExactDualSpanningWrongFalsely : Prop := fnExactDualSpanningRow.holds Tryz.pinned (OpenSpec.ofChange fnExactDualSpanningWrong)

/-- 'laws.FnExactIsDualTree': WHATEVER THE INPUT: true; the input reads as it did. -/
def fnExactIsDualTreeSpec : ChangeSpec := { name := "fnExactIsDualTree", fn := fun _ => fun
  | [d1, d2] => { results := [.lit (.bool true)], args := [d1, d2] }
  | _ => none }
def fnExactIsDualTreeRow : OpenClaim := { program := "ytmcbbjobjogkmaagreat", sum := "7ddc656f45f47c0be3e77c69cb6fba718976fb97790dac6cf965fdcb6a4f9eb6", func := "loop.example/g03303/laws.FnExactIsDualTree", spec := "fnExactIsDualTree", unfollowed := true, recurses := true, plainKeys := false, apart := false }
def FnExactIsDualTreeSaid : Prop := fnExactIsDualTreeRow.holds Tryz.pinned (OpenSpec.ofChange fnExactIsDualTreeSpec)

/-- ITS FALSE NEIGHBOUR: 'it returns false'. Refute it at one input. -/
def fnExactIsDualTreeWrong : ChangeSpec := { name := "fnExactIsDualTree", fn := fun _ => fun
  | [d1, d2] => { results := [.lit (.bool false)], args := [d1, d2] }
  | _ => none }
def FnExactIsDualTreeWrongFalsely : Prop := fnExactIsDualTreeRow.holds Tryz.pinned (OpenSpec.ofChange fnExactIsDualTreeWrong)

/-- 'laws.FnExactAreJoined': WHATEVER THE INPUT: true; the input reads as it did. -/
def fnExactAreJoinedSpec : ChangeSpec := { name := "fnExactAreJoined", fn := fun _ => fun
  | [d1, d2] => { results := [.lit (.bool true)], args := [d1, d2] }
  | _ => none }
def fnExactAreJoinedRow : OpenClaim := { program := "ytmcbbjobjogkmaagreat", sum := "7ddc656f45f47c0be3e77c69cb6fba718976fb97790dac6cf965fdcb6a4f9eb6", func := "loop.example/g03303/laws.FnExactAreJoined", spec := "fnExactAreJoined", unfollowed := true, recurses := true, plainKeys := false, apart := false }
def FnExactAreJoinedSaid : Prop := fnExactAreJoinedRow.holds Tryz.pinned (OpenSpec.ofChange fnExactAreJoinedSpec)

/-- ITS FALSE NEIGHBOUR: 'it returns false'. Refute it at one input. -/
def fnExactAreJoinedWrong : ChangeSpec := { name := "fnExactAreJoined", fn := fun _ => fun
  | [d1, d2] => { results := [.lit (.bool false)], args := [d1, d2] }
  | _ => none }
def FnExactAreJoinedWrongFalsely : Prop := fnExactAreJoinedRow.holds Tryz.pinned (OpenSpec.ofChange fnExactAreJoinedWrong)

/-- 'laws.FnExactLooseAfter': WHATEVER THE INPUT: true; the input reads as it did. -/
def fnExactLooseAfterSpec : ChangeSpec := { name := "fnExactLooseAfter", fn := fun _ => fun
  | [d1, d2] => { results := [.lit (.bool true)], args := [d1, d2] }
  | _ => none }
def fnExactLooseAfterRow : OpenClaim := { program := "ytmcbbjobjogkmaagreat", sum := "7ddc656f45f47c0be3e77c69cb6fba718976fb97790dac6cf965fdcb6a4f9eb6", func := "loop.example/g03303/laws.FnExactLooseAfter", spec := "fnExactLooseAfter", unfollowed := true, recurses := true, plainKeys := false, apart := false }
def FnExactLooseAfterSaid : Prop := fnExactLooseAfterRow.holds Tryz.pinned (OpenSpec.ofChange fnExactLooseAfterSpec)

/-- ITS FALSE NEIGHBOUR: 'it returns false'. Refute it at one input. -/
def fnExactLooseAfterWrong : ChangeSpec := { name := "fnExactLooseAfter", fn := fun _ => fun
  | [d1, d2] => { results := [.lit (.bool false)], args := [d1, d2] }
  | _ => none }
def FnExactLooseAfterWrongFalsely : Prop := fnExactLooseAfterRow.holds Tryz.pinned (OpenSpec.ofChange fnExactLooseAfterWrong)

/-- 'laws.FnExactIsAssembly': WHATEVER THE INPUT: true; the input reads as it did. -/
def fnExactIsAssemblySpec : ChangeSpec := { name := "fnExactIsAssembly", fn := fun _ => fun
  | [d1, d2] => { results := [.lit (.bool true)], args := [d1, d2] }
  | _ => none }
def fnExactIsAssemblyRow : OpenClaim := { program := "ytmcbbjobjogkmaagreat", sum := "7ddc656f45f47c0be3e77c69cb6fba718976fb97790dac6cf965fdcb6a4f9eb6", func := "loop.example/g03303/laws.FnExactIsAssembly", spec := "fnExactIsAssembly", unfollowed := true, recurses := true, plainKeys := false, apart := false }
def FnExactIsAssemblySaid : Prop := fnExactIsAssemblyRow.holds Tryz.pinned (OpenSpec.ofChange fnExactIsAssemblySpec)

/-- ITS FALSE NEIGHBOUR: 'it returns false'. Refute it at one input. -/
def fnExactIsAssemblyWrong : ChangeSpec := { name := "fnExactIsAssembly", fn := fun _ => fun
  | [d1, d2] => { results := [.lit (.bool false)], args := [d1, d2] }
  | _ => none }
def FnExactIsAssemblyWrongFalsely : Prop := fnExactIsAssemblyRow.holds Tryz.pinned (OpenSpec.ofChange fnExactIsAssemblyWrong)

/-- 'laws.FnExactFirstAssembly': WHATEVER THE INPUT: true; the input reads as it did. -/
def fnExactFirstAssemblySpec : ChangeSpec := { name := "fnExactFirstAssembly", fn := fun _ => fun
  | [d1, d2] => { results := [.lit (.bool true)], args := [d1, d2] }
  | _ => none }
def fnExactFirstAssemblyRow : OpenClaim := { program := "ytmcbbjobjogkmaagreat", sum := "7ddc656f45f47c0be3e77c69cb6fba718976fb97790dac6cf965fdcb6a4f9eb6", func := "loop.example/g03303/laws.FnExactFirstAssembly", spec := "fnExactFirstAssembly", unfollowed := true, recurses := true, plainKeys := false, apart := false }
def FnExactFirstAssemblySaid : Prop := fnExactFirstAssemblyRow.holds Tryz.pinned (OpenSpec.ofChange fnExactFirstAssemblySpec)

/-- ITS FALSE NEIGHBOUR: 'it returns false'. Refute it at one input. -/
def fnExactFirstAssemblyWrong : ChangeSpec := { name := "fnExactFirstAssembly", fn := fun _ => fun
  | [d1, d2] => { results := [.lit (.bool false)], args := [d1, d2] }
  | _ => none }
def FnExactFirstAssemblyWrongFalsely : Prop := fnExactFirstAssemblyRow.holds Tryz.pinned (OpenSpec.ofChange fnExactFirstAssemblyWrong)

/-- 'laws.FnExactChainOf': WHATEVER THE INPUT: true; the input reads as it did. -/
def fnExactChainOfSpec : ChangeSpec := { name := "fnExactChainOf", fn := fun _ => fun
  | [d1, d2, d3, d4] => { results := [.lit (.bool true)], args := [d1, d2, d3, d4] }
  | _ => none }
def fnExactChainOfRow : OpenClaim := { program := "ytmcbbjobjogkmaagreat", sum := "7ddc656f45f47c0be3e77c69cb6fba718976fb97790dac6cf965fdcb6a4f9eb6", func := "loop.example/g03303/laws.FnExactChainOf", spec := "fnExactChainOf", unfollowed := true, recurses := true, plainKeys := false, apart := false }
def FnExactChainOfSaid : Prop := fnExactChainOfRow.holds Tryz.pinned (OpenSpec.ofChange fnExactChainOfSpec)

/-- ITS FALSE NEIGHBOUR: 'it returns false'. Refute it at one input. -/
def fnExactChainOfWrong : ChangeSpec := { name := "fnExactChainOf", fn := fun _ => fun
  | [d1, d2, d3, d4] => { results := [.lit (.bool false)], args := [d1, d2, d3, d4] }
  | _ => none }
def FnExactChainOfWrongFalsely : Prop := fnExactChainOfRow.holds Tryz.pinned (OpenSpec.ofChange fnExactChainOfWrong)

/-- 'laws.FnExactSwapChain': WHATEVER THE INPUT: true; the input reads as it did. -/
def fnExactSwapChainSpec : ChangeSpec := { name := "fnExactSwapChain", fn := fun _ => fun
  | [d1, d2, d3, d4] => { results := [.lit (.bool true)], args := [d1, d2, d3, d4] }
  | _ => none }
def fnExactSwapChainRow : OpenClaim := { program := "ytmcbbjobjogkmaagreat", sum := "7ddc656f45f47c0be3e77c69cb6fba718976fb97790dac6cf965fdcb6a4f9eb6", func := "loop.example/g03303/laws.FnExactSwapChain", spec := "fnExactSwapChain", unfollowed := true, recurses := true, plainKeys := false, apart := false }
def FnExactSwapChainSaid : Prop := fnExactSwapChainRow.holds Tryz.pinned (OpenSpec.ofChange fnExactSwapChainSpec)

/-- ITS FALSE NEIGHBOUR: 'it returns false'. Refute it at one input. -/
def fnExactSwapChainWrong : ChangeSpec := { name := "fnExactSwapChain", fn := fun _ => fun
  | [d1, d2, d3, d4] => { results := [.lit (.bool false)], args := [d1, d2, d3, d4] }
  | _ => none }
def FnExactSwapChainWrongFalsely : Prop := fnExactSwapChainRow.holds Tryz.pinned (OpenSpec.ofChange fnExactSwapChainWrong)

/-- 'laws.FnExactCountChains': WHATEVER THE INPUT: true; the input reads as it did. -/
def fnExactCountChainsSpec : ChangeSpec := { name := "fnExactCountChains", fn := fun _ => fun
  | [d1, d2, d3, d4] => { results := [.lit (.bool true)], args := [d1, d2, d3, d4] }
  | _ => none }
def fnExactCountChainsRow : OpenClaim := { program := "ytmcbbjobjogkmaagreat", sum := "7ddc656f45f47c0be3e77c69cb6fba718976fb97790dac6cf965fdcb6a4f9eb6", func := "loop.example/g03303/laws.FnExactCountChains", spec := "fnExactCountChains", unfollowed := true, recurses := true, plainKeys := false, apart := false }
def FnExactCountChainsSaid : Prop := fnExactCountChainsRow.holds Tryz.pinned (OpenSpec.ofChange fnExactCountChainsSpec)

/-- ITS FALSE NEIGHBOUR: 'it returns false'. Refute it at one input. -/
def fnExactCountChainsWrong : ChangeSpec := { name := "fnExactCountChains", fn := fun _ => fun
  | [d1, d2, d3, d4] => { results := [.lit (.bool false)], args := [d1, d2, d3, d4] }
  | _ => none }
def FnExactCountChainsWrongFalsely : Prop := fnExactCountChainsRow.holds Tryz.pinned (OpenSpec.ofChange fnExactCountChainsWrong)

/-- 'laws.FnExactFreeFace': WHATEVER THE INPUT: true; the input reads as it did. -/
def fnExactFreeFaceSpec : ChangeSpec := { name := "fnExactFreeFace", fn := fun _ => fun
  | [d1, d2, d3, d4] => { results := [.lit (.bool true)], args := [d1, d2, d3, d4] }
  | _ => none }
def fnExactFreeFaceRow : OpenClaim := { program := "ytmcbbjobjogkmaagreat", sum := "7ddc656f45f47c0be3e77c69cb6fba718976fb97790dac6cf965fdcb6a4f9eb6", func := "loop.example/g03303/laws.FnExactFreeFace", spec := "fnExactFreeFace", unfollowed := true, recurses := true, plainKeys := false, apart := false }
def FnExactFreeFaceSaid : Prop := fnExactFreeFaceRow.holds Tryz.pinned (OpenSpec.ofChange fnExactFreeFaceSpec)

/-- ITS FALSE NEIGHBOUR: 'it returns false'. Refute it at one input. -/
def fnExactFreeFaceWrong : ChangeSpec := { name := "fnExactFreeFace", fn := fun _ => fun
  | [d1, d2, d3, d4] => { results := [.lit (.bool false)], args := [d1, d2, d3, d4] }
  | _ => none }
def FnExactFreeFaceWrongFalsely : Prop := fnExactFreeFaceRow.holds Tryz.pinned (OpenSpec.ofChange fnExactFreeFaceWrong)

/- THE SECOND FORM. 'bulk': how many values and letters a reading holds, each counted each time it is reached (what is shared counts as often as it is met; a slice's spare places count too). A statement '..UptoSaid' is the law's where the arguments, and the package variables that the reading takes, are together of bulk at most 1048576: NARROWER than '..Said'. Prove '..Said' where nothing that the law and all that it calls make is longer than what came in: it says more and counts as full. Else prove '..UptoSaid'. A law counts once. -/
mutual
def uptoBulk {H : Type} : DataW H → Nat
  | .lit (.string bytes) => bytes.length + 1
  | .lit _ => 1
  | .nil => 1
  | .ptr d => uptoBulk d + 1
  | .slice elems spare => uptoBulkAll elems + uptoBulkAll spare + 1
  | .agg parts => uptoBulkAll parts + 1
  | .iface _ d => uptoBulk d + 1
  | .map entries => uptoBulkEntries entries + 1
  | .held _ => 1
def uptoBulkAll {H : Type} : List (DataW H) → Nat
  | [] => 0
  | d :: r => uptoBulk d + uptoBulkAll r
def uptoBulkEntries {H : Type} : List (Lit × DataW H) → Nat
  | [] => 0
  | x :: r => uptoBulkEntry x + uptoBulkEntries r
def uptoBulkEntry {H : Type} : Lit × DataW H → Nat
  | (.string bytes, d) => bytes.length + uptoBulk d + 1
  | (_, d) => uptoBulk d + 1
 end
def uptoSmall : (H : Type) → List (DataW H) → Bool := fun _ ds => decide (uptoBulkAll ds ≤ 1048576)
def OpenSpec.upto (s : _root_.Go.ChangeSpec) : _root_.Go.OpenSpec := { _root_.Go.OpenSpec.ofChange s with cond := some uptoSmall }

/-- 'laws.FnExactIsSpanning', WHERE WHAT IT READS IS OF BULK AT MOST 1048576: true; the input reads as it did. -/
def fnExactIsSpanningUptoRow : OpenClaim := { program := "ytmcbbjobjogkmaagreat", sum := "7ddc656f45f47c0be3e77c69cb6fba718976fb97790dac6cf965fdcb6a4f9eb6", func := "loop.example/g03303/laws.FnExactIsSpanning", spec := "fnExactIsSpanning", unfollowed := true, recurses := true, plainKeys := false, apart := false, narrowed := true }
def FnExactIsSpanningUptoSaid : Prop := fnExactIsSpanningUptoRow.holds Tryz.pinned (OpenSpec.upto fnExactIsSpanningSpec)

/-- 'laws.FnExactFirstSpanning', WHERE WHAT IT READS IS OF BULK AT MOST 1048576: true; the input reads as it did. -/
def fnExactFirstSpanningUptoRow : OpenClaim := { program := "ytmcbbjobjogkmaagreat", sum := "7ddc656f45f47c0be3e77c69cb6fba718976fb97790dac6cf965fdcb6a4f9eb6", func := "loop.example/g03303/laws.FnExactFirstSpanning", spec := "fnExactFirstSpanning", unfollowed := true, recurses := true, plainKeys := false, apart := false, narrowed := true }
def FnExactFirstSpanningUptoSaid : Prop := fnExactFirstSpanningUptoRow.holds Tryz.pinned (OpenSpec.upto fnExactFirstSpanningSpec)

/-- 'laws.FnExactDualSpanning', WHERE WHAT IT READS IS OF BULK AT MOST 1048576: true; the input reads as it did. -/
def fnExactDualSpanningUptoRow : OpenClaim := { program := "ytmcbbjobjogkmaagreat", sum := "7ddc656f45f47c0be3e77c69cb6fba718976fb97790dac6cf965fdcb6a4f9eb6", func := "loop.example/g03303/laws.FnExactDualSpanning", spec := "fnExactDualSpanning", unfollowed := true, recurses := true, plainKeys := false, apart := false, narrowed := true }
def FnExactDualSpanningUptoSaid : Prop := fnExactDualSpanningUptoRow.holds Tryz.pinned (OpenSpec.upto fnExactDualSpanningSpec)

/-- 'laws.FnExactIsDualTree', WHERE WHAT IT READS IS OF BULK AT MOST 1048576: true; the input reads as it did. -/
def fnExactIsDualTreeUptoRow : OpenClaim := { program := "ytmcbbjobjogkmaagreat", sum := "7ddc656f45f47c0be3e77c69cb6fba718976fb97790dac6cf965fdcb6a4f9eb6", func := "loop.example/g03303/laws.FnExactIsDualTree", spec := "fnExactIsDualTree", unfollowed := true, recurses := true, plainKeys := false, apart := false, narrowed := true }
def FnExactIsDualTreeUptoSaid : Prop := fnExactIsDualTreeUptoRow.holds Tryz.pinned (OpenSpec.upto fnExactIsDualTreeSpec)

/-- 'laws.FnExactAreJoined', WHERE WHAT IT READS IS OF BULK AT MOST 1048576: true; the input reads as it did. -/
def fnExactAreJoinedUptoRow : OpenClaim := { program := "ytmcbbjobjogkmaagreat", sum := "7ddc656f45f47c0be3e77c69cb6fba718976fb97790dac6cf965fdcb6a4f9eb6", func := "loop.example/g03303/laws.FnExactAreJoined", spec := "fnExactAreJoined", unfollowed := true, recurses := true, plainKeys := false, apart := false, narrowed := true }
def FnExactAreJoinedUptoSaid : Prop := fnExactAreJoinedUptoRow.holds Tryz.pinned (OpenSpec.upto fnExactAreJoinedSpec)

/-- 'laws.FnExactLooseAfter', WHERE WHAT IT READS IS OF BULK AT MOST 1048576: true; the input reads as it did. -/
def fnExactLooseAfterUptoRow : OpenClaim := { program := "ytmcbbjobjogkmaagreat", sum := "7ddc656f45f47c0be3e77c69cb6fba718976fb97790dac6cf965fdcb6a4f9eb6", func := "loop.example/g03303/laws.FnExactLooseAfter", spec := "fnExactLooseAfter", unfollowed := true, recurses := true, plainKeys := false, apart := false, narrowed := true }
def FnExactLooseAfterUptoSaid : Prop := fnExactLooseAfterUptoRow.holds Tryz.pinned (OpenSpec.upto fnExactLooseAfterSpec)

/-- 'laws.FnExactIsAssembly', WHERE WHAT IT READS IS OF BULK AT MOST 1048576: true; the input reads as it did. -/
def fnExactIsAssemblyUptoRow : OpenClaim := { program := "ytmcbbjobjogkmaagreat", sum := "7ddc656f45f47c0be3e77c69cb6fba718976fb97790dac6cf965fdcb6a4f9eb6", func := "loop.example/g03303/laws.FnExactIsAssembly", spec := "fnExactIsAssembly", unfollowed := true, recurses := true, plainKeys := false, apart := false, narrowed := true }
def FnExactIsAssemblyUptoSaid : Prop := fnExactIsAssemblyUptoRow.holds Tryz.pinned (OpenSpec.upto fnExactIsAssemblySpec)

/-- 'laws.FnExactFirstAssembly', WHERE WHAT IT READS IS OF BULK AT MOST 1048576: true; the input reads as it did. -/
def fnExactFirstAssemblyUptoRow : OpenClaim := { program := "ytmcbbjobjogkmaagreat", sum := "7ddc656f45f47c0be3e77c69cb6fba718976fb97790dac6cf965fdcb6a4f9eb6", func := "loop.example/g03303/laws.FnExactFirstAssembly", spec := "fnExactFirstAssembly", unfollowed := true, recurses := true, plainKeys := false, apart := false, narrowed := true }
def FnExactFirstAssemblyUptoSaid : Prop := fnExactFirstAssemblyUptoRow.holds Tryz.pinned (OpenSpec.upto fnExactFirstAssemblySpec)

/-- 'laws.FnExactChainOf', WHERE WHAT IT READS IS OF BULK AT MOST 1048576: true; the input reads as it did. -/
def fnExactChainOfUptoRow : OpenClaim := { program := "ytmcbbjobjogkmaagreat", sum := "7ddc656f45f47c0be3e77c69cb6fba718976fb97790dac6cf965fdcb6a4f9eb6", func := "loop.example/g03303/laws.FnExactChainOf", spec := "fnExactChainOf", unfollowed := true, recurses := true, plainKeys := false, apart := false, narrowed := true }
def FnExactChainOfUptoSaid : Prop := fnExactChainOfUptoRow.holds Tryz.pinned (OpenSpec.upto fnExactChainOfSpec)

/-- 'laws.FnExactSwapChain', WHERE WHAT IT READS IS OF BULK AT MOST 1048576: true; the input reads as it did. -/
def fnExactSwapChainUptoRow : OpenClaim := { program := "ytmcbbjobjogkmaagreat", sum := "7ddc656f45f47c0be3e77c69cb6fba718976fb97790dac6cf965fdcb6a4f9eb6", func := "loop.example/g03303/laws.FnExactSwapChain", spec := "fnExactSwapChain", unfollowed := true, recurses := true, plainKeys := false, apart := false, narrowed := true }
def FnExactSwapChainUptoSaid : Prop := fnExactSwapChainUptoRow.holds Tryz.pinned (OpenSpec.upto fnExactSwapChainSpec)

/-- 'laws.FnExactCountChains', WHERE WHAT IT READS IS OF BULK AT MOST 1048576: true; the input reads as it did. -/
def fnExactCountChainsUptoRow : OpenClaim := { program := "ytmcbbjobjogkmaagreat", sum := "7ddc656f45f47c0be3e77c69cb6fba718976fb97790dac6cf965fdcb6a4f9eb6", func := "loop.example/g03303/laws.FnExactCountChains", spec := "fnExactCountChains", unfollowed := true, recurses := true, plainKeys := false, apart := false, narrowed := true }
def FnExactCountChainsUptoSaid : Prop := fnExactCountChainsUptoRow.holds Tryz.pinned (OpenSpec.upto fnExactCountChainsSpec)

/-- 'laws.FnExactFreeFace', WHERE WHAT IT READS IS OF BULK AT MOST 1048576: true; the input reads as it did. -/
def fnExactFreeFaceUptoRow : OpenClaim := { program := "ytmcbbjobjogkmaagreat", sum := "7ddc656f45f47c0be3e77c69cb6fba718976fb97790dac6cf965fdcb6a4f9eb6", func := "loop.example/g03303/laws.FnExactFreeFace", spec := "fnExactFreeFace", unfollowed := true, recurses := true, plainKeys := false, apart := false, narrowed := true }
def FnExactFreeFaceUptoSaid : Prop := fnExactFreeFaceUptoRow.holds Tryz.pinned (OpenSpec.upto fnExactFreeFaceSpec)

end Rows
end Go.Proofs.YtmcbbjobjogkmaaGreat
