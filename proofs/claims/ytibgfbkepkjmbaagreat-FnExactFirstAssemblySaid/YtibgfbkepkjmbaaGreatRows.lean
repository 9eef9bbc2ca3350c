/-
  No cell of these rows narrows 'for every input' (looked for: loops, veiled, ifaces, maps, wideKeys, modest, calm, conditions, laid).
  DERIVED. THE GIVEN ROWS OF THIS SEAT. 8 by the template 'for every input the law returns true; each argument reads behind the call as it read before'; 0 by the template 'total and deterministic' (their statements: YtibgfbkepkjmbaaGreatTotals.lean).
  GIVEN WITH THE SEED: the statements are not yours to turn. If you find one false, say at which input.
  Laid BY PROGRAM, IN A SANDBOX (cutbox-rows.mjs): the forced cells as the released guide's own fill.sh prints them over the translation b703b00590811273… (all of the seat's roots in one cut). By AI agents, Wed Nov 11 2026. No macro, syntax, notation, axiom, sorry.
-/
import Derived.Test.YtibgfbkepkjmbaaGreatChecked
import GoSem.Claim
import GoSem.ClaimJoined
import GoSem.ClaimMapViews
import Derived.JoinedTies
import Derived.KernelRfl
namespace Go.Proofs.YtibgfbkepkjmbaaGreat
/- THE CELL 'sum', in the pinned program and in every row, IS THE sha256 OF THE DUMP (.gsa) THAT YtibgfbkepkjmbaaGreatProg.lean LOADS. Nothing in Lean hashes anything: it is a label: what it is worth is what the hold of that sum in a sandbox is worth. -/
noncomputable def Tryz.pinned : Pinned := { name := "ytibgfbkepkjmbaagreat", sum := "b703b00590811273a30d4b4b6809cb52b7373d19fc637409c3131a525b6602af", checked := Tryz.checked }
namespace Rows
def none {H : Type} : Left H := { results := [], args := [] }

/-- 'laws.FnExactPruneEnds': WHATEVER THE INPUT: true; the input reads as it did. -/
def fnExactPruneEndsSpec : ChangeSpec := { name := "fnExactPruneEnds", fn := fun _ => fun
  | [d] => { results := [.lit (.bool true)], args := [d] }
  | _ => none }
def fnExactPruneEndsRow : OpenClaim := { program := "ytibgfbkepkjmbaagreat", sum := "b703b00590811273a30d4b4b6809cb52b7373d19fc637409c3131a525b6602af", func := "loop.example/g03303/laws.FnExactPruneEnds", spec := "fnExactPruneEnds", unfollowed := true, recurses := true, apart := false }
def FnExactPruneEndsSaid : Prop := fnExactPruneEndsRow.holds Tryz.pinned (OpenSpec.ofChange fnExactPruneEndsSpec)

/-- ITS FALSE NEIGHBOUR: 'it returns false'. Refute it at one input. -/
def fnExactPruneEndsWrong : ChangeSpec := { name := "fnExactPruneEnds", fn := fun _ => fun
  | [d] => { results := [.lit (.bool false)], args := [d] }
  | _ => none }
def FnExactPruneEndsWrongFalsely : Prop := fnExactPruneEndsRow.holds Tryz.pinned (OpenSpec.ofChange fnExactPruneEndsWrong)

/-- 'laws.FnExactSwapChain': WHATEVER THE INPUT: true; the input reads as it did. -/
def fnExactSwapChainSpec : ChangeSpec := { name := "fnExactSwapChain", fn := fun _ => fun
  | [d1, d2, d3, d4] => { results := [.lit (.bool true)], args := [d1, d2, d3, d4] }
  | _ => none }
def fnExactSwapChainRow : OpenClaim := { program := "ytibgfbkepkjmbaagreat", sum := "b703b00590811273a30d4b4b6809cb52b7373d19fc637409c3131a525b6602af", func := "loop.example/g03303/laws.FnExactSwapChain", spec := "fnExactSwapChain", unfollowed := true, recurses := true, apart := false }
def FnExactSwapChainSaid : Prop := fnExactSwapChainRow.holds Tryz.pinned (OpenSpec.ofChange fnExactSwapChainSpec)

/-- ITS FALSE NEIGHBOUR: 'it returns false'. Refute it at one input. -/
def fnExactSwapChainWrong : ChangeSpec := { name := "fnExactSwapChain", fn := fun _ => fun
  | [d1, d2, d3, d4] => { results := [.lit (.bool false)], args := [d1, d2, d3, d4] }
  | _ => none }
def FnExactSwapChainWrongFalsely : Prop := fnExactSwapChainRow.holds Tryz.pinned (OpenSpec.ofChange fnExactSwapChainWrong)

/-- 'laws.FnExactCountChains': WHATEVER THE INPUT: true; the input reads as it did. -/
def fnExactCountChainsSpec : ChangeSpec := { name := "fnExactCountChains", fn := fun _ => fun
  | [d1, d2, d3, d4] => { results := [.lit (.bool true)], args := [d1, d2, d3, d4] }
  | _ => none }
def fnExactCountChainsRow : OpenClaim := { program := "ytibgfbkepkjmbaagreat", sum := "b703b00590811273a30d4b4b6809cb52b7373d19fc637409c3131a525b6602af", func := "loop.example/g03303/laws.FnExactCountChains", spec := "fnExactCountChains", unfollowed := true, recurses := true, apart := false }
def FnExactCountChainsSaid : Prop := fnExactCountChainsRow.holds Tryz.pinned (OpenSpec.ofChange fnExactCountChainsSpec)

/-- ITS FALSE NEIGHBOUR: 'it returns false'. Refute it at one input. -/
def fnExactCountChainsWrong : ChangeSpec := { name := "fnExactCountChains", fn := fun _ => fun
  | [d1, d2, d3, d4] => { results := [.lit (.bool false)], args := [d1, d2, d3, d4] }
  | _ => none }
def FnExactCountChainsWrongFalsely : Prop := fnExactCountChainsRow.holds Tryz.pinned (OpenSpec.ofChange fnExactCountChainsWrong)

/-- 'laws.FnExactFreeFace': WHATEVER THE INPUT: true; the input reads as it did. -/
def fnExactFreeFaceSpec : ChangeSpec := { name := "fnExactFreeFace", fn := fun _ => fun
  | [d1, d2, d3, d4] => { results := [.lit (.bool true)], args := [d1, d2, d3, d4] }
  | _ => none }
def fnExactFreeFaceRow : OpenClaim := { program := "ytibgfbkepkjmbaagreat", sum := "b703b00590811273a30d4b4b6809cb52b7373d19fc637409c3131a525b6602af", func := "loop.example/g03303/laws.FnExactFreeFace", spec := "fnExactFreeFace", unfollowed := true, recurses := true, apart := false }
def FnExactFreeFaceSaid : Prop := fnExactFreeFaceRow.holds Tryz.pinned (OpenSpec.ofChange fnExactFreeFaceSpec)

/-- ITS FALSE NEIGHBOUR: 'it returns false'. Refute it at one input. -/
def fnExactFreeFaceWrong : ChangeSpec := { name := "fnExactFreeFace", fn := fun _ => fun
  | [d1, d2, d3, d4] => { results := [.lit (.bool false)], args := [d1, d2, d3, d4] }
  | _ => none }
def FnExactFreeFaceWrongFalsely : Prop := fnExactFreeFaceRow.holds Tryz.pinned (OpenSpec.ofChange fnExactFreeFaceWrong)

/-- 'laws.FnExactIsAssembly': WHATEVER THE INPUT: true; the input reads as it did. -/
def fnExactIsAssemblySpec : ChangeSpec := { name := "fnExactIsAssembly", fn := fun _ => fun
  | [d1, d2] => { results := [.lit (.bool true)], args := [d1, d2] }
  | _ => none }
def fnExactIsAssemblyRow : OpenClaim := { program := "ytibgfbkepkjmbaagreat", sum := "b703b00590811273a30d4b4b6809cb52b7373d19fc637409c3131a525b6602af", func := "loop.example/g03303/laws.FnExactIsAssembly", spec := "fnExactIsAssembly", unfollowed := true, recurses := true, apart := false }
def FnExactIsAssemblySaid : Prop := fnExactIsAssemblyRow.holds Tryz.pinned (OpenSpec.ofChange fnExactIsAssemblySpec)

/-- ITS FALSE NEIGHBOUR: 'it returns false'. Refute it at one input. -/
def fnExactIsAssemblyWrong : ChangeSpec := { name := "fnExactIsAssembly", fn := fun _ => fun
  | [d1, d2] => { results := [.lit (.bool false)], args := [d1, d2] }
  | _ => none }
def FnExactIsAssemblyWrongFalsely : Prop := fnExactIsAssemblyRow.holds Tryz.pinned (OpenSpec.ofChange fnExactIsAssemblyWrong)

/-- 'laws.FnExactFirstAssembly': WHATEVER THE INPUT: true; the input reads as it did. -/
def fnExactFirstAssemblySpec : ChangeSpec := { name := "fnExactFirstAssembly", fn := fun _ => fun
  | [d1, d2] => { results := [.lit (.bool true)], args := [d1, d2] }
  | _ => none }
def fnExactFirstAssemblyRow : OpenClaim := { program := "ytibgfbkepkjmbaagreat", sum := "b703b00590811273a30d4b4b6809cb52b7373d19fc637409c3131a525b6602af", func := "loop.example/g03303/laws.FnExactFirstAssembly", spec := "fnExactFirstAssembly", unfollowed := true, recurses := true, apart := false }
def FnExactFirstAssemblySaid : Prop := fnExactFirstAssemblyRow.holds Tryz.pinned (OpenSpec.ofChange fnExactFirstAssemblySpec)

/-- ITS FALSE NEIGHBOUR: 'it returns false'. Refute it at one input. -/
def fnExactFirstAssemblyWrong : ChangeSpec := { name := "fnExactFirstAssembly", fn := fun _ => fun
  | [d1, d2] => { results := [.lit (.bool false)], args := [d1, d2] }
  | _ => none }
def FnExactFirstAssemblyWrongFalsely : Prop := fnExactFirstAssemblyRow.holds Tryz.pinned (OpenSpec.ofChange fnExactFirstAssemblyWrong)

/-- 'laws.FnExactAreJoined': WHATEVER THE INPUT: true; the input reads as it did. -/
def fnExactAreJoinedSpec : ChangeSpec := { name := "fnExactAreJoined", fn := fun _ => fun
  | [d1, d2] => { results := [.lit (.bool true)], args := [d1, d2] }
  | _ => none }
def fnExactAreJoinedRow : OpenClaim := { program := "ytibgfbkepkjmbaagreat", sum := "b703b00590811273a30d4b4b6809cb52b7373d19fc637409c3131a525b6602af", func := "loop.example/g03303/laws.FnExactAreJoined", spec := "fnExactAreJoined", unfollowed := true, recurses := true, apart := false }
def FnExactAreJoinedSaid : Prop := fnExactAreJoinedRow.holds Tryz.pinned (OpenSpec.ofChange fnExactAreJoinedSpec)

/-- ITS FALSE NEIGHBOUR: 'it returns false'. Refute it at one input. -/
def fnExactAreJoinedWrong : ChangeSpec := { name := "fnExactAreJoined", fn := fun _ => fun
  | [d1, d2] => { results := [.lit (.bool false)], args := [d1, d2] }
  | _ => none }
def FnExactAreJoinedWrongFalsely : Prop := fnExactAreJoinedRow.holds Tryz.pinned (OpenSpec.ofChange fnExactAreJoinedWrong)

/-- 'laws.FnExactLooseAfter': WHATEVER THE INPUT: true; the input reads as it did. -/
def fnExactLooseAfterSpec : ChangeSpec := { name := "fnExactLooseAfter", fn := fun _ => fun
  | [d1, d2] => { results := [.lit (.bool true)], args := [d1, d2] }
  | _ => none }
def fnExactLooseAfterRow : OpenClaim := { program := "ytibgfbkepkjmbaagreat", sum := "b703b00590811273a30d4b4b6809cb52b7373d19fc637409c3131a525b6602af", func := "loop.example/g03303/laws.FnExactLooseAfter", spec := "fnExactLooseAfter", unfollowed := true, recurses := true, apart := false }
def FnExactLooseAfterSaid : Prop := fnExactLooseAfterRow.holds Tryz.pinned (OpenSpec.ofChange fnExactLooseAfterSpec)

/-- ITS FALSE NEIGHBOUR: 'it returns false'. Refute it at one input. -/
def fnExactLooseAfterWrong : ChangeSpec := { name := "fnExactLooseAfter", fn := fun _ => fun
  | [d1, d2] => { results := [.lit (.bool false)], args := [d1, d2] }
  | _ => none }
def FnExactLooseAfterWrongFalsely : Prop := fnExactLooseAfterRow.holds Tryz.pinned (OpenSpec.ofChange fnExactLooseAfterWrong)

/- THE SECOND FORM. 'bulk': how many values and letters a reading holds, each counted each time it is reached (what is shared counts as often as it is met; a slice's spare places count too). A statement '..UptoSaid' is the law's where the arguments, and the package variables that the reading takes, are together of bulk at most 1048576: NARROWER than '..Said'. Prove '..Said' where nothing that the law and all that it calls make is longer than what came in: it says more and counts as full. Else prove '..UptoSaid'. A law counts once. -/
mutual
def uptoBulk {H : Type} : DataW H → Nat
  | .lit (.string bytes) => bytes.length + 1
  | .lit _ => 1
  | .nil => 1
  | .ptr d => uptoBulk d + 1
  | .slice elems spare => uptoBulkAll elems + uptoBulkAll spare + 1
  | .agg parts => uptoBulkAll parts + 1
  | .iface _ d => uptoBulk d + 1
  | .map entries => uptoBulkEntries entries + 1
  | .held _ => 1
def uptoBulkAll {H : Type} : List (DataW H) → Nat
  | [] => 0
  | d :: r => uptoBulk d + uptoBulkAll r
def uptoBulkEntries {H : Type} : List (Lit × DataW H) → Nat
  | [] => 0
  | x :: r => uptoBulkEntry x + uptoBulkEntries r
def uptoBulkEntry {H : Type} : Lit × DataW H → Nat
  | (.string bytes, d) => bytes.length + uptoBulk d + 1
  | (_, d) => uptoBulk d + 1
 end
def uptoSmall : (H : Type) → List (DataW H) → Bool := fun _ ds => decide (uptoBulkAll ds ≤ 1048576)
def OpenSpec.upto (s : _root_.Go.ChangeSpec) : _root_.Go.OpenSpec := { _root_.Go.OpenSpec.ofChange s with cond := some uptoSmall }

/-- 'laws.FnExactPruneEnds', WHERE WHAT IT READS IS OF BULK AT MOST 1048576: true; the input reads as it did. -/
def fnExactPruneEndsUptoRow : OpenClaim := { program := "ytibgfbkepkjmbaagreat", sum := "b703b00590811273a30d4b4b6809cb52b7373d19fc637409c3131a525b6602af", func := "loop.example/g03303/laws.FnExactPruneEnds", spec := "fnExactPruneEnds", unfollowed := true, recurses := true, apart := false, narrowed := true }
def FnExactPruneEndsUptoSaid : Prop := fnExactPruneEndsUptoRow.holds Tryz.pinned (OpenSpec.upto fnExactPruneEndsSpec)

/-- 'laws.FnExactSwapChain', WHERE WHAT IT READS IS OF BULK AT MOST 1048576: true; the input reads as it did. -/
def fnExactSwapChainUptoRow : OpenClaim := { program := "ytibgfbkepkjmbaagreat", sum := "b703b00590811273a30d4b4b6809cb52b7373d19fc637409c3131a525b6602af", func := "loop.example/g03303/laws.FnExactSwapChain", spec := "fnExactSwapChain", unfollowed := true, recurses := true, apart := false, narrowed := true }
def FnExactSwapChainUptoSaid : Prop := fnExactSwapChainUptoRow.holds Tryz.pinned (OpenSpec.upto fnExactSwapChainSpec)

/-- 'laws.FnExactCountChains', WHERE WHAT IT READS IS OF BULK AT MOST 1048576: true; the input reads as it did. -/
def fnExactCountChainsUptoRow : OpenClaim := { program := "ytibgfbkepkjmbaagreat", sum := "b703b00590811273a30d4b4b6809cb52b7373d19fc637409c3131a525b6602af", func := "loop.example/g03303/laws.FnExactCountChains", spec := "fnExactCountChains", unfollowed := true, recurses := true, apart := false, narrowed := true }
def FnExactCountChainsUptoSaid : Prop := fnExactCountChainsUptoRow.holds Tryz.pinned (OpenSpec.upto fnExactCountChainsSpec)

/-- 'laws.FnExactFreeFace', WHERE WHAT IT READS IS OF BULK AT MOST 1048576: true; the input reads as it did. -/
def fnExactFreeFaceUptoRow : OpenClaim := { program := "ytibgfbkepkjmbaagreat", sum := "b703b00590811273a30d4b4b6809cb52b7373d19fc637409c3131a525b6602af", func := "loop.example/g03303/laws.FnExactFreeFace", spec := "fnExactFreeFace", unfollowed := true, recurses := true, apart := false, narrowed := true }
def FnExactFreeFaceUptoSaid : Prop := fnExactFreeFaceUptoRow.holds Tryz.pinned (OpenSpec.upto fnExactFreeFaceSpec)

/-- 'laws.FnExactIsAssembly', WHERE WHAT IT READS IS OF BULK AT MOST 1048576: true; the input reads as it did. -/
def fnExactIsAssemblyUptoRow : OpenClaim := { program := "ytibgfbkepkjmbaagreat", sum := "b703b00590811273a30d4b4b6809cb52b7373d19fc637409c3131a525b6602af", func := "loop.example/g03303/laws.FnExactIsAssembly", spec := "fnExactIsAssembly", unfollowed := true, recurses := true, apart := false, narrowed := true }
def FnExactIsAssemblyUptoSaid : Prop := fnExactIsAssemblyUptoRow.holds Tryz.pinned (OpenSpec.upto fnExactIsAssemblySpec)

/-- 'laws.FnExactFirstAssembly', WHERE WHAT IT READS IS OF BULK AT MOST 1048576: true; the input reads as it did. -/
def fnExactFirstAssemblyUptoRow : OpenClaim := { program := "ytibgfbkepkjmbaagreat", sum := "b703b00590811273a30d4b4b6809cb52b7373d19fc637409c3131a525b6602af", func := "loop.example/g03303/laws.FnExactFirstAssembly", spec := "fnExactFirstAssembly", unfollowed := true, recurses := true, apart := false, narrowed := true }
def FnExactFirstAssemblyUptoSaid : Prop := fnExactFirstAssemblyUptoRow.holds Tryz.pinned (OpenSpec.upto fnExactFirstAssemblySpec)

/-- 'laws.FnExactAreJoined', WHERE WHAT IT READS IS OF BULK AT MOST 1048576: true; the input reads as it did. -/
def fnExactAreJoinedUptoRow : OpenClaim := { program := "ytibgfbkepkjmbaagreat", sum := "b703b00590811273a30d4b4b6809cb52b7373d19fc637409c3131a525b6602af", func := "loop.example/g03303/laws.FnExactAreJoined", spec := "fnExactAreJoined", unfollowed := true, recurses := true, apart := false, narrowed := true }
def FnExactAreJoinedUptoSaid : Prop := fnExactAreJoinedUptoRow.holds Tryz.pinned (OpenSpec.upto fnExactAreJoinedSpec)

/-- 'laws.FnExactLooseAfter', WHERE WHAT IT READS IS OF BULK AT MOST 1048576: true; the input reads as it did. -/
def fnExactLooseAfterUptoRow : OpenClaim := { program := "ytibgfbkepkjmbaagreat", sum := "b703b00590811273a30d4b4b6809cb52b7373d19fc637409c3131a525b6602af", func := "loop.example/g03303/laws.FnExactLooseAfter", spec := "fnExactLooseAfter", unfollowed := true, recurses := true, apart := false, narrowed := true }
def FnExactLooseAfterUptoSaid : Prop := fnExactLooseAfterUptoRow.holds Tryz.pinned (OpenSpec.upto fnExactLooseAfterSpec)

end Rows
end Go.Proofs.YtibgfbkepkjmbaaGreat
