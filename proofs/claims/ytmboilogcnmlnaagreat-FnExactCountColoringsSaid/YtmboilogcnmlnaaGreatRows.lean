/-
  No cell of these rows narrows 'for every input' (looked for: loops, veiled, ifaces, maps, wideKeys, modest, calm, conditions, laid).
  DERIVED. THE GIVEN ROWS OF THIS SEAT. 10 by the template 'for every input the law returns true; each argument reads behind the call as it read before'; 0 by the template 'total and deterministic' (their statements: YtmboilogcnmlnaaGreatTotals.lean).
  GIVEN WITH THE SEED: the statements are not yours to turn. If you find one false, say at which input.
  Laid BY PROGRAM, IN A SANDBOX (cutbox-rows.mjs): the forced cells as the released guide's own fill.sh prints them over the translation e909d2b9bd0eabcf… (all of the seat's roots in one cut). By AI agents, Wed Nov 11 2026. No macro, syntax, notation, axiom, sorry.
-/
import Derived.Test.YtmboilogcnmlnaaGreatChecked
import GoSem.Claim
import GoSem.ClaimJoined
import GoSem.ClaimMapViews
import Derived.JoinedTies
import Derived.KernelRfl
namespace Go.Proofs.YtmboilogcnmlnaaGreat
/- THE CELL 'sum', in the pinned program and in every row, IS THE sha256 OF THE DUMP (.gsa) THAT YtmboilogcnmlnaaGreatProg.lean LOADS. Nothing in Lean hashes anything: it is a label: what it is worth is what the hold of that sum in a sandbox is worth. -/
noncomputable def Tryz.pinned : Pinned := { name := "ytmboilogcnmlnaagreat", sum := "e909d2b9bd0eabcf16e9807733c406cbe3a5da5fd3c9886a59822e9c098a91a0", checked := Tryz.checked }
namespace Rows
def none {H : Type} : Left H := { results := [], args := [] }

/-- 'laws.FnExactShapeOf': WHATEVER THE INPUT: true; the input reads as it did. -/
def fnExactShapeOfSpec : ChangeSpec := { name := "fnExactShapeOf", fn := fun _ => fun
  | [d1, d2] => { results := [.lit (.bool true)], args := [d1, d2] }
  | _ => none }
def fnExactShapeOfRow : OpenClaim := { program := "ytmboilogcnmlnaagreat", sum := "e909d2b9bd0eabcf16e9807733c406cbe3a5da5fd3c9886a59822e9c098a91a0", func := "loop.example/g03303/laws.FnExactShapeOf", spec := "fnExactShapeOf", unfollowed := true, recurses := true, apart := false }
def FnExactShapeOfSaid : Prop := fnExactShapeOfRow.holds Tryz.pinned (OpenSpec.ofChange fnExactShapeOfSpec)

/-- ITS FALSE NEIGHBOUR: 'it returns false'. Refute it at one input. -/
def fnExactShapeOfWrong : ChangeSpec := { name := "fnExactShapeOf", fn := fun _ => fun
  | [d1, d2] => { results := [.lit (.bool false)], args := [d1, d2] }
  | _ => none }
def FnExactShapeOfWrongFalsely : Prop := fnExactShapeOfRow.holds Tryz.pinned (OpenSpec.ofChange fnExactShapeOfWrong)

/-- 'laws.FnExactPaneBox': WHATEVER THE INPUT: true; the input reads as it did. -/
def fnExactPaneBoxSpec : ChangeSpec := { name := "fnExactPaneBox", fn := fun _ => fun
  | [d1, d2] => { results := [.lit (.bool true)], args := [d1, d2] }
  | _ => none }
def fnExactPaneBoxRow : OpenClaim := { program := "ytmboilogcnmlnaagreat", sum := "e909d2b9bd0eabcf16e9807733c406cbe3a5da5fd3c9886a59822e9c098a91a0", func := "loop.example/g03303/laws.FnExactPaneBox", spec := "fnExactPaneBox", unfollowed := true, recurses := true, apart := false }
def FnExactPaneBoxSaid : Prop := fnExactPaneBoxRow.holds Tryz.pinned (OpenSpec.ofChange fnExactPaneBoxSpec)

/-- ITS FALSE NEIGHBOUR: 'it returns false'. Refute it at one input. -/
def fnExactPaneBoxWrong : ChangeSpec := { name := "fnExactPaneBox", fn := fun _ => fun
  | [d1, d2] => { results := [.lit (.bool false)], args := [d1, d2] }
  | _ => none }
def FnExactPaneBoxWrongFalsely : Prop := fnExactPaneBoxRow.holds Tryz.pinned (OpenSpec.ofChange fnExactPaneBoxWrong)

/-- 'laws.FnExactReadingOrder': WHATEVER THE INPUT: true; the input reads as it did. -/
def fnExactReadingOrderSpec : ChangeSpec := { name := "fnExactReadingOrder", fn := fun _ => fun
  | [d] => { results := [.lit (.bool true)], args := [d] }
  | _ => none }
def fnExactReadingOrderRow : OpenClaim := { program := "ytmboilogcnmlnaagreat", sum := "e909d2b9bd0eabcf16e9807733c406cbe3a5da5fd3c9886a59822e9c098a91a0", func := "loop.example/g03303/laws.FnExactReadingOrder", spec := "fnExactReadingOrder", unfollowed := true, recurses := true, apart := false }
def FnExactReadingOrderSaid : Prop := fnExactReadingOrderRow.holds Tryz.pinned (OpenSpec.ofChange fnExactReadingOrderSpec)

/-- ITS FALSE NEIGHBOUR: 'it returns false'. Refute it at one input. -/
def fnExactReadingOrderWrong : ChangeSpec := { name := "fnExactReadingOrder", fn := fun _ => fun
  | [d] => { results := [.lit (.bool false)], args := [d] }
  | _ => none }
def FnExactReadingOrderWrongFalsely : Prop := fnExactReadingOrderRow.holds Tryz.pinned (OpenSpec.ofChange fnExactReadingOrderWrong)

/-- 'laws.FnExactNumberOf': WHATEVER THE INPUT: true; the input reads as it did. -/
def fnExactNumberOfSpec : ChangeSpec := { name := "fnExactNumberOf", fn := fun _ => fun
  | [d1, d2] => { results := [.lit (.bool true)], args := [d1, d2] }
  | _ => none }
def fnExactNumberOfRow : OpenClaim := { program := "ytmboilogcnmlnaagreat", sum := "e909d2b9bd0eabcf16e9807733c406cbe3a5da5fd3c9886a59822e9c098a91a0", func := "loop.example/g03303/laws.FnExactNumberOf", spec := "fnExactNumberOf", unfollowed := true, recurses := true, apart := false }
def FnExactNumberOfSaid : Prop := fnExactNumberOfRow.holds Tryz.pinned (OpenSpec.ofChange fnExactNumberOfSpec)

/-- ITS FALSE NEIGHBOUR: 'it returns false'. Refute it at one input. -/
def fnExactNumberOfWrong : ChangeSpec := { name := "fnExactNumberOf", fn := fun _ => fun
  | [d1, d2] => { results := [.lit (.bool false)], args := [d1, d2] }
  | _ => none }
def FnExactNumberOfWrongFalsely : Prop := fnExactNumberOfRow.holds Tryz.pinned (OpenSpec.ofChange fnExactNumberOfWrong)

/-- 'laws.FnExactFaceWithNumber': WHATEVER THE INPUT: true; the input reads as it did. -/
def fnExactFaceWithNumberSpec : ChangeSpec := { name := "fnExactFaceWithNumber", fn := fun _ => fun
  | [d1, d2] => { results := [.lit (.bool true)], args := [d1, d2] }
  | _ => none }
def fnExactFaceWithNumberRow : OpenClaim := { program := "ytmboilogcnmlnaagreat", sum := "e909d2b9bd0eabcf16e9807733c406cbe3a5da5fd3c9886a59822e9c098a91a0", func := "loop.example/g03303/laws.FnExactFaceWithNumber", spec := "fnExactFaceWithNumber", unfollowed := true, recurses := true, apart := false }
def FnExactFaceWithNumberSaid : Prop := fnExactFaceWithNumberRow.holds Tryz.pinned (OpenSpec.ofChange fnExactFaceWithNumberSpec)

/-- ITS FALSE NEIGHBOUR: 'it returns false'. Refute it at one input. -/
def fnExactFaceWithNumberWrong : ChangeSpec := { name := "fnExactFaceWithNumber", fn := fun _ => fun
  | [d1, d2] => { results := [.lit (.bool false)], args := [d1, d2] }
  | _ => none }
def FnExactFaceWithNumberWrongFalsely : Prop := fnExactFaceWithNumberRow.holds Tryz.pinned (OpenSpec.ofChange fnExactFaceWithNumberWrong)

/-- 'laws.FnExactGreedyColors': WHATEVER THE INPUT: true; the input reads as it did. -/
def fnExactGreedyColorsSpec : ChangeSpec := { name := "fnExactGreedyColors", fn := fun _ => fun
  | [d] => { results := [.lit (.bool true)], args := [d] }
  | _ => none }
def fnExactGreedyColorsRow : OpenClaim := { program := "ytmboilogcnmlnaagreat", sum := "e909d2b9bd0eabcf16e9807733c406cbe3a5da5fd3c9886a59822e9c098a91a0", func := "loop.example/g03303/laws.FnExactGreedyColors", spec := "fnExactGreedyColors", unfollowed := true, recurses := true, apart := false }
def FnExactGreedyColorsSaid : Prop := fnExactGreedyColorsRow.holds Tryz.pinned (OpenSpec.ofChange fnExactGreedyColorsSpec)

/-- ITS FALSE NEIGHBOUR: 'it returns false'. Refute it at one input. -/
def fnExactGreedyColorsWrong : ChangeSpec := { name := "fnExactGreedyColors", fn := fun _ => fun
  | [d] => { results := [.lit (.bool false)], args := [d] }
  | _ => none }
def FnExactGreedyColorsWrongFalsely : Prop := fnExactGreedyColorsRow.holds Tryz.pinned (OpenSpec.ofChange fnExactGreedyColorsWrong)

/-- 'laws.FnExactCountColorings': WHATEVER THE INPUT: true; the input reads as it did. -/
def fnExactCountColoringsSpec : ChangeSpec := { name := "fnExactCountColorings", fn := fun _ => fun
  | [d1, d2] => { results := [.lit (.bool true)], args := [d1, d2] }
  | _ => none }
def fnExactCountColoringsRow : OpenClaim := { program := "ytmboilogcnmlnaagreat", sum := "e909d2b9bd0eabcf16e9807733c406cbe3a5da5fd3c9886a59822e9c098a91a0", func := "loop.example/g03303/laws.FnExactCountColorings", spec := "fnExactCountColorings", unfollowed := true, recurses := true, apart := false }
def FnExactCountColoringsSaid : Prop := fnExactCountColoringsRow.holds Tryz.pinned (OpenSpec.ofChange fnExactCountColoringsSpec)

/-- ITS FALSE NEIGHBOUR: 'it returns false'. Refute it at one input. -/
def fnExactCountColoringsWrong : ChangeSpec := { name := "fnExactCountColorings", fn := fun _ => fun
  | [d1, d2] => { results := [.lit (.bool false)], args := [d1, d2] }
  | _ => none }
def FnExactCountColoringsWrongFalsely : Prop := fnExactCountColoringsRow.holds Tryz.pinned (OpenSpec.ofChange fnExactCountColoringsWrong)

/-- 'laws.FnExactChainOf': WHATEVER THE INPUT: true; the input reads as it did. -/
def fnExactChainOfSpec : ChangeSpec := { name := "fnExactChainOf", fn := fun _ => fun
  | [d1, d2, d3, d4] => { results := [.lit (.bool true)], args := [d1, d2, d3, d4] }
  | _ => none }
def fnExactChainOfRow : OpenClaim := { program := "ytmboilogcnmlnaagreat", sum := "e909d2b9bd0eabcf16e9807733c406cbe3a5da5fd3c9886a59822e9c098a91a0", func := "loop.example/g03303/laws.FnExactChainOf", spec := "fnExactChainOf", unfollowed := true, recurses := true, apart := false }
def FnExactChainOfSaid : Prop := fnExactChainOfRow.holds Tryz.pinned (OpenSpec.ofChange fnExactChainOfSpec)

/-- ITS FALSE NEIGHBOUR: 'it returns false'. Refute it at one input. -/
def fnExactChainOfWrong : ChangeSpec := { name := "fnExactChainOf", fn := fun _ => fun
  | [d1, d2, d3, d4] => { results := [.lit (.bool false)], args := [d1, d2, d3, d4] }
  | _ => none }
def FnExactChainOfWrongFalsely : Prop := fnExactChainOfRow.holds Tryz.pinned (OpenSpec.ofChange fnExactChainOfWrong)

/-- 'laws.FnExactSwapChain': WHATEVER THE INPUT: true; the input reads as it did. -/
def fnExactSwapChainSpec : ChangeSpec := { name := "fnExactSwapChain", fn := fun _ => fun
  | [d1, d2, d3, d4] => { results := [.lit (.bool true)], args := [d1, d2, d3, d4] }
  | _ => none }
def fnExactSwapChainRow : OpenClaim := { program := "ytmboilogcnmlnaagreat", sum := "e909d2b9bd0eabcf16e9807733c406cbe3a5da5fd3c9886a59822e9c098a91a0", func := "loop.example/g03303/laws.FnExactSwapChain", spec := "fnExactSwapChain", unfollowed := true, recurses := true, apart := false }
def FnExactSwapChainSaid : Prop := fnExactSwapChainRow.holds Tryz.pinned (OpenSpec.ofChange fnExactSwapChainSpec)

/-- ITS FALSE NEIGHBOUR: 'it returns false'. Refute it at one input. -/
def fnExactSwapChainWrong : ChangeSpec := { name := "fnExactSwapChain", fn := fun _ => fun
  | [d1, d2, d3, d4] => { results := [.lit (.bool false)], args := [d1, d2, d3, d4] }
  | _ => none }
def FnExactSwapChainWrongFalsely : Prop := fnExactSwapChainRow.holds Tryz.pinned (OpenSpec.ofChange fnExactSwapChainWrong)

/-- 'laws.FnExactCountChains': WHATEVER THE INPUT: true; the input reads as it did. -/
def fnExactCountChainsSpec : ChangeSpec := { name := "fnExactCountChains", fn := fun _ => fun
  | [d1, d2, d3, d4] => { results := [.lit (.bool true)], args := [d1, d2, d3, d4] }
  | _ => none }
def fnExactCountChainsRow : OpenClaim := { program := "ytmboilogcnmlnaagreat", sum := "e909d2b9bd0eabcf16e9807733c406cbe3a5da5fd3c9886a59822e9c098a91a0", func := "loop.example/g03303/laws.FnExactCountChains", spec := "fnExactCountChains", unfollowed := true, recurses := true, apart := false }
def FnExactCountChainsSaid : Prop := fnExactCountChainsRow.holds Tryz.pinned (OpenSpec.ofChange fnExactCountChainsSpec)

/-- ITS FALSE NEIGHBOUR: 'it returns false'. Refute it at one input. -/
def fnExactCountChainsWrong : ChangeSpec := { name := "fnExactCountChains", fn := fun _ => fun
  | [d1, d2, d3, d4] => { results := [.lit (.bool false)], args := [d1, d2, d3, d4] }
  | _ => none }
def FnExactCountChainsWrongFalsely : Prop := fnExactCountChainsRow.holds Tryz.pinned (OpenSpec.ofChange fnExactCountChainsWrong)

/- THE SECOND FORM. 'bulk': how many values and letters a reading holds, each counted each time it is reached (what is shared counts as often as it is met; a slice's spare places count too). A statement '..UptoSaid' is the law's where the arguments, and the package variables that the reading takes, are together of bulk at most 1048576: NARROWER than '..Said'. Prove '..Said' where nothing that the law and all that it calls make is longer than what came in: it says more and counts as full. Else prove '..UptoSaid'. A law counts once. -/
mutual
def uptoBulk {H : Type} : DataW H → Nat
  | .lit (.string bytes) => bytes.length + 1
  | .lit _ => 1
  | .nil => 1
  | .ptr d => uptoBulk d + 1
  | .slice elems spare => uptoBulkAll elems + uptoBulkAll spare + 1
  | .agg parts => uptoBulkAll parts + 1
  | .iface _ d => uptoBulk d + 1
  | .map entries => uptoBulkEntries entries + 1
  | .held _ => 1
def uptoBulkAll {H : Type} : List (DataW H) → Nat
  | [] => 0
  | d :: r => uptoBulk d + uptoBulkAll r
def uptoBulkEntries {H : Type} : List (Lit × DataW H) → Nat
  | [] => 0
  | x :: r => uptoBulkEntry x + uptoBulkEntries r
def uptoBulkEntry {H : Type} : Lit × DataW H → Nat
  | (.string bytes, d) => bytes.length + uptoBulk d + 1
  | (_, d) => uptoBulk d + 1
 end
def uptoSmall : (H : Type) → List (DataW H) → Bool := fun _ ds => decide (uptoBulkAll ds ≤ 1048576)
def OpenSpec.upto (s : _root_.Go.ChangeSpec) : _root_.Go.OpenSpec := { _root_.Go.OpenSpec.ofChange s with cond := some uptoSmall }

/-- 'laws.FnExactShapeOf', WHERE WHAT IT READS IS OF BULK AT MOST 1048576: true; the input reads as it did. -/
def fnExactShapeOfUptoRow : OpenClaim := { program := "ytmboilogcnmlnaagreat", sum := "e909d2b9bd0eabcf16e9807733c406cbe3a5da5fd3c9886a59822e9c098a91a0", func := "loop.example/g03303/laws.FnExactShapeOf", spec := "fnExactShapeOf", unfollowed := true, recurses := true, apart := false, narrowed := true }
def FnExactShapeOfUptoSaid : Prop := fnExactShapeOfUptoRow.holds Tryz.pinned (OpenSpec.upto fnExactShapeOfSpec)

/-- 'laws.FnExactPaneBox', WHERE WHAT IT READS IS OF BULK AT MOST 1048576: true; the input reads as it did. -/
def fnExactPaneBoxUptoRow : OpenClaim := { program := "ytmboilogcnmlnaagreat", sum := "e909d2b9bd0eabcf16e9807733c406cbe3a5da5fd3c9886a59822e9c098a91a0", func := "loop.example/g03303/laws.FnExactPaneBox", spec := "fnExactPaneBox", unfollowed := true, recurses := true, apart := false, narrowed := true }
def FnExactPaneBoxUptoSaid : Prop := fnExactPaneBoxUptoRow.holds Tryz.pinned (OpenSpec.upto fnExactPaneBoxSpec)

/-- 'laws.FnExactReadingOrder', WHERE WHAT IT READS IS OF BULK AT MOST 1048576: true; the input reads as it did. -/
def fnExactReadingOrderUptoRow : OpenClaim := { program := "ytmboilogcnmlnaagreat", sum := "e909d2b9bd0eabcf16e9807733c406cbe3a5da5fd3c9886a59822e9c098a91a0", func := "loop.example/g03303/laws.FnExactReadingOrder", spec := "fnExactReadingOrder", unfollowed := true, recurses := true, apart := false, narrowed := true }
def FnExactReadingOrderUptoSaid : Prop := fnExactReadingOrderUptoRow.holds Tryz.pinned (OpenSpec.upto fnExactReadingOrderSpec)

/-- 'laws.FnExactNumberOf', WHERE WHAT IT READS IS OF BULK AT MOST 1048576: true; the input reads as it did. -/
def fnExactNumberOfUptoRow : OpenClaim := { program := "ytmboilogcnmlnaagreat", sum := "e909d2b9bd0eabcf16e9807733c406cbe3a5da5fd3c9886a59822e9c098a91a0", func := "loop.example/g03303/laws.FnExactNumberOf", spec := "fnExactNumberOf", unfollowed := true, recurses := true, apart := false, narrowed := true }
def FnExactNumberOfUptoSaid : Prop := fnExactNumberOfUptoRow.holds Tryz.pinned (OpenSpec.upto fnExactNumberOfSpec)

/-- 'laws.FnExactFaceWithNumber', WHERE WHAT IT READS IS OF BULK AT MOST 1048576: true; the input reads as it did. -/
def fnExactFaceWithNumberUptoRow : OpenClaim := { program := "ytmboilogcnmlnaagreat", sum := "e909d2b9bd0eabcf16e9807733c406cbe3a5da5fd3c9886a59822e9c098a91a0", func := "loop.example/g03303/laws.FnExactFaceWithNumber", spec := "fnExactFaceWithNumber", unfollowed := true, recurses := true, apart := false, narrowed := true }
def FnExactFaceWithNumberUptoSaid : Prop := fnExactFaceWithNumberUptoRow.holds Tryz.pinned (OpenSpec.upto fnExactFaceWithNumberSpec)

/-- 'laws.FnExactGreedyColors', WHERE WHAT IT READS IS OF BULK AT MOST 1048576: true; the input reads as it did. -/
def fnExactGreedyColorsUptoRow : OpenClaim := { program := "ytmboilogcnmlnaagreat", sum := "e909d2b9bd0eabcf16e9807733c406cbe3a5da5fd3c9886a59822e9c098a91a0", func := "loop.example/g03303/laws.FnExactGreedyColors", spec := "fnExactGreedyColors", unfollowed := true, recurses := true, apart := false, narrowed := true }
def FnExactGreedyColorsUptoSaid : Prop := fnExactGreedyColorsUptoRow.holds Tryz.pinned (OpenSpec.upto fnExactGreedyColorsSpec)

/-- 'laws.FnExactCountColorings', WHERE WHAT IT READS IS OF BULK AT MOST 1048576: true; the input reads as it did. -/
def fnExactCountColoringsUptoRow : OpenClaim := { program := "ytmboilogcnmlnaagreat", sum := "e909d2b9bd0eabcf16e9807733c406cbe3a5da5fd3c9886a59822e9c098a91a0", func := "loop.example/g03303/laws.FnExactCountColorings", spec := "fnExactCountColorings", unfollowed := true, recurses := true, apart := false, narrowed := true }
def FnExactCountColoringsUptoSaid : Prop := fnExactCountColoringsUptoRow.holds Tryz.pinned (OpenSpec.upto fnExactCountColoringsSpec)

/-- 'laws.FnExactChainOf', WHERE WHAT IT READS IS OF BULK AT MOST 1048576: true; the input reads as it did. -/
def fnExactChainOfUptoRow : OpenClaim := { program := "ytmboilogcnmlnaagreat", sum := "e909d2b9bd0eabcf16e9807733c406cbe3a5da5fd3c9886a59822e9c098a91a0", func := "loop.example/g03303/laws.FnExactChainOf", spec := "fnExactChainOf", unfollowed := true, recurses := true, apart := false, narrowed := true }
def FnExactChainOfUptoSaid : Prop := fnExactChainOfUptoRow.holds Tryz.pinned (OpenSpec.upto fnExactChainOfSpec)

/-- 'laws.FnExactSwapChain', WHERE WHAT IT READS IS OF BULK AT MOST 1048576: true; the input reads as it did. -/
def fnExactSwapChainUptoRow : OpenClaim := { program := "ytmboilogcnmlnaagreat", sum := "e909d2b9bd0eabcf16e9807733c406cbe3a5da5fd3c9886a59822e9c098a91a0", func := "loop.example/g03303/laws.FnExactSwapChain", spec := "fnExactSwapChain", unfollowed := true, recurses := true, apart := false, narrowed := true }
def FnExactSwapChainUptoSaid : Prop := fnExactSwapChainUptoRow.holds Tryz.pinned (OpenSpec.upto fnExactSwapChainSpec)

/-- 'laws.FnExactCountChains', WHERE WHAT IT READS IS OF BULK AT MOST 1048576: true; the input reads as it did. -/
def fnExactCountChainsUptoRow : OpenClaim := { program := "ytmboilogcnmlnaagreat", sum := "e909d2b9bd0eabcf16e9807733c406cbe3a5da5fd3c9886a59822e9c098a91a0", func := "loop.example/g03303/laws.FnExactCountChains", spec := "fnExactCountChains", unfollowed := true, recurses := true, apart := false, narrowed := true }
def FnExactCountChainsUptoSaid : Prop := fnExactCountChainsUptoRow.holds Tryz.pinned (OpenSpec.upto fnExactCountChainsSpec)

end Rows
end Go.Proofs.YtmboilogcnmlnaaGreat
