/-
  No cell of these rows narrows 'for every input' (looked for: loops, veiled, ifaces, maps, wideKeys, modest, calm, conditions, laid).
  DERIVED. THE GIVEN ROWS OF THIS SEAT. 4 by the template 'for every input the law returns true; each argument reads behind the call as it read before'; 0 by the template 'total and deterministic' (their statements: YtfppnaknnijobacTotals.lean).
  GIVEN WITH THE SEED: the statements are not yours to turn. If you find one false, say at which input.
  Laid BY PROGRAM, IN A SANDBOX (cutbox-rows.mjs): the forced cells as the released guide's own fill.sh prints them over the translation b307a5bde45a73da… (all of the seat's roots in one cut). By AI agents, Wed Nov 11 2026. No macro, syntax, notation, axiom, sorry.
-/
import Derived.Test.YtfppnaknnijobacChecked
import GoSem.Claim
import GoSem.ClaimJoined
import GoSem.ClaimMapViews
import Derived.JoinedTies
import Derived.KernelRfl
namespace Go.Proofs.Ytfppnaknnijobac
/- THE CELL 'sum', in the pinned program and in every row, IS THE sha256 OF THE DUMP (.gsa) THAT YtfppnaknnijobacProg.lean LOADS. Nothing in Lean hashes anything: it is a label: what it is worth is what the hold of that sum in a sandbox is worth. -/
noncomputable def Try.pinned : Pinned := { name := "ytfppnaknnijobac", sum := "b307a5bde45a73daf9ebeba8ddc7022820a5956a669fb70483735ab68cfaeeb1", checked := Try.checked }
namespace Rows
def none {H : Type} : Left H := { results := [], args := [] }

/-- 'laws.FnExactInstalments': WHATEVER THE INPUT: true; the input reads as it did. -/
def fnExactInstalmentsSpec : ChangeSpec := { name := "fnExactInstalments", fn := fun _ => fun
  | [d1, d2] => { results := [.lit (.bool true)], args := [d1, d2] }
  | _ => none }
def fnExactInstalmentsRow : OpenClaim := { program := "ytfppnaknnijobac", sum := "b307a5bde45a73daf9ebeba8ddc7022820a5956a669fb70483735ab68cfaeeb1", func := "loop.example/g03303/laws.FnExactInstalments", spec := "fnExactInstalments", apart := false }
def FnExactInstalmentsSaid : Prop := fnExactInstalmentsRow.holds Try.pinned (OpenSpec.ofChange fnExactInstalmentsSpec)

/-- ITS FALSE NEIGHBOUR: 'it returns false'. Refute it at one input. -/
def fnExactInstalmentsWrong : ChangeSpec := { name := "fnExactInstalments", fn := fun _ => fun
  | [d1, d2] => { results := [.lit (.bool false)], args := [d1, d2] }
  | _ => none }
def FnExactInstalmentsWrongFalsely : Prop := fnExactInstalmentsRow.holds Try.pinned (OpenSpec.ofChange fnExactInstalmentsWrong)

/-- 'laws.FnExactCratesUsed': WHATEVER THE INPUT: true; the input reads as it did. -/
def fnExactCratesUsedSpec : ChangeSpec := { name := "fnExactCratesUsed", fn := fun _ => fun
  | [d] => { results := [.lit (.bool true)], args := [d] }
  | _ => none }
def fnExactCratesUsedRow : OpenClaim := { program := "ytfppnaknnijobac", sum := "b307a5bde45a73daf9ebeba8ddc7022820a5956a669fb70483735ab68cfaeeb1", func := "loop.example/g03303/laws.FnExactCratesUsed", spec := "fnExactCratesUsed", unfollowed := true, recurses := true, apart := false }
def FnExactCratesUsedSaid : Prop := fnExactCratesUsedRow.holds Try.pinned (OpenSpec.ofChange fnExactCratesUsedSpec)

/-- ITS FALSE NEIGHBOUR: 'it returns false'. Refute it at one input. -/
def fnExactCratesUsedWrong : ChangeSpec := { name := "fnExactCratesUsed", fn := fun _ => fun
  | [d] => { results := [.lit (.bool false)], args := [d] }
  | _ => none }
def FnExactCratesUsedWrongFalsely : Prop := fnExactCratesUsedRow.holds Try.pinned (OpenSpec.ofChange fnExactCratesUsedWrong)

/-- 'laws.FnExactInCrate': WHATEVER THE INPUT: true; the input reads as it did. -/
def fnExactInCrateSpec : ChangeSpec := { name := "fnExactInCrate", fn := fun _ => fun
  | [d1, d2] => { results := [.lit (.bool true)], args := [d1, d2] }
  | _ => none }
def fnExactInCrateRow : OpenClaim := { program := "ytfppnaknnijobac", sum := "b307a5bde45a73daf9ebeba8ddc7022820a5956a669fb70483735ab68cfaeeb1", func := "loop.example/g03303/laws.FnExactInCrate", spec := "fnExactInCrate", recurses := true, apart := false }
def FnExactInCrateSaid : Prop := fnExactInCrateRow.holds Try.pinned (OpenSpec.ofChange fnExactInCrateSpec)

/-- ITS FALSE NEIGHBOUR: 'it returns false'. Refute it at one input. -/
def fnExactInCrateWrong : ChangeSpec := { name := "fnExactInCrate", fn := fun _ => fun
  | [d1, d2] => { results := [.lit (.bool false)], args := [d1, d2] }
  | _ => none }
def FnExactInCrateWrongFalsely : Prop := fnExactInCrateRow.holds Try.pinned (OpenSpec.ofChange fnExactInCrateWrong)

/-- 'laws.FnExactReturnOrder': WHATEVER THE INPUT: true; the input reads as it did. -/
def fnExactReturnOrderSpec : ChangeSpec := { name := "fnExactReturnOrder", fn := fun _ => fun
  | [d] => { results := [.lit (.bool true)], args := [d] }
  | _ => none }
def fnExactReturnOrderRow : OpenClaim := { program := "ytfppnaknnijobac", sum := "b307a5bde45a73daf9ebeba8ddc7022820a5956a669fb70483735ab68cfaeeb1", func := "loop.example/g03303/laws.FnExactReturnOrder", spec := "fnExactReturnOrder", unfollowed := true, recurses := true, apart := false }
def FnExactReturnOrderSaid : Prop := fnExactReturnOrderRow.holds Try.pinned (OpenSpec.ofChange fnExactReturnOrderSpec)

/-- ITS FALSE NEIGHBOUR: 'it returns false'. Refute it at one input. -/
def fnExactReturnOrderWrong : ChangeSpec := { name := "fnExactReturnOrder", fn := fun _ => fun
  | [d] => { results := [.lit (.bool false)], args := [d] }
  | _ => none }
def FnExactReturnOrderWrongFalsely : Prop := fnExactReturnOrderRow.holds Try.pinned (OpenSpec.ofChange fnExactReturnOrderWrong)

/- THE SECOND FORM. 'bulk': how many values and letters a reading holds, each counted each time it is reached (what is shared counts as often as it is met; a slice's spare places count too). A statement '..UptoSaid' is the law's where the arguments, and the package variables that the reading takes, are together of bulk at most 1048576: NARROWER than '..Said'. Prove '..Said' where nothing that the law and all that it calls make is longer than what came in: it says more and counts as full. Else prove '..UptoSaid'. A law counts once. -/
mutual
def uptoBulk {H : Type} : DataW H → Nat
  | .lit (.string bytes) => bytes.length + 1
  | .lit _ => 1
  | .nil => 1
  | .ptr d => uptoBulk d + 1
  | .slice elems spare => uptoBulkAll elems + uptoBulkAll spare + 1
  | .agg parts => uptoBulkAll parts + 1
  | .iface _ d => uptoBulk d + 1
  | .map entries => uptoBulkEntries entries + 1
  | .held _ => 1
def uptoBulkAll {H : Type} : List (DataW H) → Nat
  | [] => 0
  | d :: r => uptoBulk d + uptoBulkAll r
def uptoBulkEntries {H : Type} : List (Lit × DataW H) → Nat
  | [] => 0
  | x :: r => uptoBulkEntry x + uptoBulkEntries r
def uptoBulkEntry {H : Type} : Lit × DataW H → Nat
  | (.string bytes, d) => bytes.length + uptoBulk d + 1
  | (_, d) => uptoBulk d + 1
 end
def uptoSmall : (H : Type) → List (DataW H) → Bool := fun _ ds => decide (uptoBulkAll ds ≤ 1048576)
def OpenSpec.upto (s : _root_.Go.ChangeSpec) : _root_.Go.OpenSpec := { _root_.Go.OpenSpec.ofChange s with cond := some uptoSmall }

/-- 'laws.FnExactInstalments', WHERE WHAT IT READS IS OF BULK AT MOST 1048576: true; the input reads as it did. -/
def fnExactInstalmentsUptoRow : OpenClaim := { program := "ytfppnaknnijobac", sum := "b307a5bde45a73daf9ebeba8ddc7022820a5956a669fb70483735ab68cfaeeb1", func := "loop.example/g03303/laws.FnExactInstalments", spec := "fnExactInstalments", apart := false, narrowed := true }
def FnExactInstalmentsUptoSaid : Prop := fnExactInstalmentsUptoRow.holds Try.pinned (OpenSpec.upto fnExactInstalmentsSpec)

/-- 'laws.FnExactCratesUsed', WHERE WHAT IT READS IS OF BULK AT MOST 1048576: true; the input reads as it did. -/
def fnExactCratesUsedUptoRow : OpenClaim := { program := "ytfppnaknnijobac", sum := "b307a5bde45a73daf9ebeba8ddc7022820a5956a669fb70483735ab68cfaeeb1", func := "loop.example/g03303/laws.FnExactCratesUsed", spec := "fnExactCratesUsed", unfollowed := true, recurses := true, apart := false, narrowed := true }
def FnExactCratesUsedUptoSaid : Prop := fnExactCratesUsedUptoRow.holds Try.pinned (OpenSpec.upto fnExactCratesUsedSpec)

/-- 'laws.FnExactInCrate', WHERE WHAT IT READS IS OF BULK AT MOST 1048576: true; the input reads as it did. -/
def fnExactInCrateUptoRow : OpenClaim := { program := "ytfppnaknnijobac", sum := "b307a5bde45a73daf9ebeba8ddc7022820a5956a669fb70483735ab68cfaeeb1", func := "loop.example/g03303/laws.FnExactInCrate", spec := "fnExactInCrate", recurses := true, apart := false, narrowed := true }
def FnExactInCrateUptoSaid : Prop := fnExactInCrateUptoRow.holds Try.pinned (OpenSpec.upto fnExactInCrateSpec)

/-- 'laws.FnExactReturnOrder', WHERE WHAT IT READS IS OF BULK AT MOST 1048576: true; the input reads as it did. -/
def fnExactReturnOrderUptoRow : OpenClaim := { program := "ytfppnaknnijobac", sum := "b307a5bde45a73daf9ebeba8ddc7022820a5956a669fb70483735ab68cfaeeb1", func := "loop.example/g03303/laws.FnExactReturnOrder", spec := "fnExactReturnOrder", unfollowed := true, recurses := true, apart := false, narrowed := true }
def FnExactReturnOrderUptoSaid : Prop := fnExactReturnOrderUptoRow.holds Try.pinned (OpenSpec.upto fnExactReturnOrderSpec)

end Rows
end Go.Proofs.Ytfppnaknnijobac
