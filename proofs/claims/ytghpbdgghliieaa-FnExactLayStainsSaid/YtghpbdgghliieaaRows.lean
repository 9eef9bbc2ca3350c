/-
  No cell of these rows narrows 'for every input' (looked for: loops, veiled, ifaces, maps, wideKeys, modest, calm, conditions, laid).
  DERIVED. THE GIVEN ROWS OF THIS SEAT. 7 by the template 'for every input the law returns true; each argument reads behind the call as it read before'; 0 by the template 'total and deterministic' (their statements: YtghpbdgghliieaaTotals.lean).
  GIVEN WITH THE SEED: the statements are not yours to turn. If you find one false, say at which input.
  Laid BY PROGRAM, IN A SANDBOX (cutbox-rows.mjs): the forced cells as the released guide's own fill.sh prints them over the translation e33627cf02b966e7… (all of the seat's roots in one cut). By AI agents, Wed Nov 11 2026. No macro, syntax, notation, axiom, sorry.
-/
import Derived.Test.YtghpbdgghliieaaChecked
import GoSem.Claim
import GoSem.ClaimJoined
import GoSem.ClaimMapViews
import Derived.JoinedTies
import Derived.KernelRfl
namespace Go.Proofs.Ytghpbdgghliieaa
/- THE CELL 'sum', in the pinned program and in every row, IS THE sha256 OF THE DUMP (.gsa) THAT YtghpbdgghliieaaProg.lean LOADS. Nothing in Lean hashes anything: it is a label: what it is worth is what the hold of that sum in a sandbox is worth. -/
noncomputable def Try.pinned : Pinned := { name := "ytghpbdgghliieaa", sum := "e33627cf02b966e75b87cf129ae6d6212a3131b96abcf52126d321dadfe403e3", checked := Try.checked }
namespace Rows
def none {H : Type} : Left H := { results := [], args := [] }

/-- 'laws.FnExactCanShare': WHATEVER THE INPUT: true; the input reads as it did. -/
def fnExactCanShareSpec : ChangeSpec := { name := "fnExactCanShare", fn := fun _ => fun
  | [d1, d2] => { results := [.lit (.bool true)], args := [d1, d2] }
  | _ => none }
def fnExactCanShareRow : OpenClaim := { program := "ytghpbdgghliieaa", sum := "e33627cf02b966e75b87cf129ae6d6212a3131b96abcf52126d321dadfe403e3", func := "loop.example/g03303/laws.FnExactCanShare", spec := "fnExactCanShare", apart := false }
def FnExactCanShareSaid : Prop := fnExactCanShareRow.holds Try.pinned (OpenSpec.ofChange fnExactCanShareSpec)

/-- ITS FALSE NEIGHBOUR: 'it returns false'. Refute it at one input. -/
def fnExactCanShareWrong : ChangeSpec := { name := "fnExactCanShare", fn := fun _ => fun
  | [d1, d2] => { results := [.lit (.bool false)], args := [d1, d2] }
  | _ => none }
def FnExactCanShareWrongFalsely : Prop := fnExactCanShareRow.holds Try.pinned (OpenSpec.ofChange fnExactCanShareWrong)

/-- 'laws.FnExactIsDarker': WHATEVER THE INPUT: true; the input reads as it did. -/
def fnExactIsDarkerSpec : ChangeSpec := { name := "fnExactIsDarker", fn := fun _ => fun
  | [d1, d2] => { results := [.lit (.bool true)], args := [d1, d2] }
  | _ => none }
def fnExactIsDarkerRow : OpenClaim := { program := "ytghpbdgghliieaa", sum := "e33627cf02b966e75b87cf129ae6d6212a3131b96abcf52126d321dadfe403e3", func := "loop.example/g03303/laws.FnExactIsDarker", spec := "fnExactIsDarker", apart := false }
def FnExactIsDarkerSaid : Prop := fnExactIsDarkerRow.holds Try.pinned (OpenSpec.ofChange fnExactIsDarkerSpec)

/-- ITS FALSE NEIGHBOUR: 'it returns false'. Refute it at one input. -/
def fnExactIsDarkerWrong : ChangeSpec := { name := "fnExactIsDarker", fn := fun _ => fun
  | [d1, d2] => { results := [.lit (.bool false)], args := [d1, d2] }
  | _ => none }
def FnExactIsDarkerWrongFalsely : Prop := fnExactIsDarkerRow.holds Try.pinned (OpenSpec.ofChange fnExactIsDarkerWrong)

/-- 'laws.FnExactMixStains': WHATEVER THE INPUT: true; the input reads as it did. -/
def fnExactMixStainsSpec : ChangeSpec := { name := "fnExactMixStains", fn := fun _ => fun
  | [d1, d2, d3] => { results := [.lit (.bool true)], args := [d1, d2, d3] }
  | _ => none }
def fnExactMixStainsRow : OpenClaim := { program := "ytghpbdgghliieaa", sum := "e33627cf02b966e75b87cf129ae6d6212a3131b96abcf52126d321dadfe403e3", func := "loop.example/g03303/laws.FnExactMixStains", spec := "fnExactMixStains", unfollowed := true, recurses := true, apart := false }
def FnExactMixStainsSaid : Prop := fnExactMixStainsRow.holds Try.pinned (OpenSpec.ofChange fnExactMixStainsSpec)

/-- ITS FALSE NEIGHBOUR: 'it returns false'. Refute it at one input. -/
def fnExactMixStainsWrong : ChangeSpec := { name := "fnExactMixStains", fn := fun _ => fun
  | [d1, d2, d3] => { results := [.lit (.bool false)], args := [d1, d2, d3] }
  | _ => none }
def FnExactMixStainsWrongFalsely : Prop := fnExactMixStainsRow.holds Try.pinned (OpenSpec.ofChange fnExactMixStainsWrong)

/-- 'laws.FnExactLayStains': WHATEVER THE INPUT: true; the input reads as it did. -/
def fnExactLayStainsSpec : ChangeSpec := { name := "fnExactLayStains", fn := fun _ => fun
  | [d1, d2] => { results := [.lit (.bool true)], args := [d1, d2] }
  | _ => none }
def fnExactLayStainsRow : OpenClaim := { program := "ytghpbdgghliieaa", sum := "e33627cf02b966e75b87cf129ae6d6212a3131b96abcf52126d321dadfe403e3", func := "loop.example/g03303/laws.FnExactLayStains", spec := "fnExactLayStains", unfollowed := true, recurses := true, apart := false }
def FnExactLayStainsSaid : Prop := fnExactLayStainsRow.holds Try.pinned (OpenSpec.ofChange fnExactLayStainsSpec)

/-- ITS FALSE NEIGHBOUR: 'it returns false'. Refute it at one input. -/
def fnExactLayStainsWrong : ChangeSpec := { name := "fnExactLayStains", fn := fun _ => fun
  | [d1, d2] => { results := [.lit (.bool false)], args := [d1, d2] }
  | _ => none }
def FnExactLayStainsWrongFalsely : Prop := fnExactLayStainsRow.holds Try.pinned (OpenSpec.ofChange fnExactLayStainsWrong)

/-- 'laws.FnExactSpotOf': WHATEVER THE INPUT: true; the input reads as it did. -/
def fnExactSpotOfSpec : ChangeSpec := { name := "fnExactSpotOf", fn := fun _ => fun
  | [d1, d2, d3] => { results := [.lit (.bool true)], args := [d1, d2, d3] }
  | _ => none }
def fnExactSpotOfRow : OpenClaim := { program := "ytghpbdgghliieaa", sum := "e33627cf02b966e75b87cf129ae6d6212a3131b96abcf52126d321dadfe403e3", func := "loop.example/g03303/laws.FnExactSpotOf", spec := "fnExactSpotOf", apart := false }
def FnExactSpotOfSaid : Prop := fnExactSpotOfRow.holds Try.pinned (OpenSpec.ofChange fnExactSpotOfSpec)

/-- ITS FALSE NEIGHBOUR: 'it returns false'. Refute it at one input. -/
def fnExactSpotOfWrong : ChangeSpec := { name := "fnExactSpotOf", fn := fun _ => fun
  | [d1, d2, d3] => { results := [.lit (.bool false)], args := [d1, d2, d3] }
  | _ => none }
def FnExactSpotOfWrongFalsely : Prop := fnExactSpotOfRow.holds Try.pinned (OpenSpec.ofChange fnExactSpotOfWrong)

/-- 'laws.FnExactIsInRoom': WHATEVER THE INPUT: true; the input reads as it did. -/
def fnExactIsInRoomSpec : ChangeSpec := { name := "fnExactIsInRoom", fn := fun _ => fun
  | [d1, d2, d3, d4] => { results := [.lit (.bool true)], args := [d1, d2, d3, d4] }
  | _ => none }
def fnExactIsInRoomRow : OpenClaim := { program := "ytghpbdgghliieaa", sum := "e33627cf02b966e75b87cf129ae6d6212a3131b96abcf52126d321dadfe403e3", func := "loop.example/g03303/laws.FnExactIsInRoom", spec := "fnExactIsInRoom", apart := false }
def FnExactIsInRoomSaid : Prop := fnExactIsInRoomRow.holds Try.pinned (OpenSpec.ofChange fnExactIsInRoomSpec)

/-- ITS FALSE NEIGHBOUR: 'it returns false'. Refute it at one input. -/
def fnExactIsInRoomWrong : ChangeSpec := { name := "fnExactIsInRoom", fn := fun _ => fun
  | [d1, d2, d3, d4] => { results := [.lit (.bool false)], args := [d1, d2, d3, d4] }
  | _ => none }
def FnExactIsInRoomWrongFalsely : Prop := fnExactIsInRoomRow.holds Try.pinned (OpenSpec.ofChange fnExactIsInRoomWrong)

/-- 'laws.FnExactCloudShare': WHATEVER THE INPUT: true; the input reads as it did. -/
def fnExactCloudShareSpec : ChangeSpec := { name := "fnExactCloudShare", fn := fun _ => fun
  | [d1, d2] => { results := [.lit (.bool true)], args := [d1, d2] }
  | _ => none }
def fnExactCloudShareRow : OpenClaim := { program := "ytghpbdgghliieaa", sum := "e33627cf02b966e75b87cf129ae6d6212a3131b96abcf52126d321dadfe403e3", func := "loop.example/g03303/laws.FnExactCloudShare", spec := "fnExactCloudShare", apart := false }
def FnExactCloudShareSaid : Prop := fnExactCloudShareRow.holds Try.pinned (OpenSpec.ofChange fnExactCloudShareSpec)

/-- ITS FALSE NEIGHBOUR: 'it returns false'. Refute it at one input. -/
def fnExactCloudShareWrong : ChangeSpec := { name := "fnExactCloudShare", fn := fun _ => fun
  | [d1, d2] => { results := [.lit (.bool false)], args := [d1, d2] }
  | _ => none }
def FnExactCloudShareWrongFalsely : Prop := fnExactCloudShareRow.holds Try.pinned (OpenSpec.ofChange fnExactCloudShareWrong)

/- THE SECOND FORM. 'bulk': how many values and letters a reading holds, each counted each time it is reached (what is shared counts as often as it is met; a slice's spare places count too). A statement '..UptoSaid' is the law's where the arguments, and the package variables that the reading takes, are together of bulk at most 1048576: NARROWER than '..Said'. Prove '..Said' where nothing that the law and all that it calls make is longer than what came in: it says more and counts as full. Else prove '..UptoSaid'. A law counts once. -/
mutual
def uptoBulk {H : Type} : DataW H → Nat
  | .lit (.string bytes) => bytes.length + 1
  | .lit _ => 1
  | .nil => 1
  | .ptr d => uptoBulk d + 1
  | .slice elems spare => uptoBulkAll elems + uptoBulkAll spare + 1
  | .agg parts => uptoBulkAll parts + 1
  | .iface _ d => uptoBulk d + 1
  | .map entries => uptoBulkEntries entries + 1
  | .held _ => 1
def uptoBulkAll {H : Type} : List (DataW H) → Nat
  | [] => 0
  | d :: r => uptoBulk d + uptoBulkAll r
def uptoBulkEntries {H : Type} : List (Lit × DataW H) → Nat
  | [] => 0
  | x :: r => uptoBulkEntry x + uptoBulkEntries r
def uptoBulkEntry {H : Type} : Lit × DataW H → Nat
  | (.string bytes, d) => bytes.length + uptoBulk d + 1
  | (_, d) => uptoBulk d + 1
 end
def uptoSmall : (H : Type) → List (DataW H) → Bool := fun _ ds => decide (uptoBulkAll ds ≤ 1048576)
def OpenSpec.upto (s : _root_.Go.ChangeSpec) : _root_.Go.OpenSpec := { _root_.Go.OpenSpec.ofChange s with cond := some uptoSmall }

/-- 'laws.FnExactCanShare', WHERE WHAT IT READS IS OF BULK AT MOST 1048576: true; the input reads as it did. -/
def fnExactCanShareUptoRow : OpenClaim := { program := "ytghpbdgghliieaa", sum := "e33627cf02b966e75b87cf129ae6d6212a3131b96abcf52126d321dadfe403e3", func := "loop.example/g03303/laws.FnExactCanShare", spec := "fnExactCanShare", apart := false, narrowed := true }
def FnExactCanShareUptoSaid : Prop := fnExactCanShareUptoRow.holds Try.pinned (OpenSpec.upto fnExactCanShareSpec)

/-- 'laws.FnExactIsDarker', WHERE WHAT IT READS IS OF BULK AT MOST 1048576: true; the input reads as it did. -/
def fnExactIsDarkerUptoRow : OpenClaim := { program := "ytghpbdgghliieaa", sum := "e33627cf02b966e75b87cf129ae6d6212a3131b96abcf52126d321dadfe403e3", func := "loop.example/g03303/laws.FnExactIsDarker", spec := "fnExactIsDarker", apart := false, narrowed := true }
def FnExactIsDarkerUptoSaid : Prop := fnExactIsDarkerUptoRow.holds Try.pinned (OpenSpec.upto fnExactIsDarkerSpec)

/-- 'laws.FnExactMixStains', WHERE WHAT IT READS IS OF BULK AT MOST 1048576: true; the input reads as it did. -/
def fnExactMixStainsUptoRow : OpenClaim := { program := "ytghpbdgghliieaa", sum := "e33627cf02b966e75b87cf129ae6d6212a3131b96abcf52126d321dadfe403e3", func := "loop.example/g03303/laws.FnExactMixStains", spec := "fnExactMixStains", unfollowed := true, recurses := true, apart := false, narrowed := true }
def FnExactMixStainsUptoSaid : Prop := fnExactMixStainsUptoRow.holds Try.pinned (OpenSpec.upto fnExactMixStainsSpec)

/-- 'laws.FnExactLayStains', WHERE WHAT IT READS IS OF BULK AT MOST 1048576: true; the input reads as it did. -/
def fnExactLayStainsUptoRow : OpenClaim := { program := "ytghpbdgghliieaa", sum := "e33627cf02b966e75b87cf129ae6d6212a3131b96abcf52126d321dadfe403e3", func := "loop.example/g03303/laws.FnExactLayStains", spec := "fnExactLayStains", unfollowed := true, recurses := true, apart := false, narrowed := true }
def FnExactLayStainsUptoSaid : Prop := fnExactLayStainsUptoRow.holds Try.pinned (OpenSpec.upto fnExactLayStainsSpec)

/-- 'laws.FnExactSpotOf', WHERE WHAT IT READS IS OF BULK AT MOST 1048576: true; the input reads as it did. -/
def fnExactSpotOfUptoRow : OpenClaim := { program := "ytghpbdgghliieaa", sum := "e33627cf02b966e75b87cf129ae6d6212a3131b96abcf52126d321dadfe403e3", func := "loop.example/g03303/laws.FnExactSpotOf", spec := "fnExactSpotOf", apart := false, narrowed := true }
def FnExactSpotOfUptoSaid : Prop := fnExactSpotOfUptoRow.holds Try.pinned (OpenSpec.upto fnExactSpotOfSpec)

/-- 'laws.FnExactIsInRoom', WHERE WHAT IT READS IS OF BULK AT MOST 1048576: true; the input reads as it did. -/
def fnExactIsInRoomUptoRow : OpenClaim := { program := "ytghpbdgghliieaa", sum := "e33627cf02b966e75b87cf129ae6d6212a3131b96abcf52126d321dadfe403e3", func := "loop.example/g03303/laws.FnExactIsInRoom", spec := "fnExactIsInRoom", apart := false, narrowed := true }
def FnExactIsInRoomUptoSaid : Prop := fnExactIsInRoomUptoRow.holds Try.pinned (OpenSpec.upto fnExactIsInRoomSpec)

/-- 'laws.FnExactCloudShare', WHERE WHAT IT READS IS OF BULK AT MOST 1048576: true; the input reads as it did. -/
def fnExactCloudShareUptoRow : OpenClaim := { program := "ytghpbdgghliieaa", sum := "e33627cf02b966e75b87cf129ae6d6212a3131b96abcf52126d321dadfe403e3", func := "loop.example/g03303/laws.FnExactCloudShare", spec := "fnExactCloudShare", apart := false, narrowed := true }
def FnExactCloudShareUptoSaid : Prop := fnExactCloudShareUptoRow.holds Try.pinned (OpenSpec.upto fnExactCloudShareSpec)

end Rows
end Go.Proofs.Ytghpbdgghliieaa
