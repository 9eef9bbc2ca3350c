/-
  No cell of these rows narrows 'for every input' (looked for: loops, veiled, ifaces, maps, wideKeys, modest, calm, conditions, laid).
  DERIVED. THE GIVEN ROWS OF THIS SEAT. 5 by the template 'for every input the law returns true; each argument reads behind the call as it read before'; 0 by the template 'total and deterministic' (their statements: YtmcbbjobjogkmabGreatTotals.lean).
  GIVEN WITH THE SEED: the statements are not yours to turn. If you find one false, say at which input.
  Laid BY PROGRAM, IN A SANDBOX (cutbox-rows.mjs): the forced cells as the released guide's own fill.sh prints them over the translation ecf3cc781bfd99f1… (all of the seat's roots in one cut). By AI agents, Wed Nov 11 2026. No macro, syntax, notation, axiom, sorry.
-/
import Derived.Test.YtmcbbjobjogkmabGreatChecked
import GoSem.Claim
import GoSem.ClaimJoined
import GoSem.ClaimMapViews
import Derived.JoinedTies
import Derived.KernelRfl
namespace Go.Proofs.YtmcbbjobjogkmabGreat
/- THE CELL 'sum', in the pinned program and in every row, IS THE sha256 OF THE DUMP (.gsa) THAT YtmcbbjobjogkmabGreatProg.lean LOADS. Nothing in Lean hashes anything: it is a label: what it is worth is what the hold of that sum in a sandbox is worth. -/
noncomputable def Tryz.pinned : Pinned := { name := "ytmcbbjobjogkmabgreat", sum := "ecf3cc781bfd99f14cae00074a778ed7e288a61f0d7382218e49be6e7bf1db24", checked := Tryz.checked }
namespace Rows
def none {H : Type} : Left H := { results := [], args := [] }

/-- 'laws.FnExactColorWith': WHATEVER THE INPUT: true; the input reads as it did. -/
def fnExactColorWithSpec : ChangeSpec := { name := "fnExactColorWith", fn := fun _ => fun
  | [d1, d2] => { results := [.lit (.bool true)], args := [d1, d2] }
  | _ => none }
def fnExactColorWithRow : OpenClaim := { program := "ytmcbbjobjogkmabgreat", sum := "ecf3cc781bfd99f14cae00074a778ed7e288a61f0d7382218e49be6e7bf1db24", func := "loop.example/g03303/laws.FnExactColorWith", spec := "fnExactColorWith", unfollowed := true, recurses := true, apart := false }
def FnExactColorWithSaid : Prop := fnExactColorWithRow.holds Tryz.pinned (OpenSpec.ofChange fnExactColorWithSpec)

/-- ITS FALSE NEIGHBOUR: 'it returns false'. Refute it at one input. -/
def fnExactColorWithWrong : ChangeSpec := { name := "fnExactColorWith", fn := fun _ => fun
  | [d1, d2] => { results := [.lit (.bool false)], args := [d1, d2] }
  | _ => none }
def FnExactColorWithWrongFalsely : Prop := fnExactColorWithRow.holds Tryz.pinned (OpenSpec.ofChange fnExactColorWithWrong)

/-- 'laws.FnExactFewestColors': WHATEVER THE INPUT: true; the input reads as it did. -/
def fnExactFewestColorsSpec : ChangeSpec := { name := "fnExactFewestColors", fn := fun _ => fun
  | [d] => { results := [.lit (.bool true)], args := [d] }
  | _ => none }
def fnExactFewestColorsRow : OpenClaim := { program := "ytmcbbjobjogkmabgreat", sum := "ecf3cc781bfd99f14cae00074a778ed7e288a61f0d7382218e49be6e7bf1db24", func := "loop.example/g03303/laws.FnExactFewestColors", spec := "fnExactFewestColors", unfollowed := true, recurses := true, apart := false }
def FnExactFewestColorsSaid : Prop := fnExactFewestColorsRow.holds Tryz.pinned (OpenSpec.ofChange fnExactFewestColorsSpec)

/-- ITS FALSE NEIGHBOUR: 'it returns false'. Refute it at one input. -/
def fnExactFewestColorsWrong : ChangeSpec := { name := "fnExactFewestColors", fn := fun _ => fun
  | [d] => { results := [.lit (.bool false)], args := [d] }
  | _ => none }
def FnExactFewestColorsWrongFalsely : Prop := fnExactFewestColorsRow.holds Tryz.pinned (OpenSpec.ofChange fnExactFewestColorsWrong)

/-- 'laws.FnExactFillWishes': WHATEVER THE INPUT: true; the input reads as it did. -/
def fnExactFillWishesSpec : ChangeSpec := { name := "fnExactFillWishes", fn := fun _ => fun
  | [d1, d2, d3] => { results := [.lit (.bool true)], args := [d1, d2, d3] }
  | _ => none }
def fnExactFillWishesRow : OpenClaim := { program := "ytmcbbjobjogkmabgreat", sum := "ecf3cc781bfd99f14cae00074a778ed7e288a61f0d7382218e49be6e7bf1db24", func := "loop.example/g03303/laws.FnExactFillWishes", spec := "fnExactFillWishes", unfollowed := true, recurses := true, apart := false }
def FnExactFillWishesSaid : Prop := fnExactFillWishesRow.holds Tryz.pinned (OpenSpec.ofChange fnExactFillWishesSpec)

/-- ITS FALSE NEIGHBOUR: 'it returns false'. Refute it at one input. -/
def fnExactFillWishesWrong : ChangeSpec := { name := "fnExactFillWishes", fn := fun _ => fun
  | [d1, d2, d3] => { results := [.lit (.bool false)], args := [d1, d2, d3] }
  | _ => none }
def FnExactFillWishesWrongFalsely : Prop := fnExactFillWishesRow.holds Tryz.pinned (OpenSpec.ofChange fnExactFillWishesWrong)

/-- 'laws.FnExactForcedFaces': WHATEVER THE INPUT: true; the input reads as it did. -/
def fnExactForcedFacesSpec : ChangeSpec := { name := "fnExactForcedFaces", fn := fun _ => fun
  | [d1, d2, d3] => { results := [.lit (.bool true)], args := [d1, d2, d3] }
  | _ => none }
def fnExactForcedFacesRow : OpenClaim := { program := "ytmcbbjobjogkmabgreat", sum := "ecf3cc781bfd99f14cae00074a778ed7e288a61f0d7382218e49be6e7bf1db24", func := "loop.example/g03303/laws.FnExactForcedFaces", spec := "fnExactForcedFaces", unfollowed := true, recurses := true, apart := false }
def FnExactForcedFacesSaid : Prop := fnExactForcedFacesRow.holds Tryz.pinned (OpenSpec.ofChange fnExactForcedFacesSpec)

/-- ITS FALSE NEIGHBOUR: 'it returns false'. Refute it at one input. -/
def fnExactForcedFacesWrong : ChangeSpec := { name := "fnExactForcedFaces", fn := fun _ => fun
  | [d1, d2, d3] => { results := [.lit (.bool false)], args := [d1, d2, d3] }
  | _ => none }
def FnExactForcedFacesWrongFalsely : Prop := fnExactForcedFacesRow.holds Tryz.pinned (OpenSpec.ofChange fnExactForcedFacesWrong)

/-- 'laws.FnExactBadWishes': WHATEVER THE INPUT: true; the input reads as it did. -/
def fnExactBadWishesSpec : ChangeSpec := { name := "fnExactBadWishes", fn := fun _ => fun
  | [d1, d2, d3] => { results := [.lit (.bool true)], args := [d1, d2, d3] }
  | _ => none }
def fnExactBadWishesRow : OpenClaim := { program := "ytmcbbjobjogkmabgreat", sum := "ecf3cc781bfd99f14cae00074a778ed7e288a61f0d7382218e49be6e7bf1db24", func := "loop.example/g03303/laws.FnExactBadWishes", spec := "fnExactBadWishes", unfollowed := true, recurses := true, apart := false }
def FnExactBadWishesSaid : Prop := fnExactBadWishesRow.holds Tryz.pinned (OpenSpec.ofChange fnExactBadWishesSpec)

/-- ITS FALSE NEIGHBOUR: 'it returns false'. Refute it at one input. -/
def fnExactBadWishesWrong : ChangeSpec := { name := "fnExactBadWishes", fn := fun _ => fun
  | [d1, d2, d3] => { results := [.lit (.bool false)], args := [d1, d2, d3] }
  | _ => none }
def FnExactBadWishesWrongFalsely : Prop := fnExactBadWishesRow.holds Tryz.pinned (OpenSpec.ofChange fnExactBadWishesWrong)

/- THE SECOND FORM. 'bulk': how many values and letters a reading holds, each counted each time it is reached (what is shared counts as often as it is met; a slice's spare places count too). A statement '..UptoSaid' is the law's where the arguments, and the package variables that the reading takes, are together of bulk at most 1048576: NARROWER than '..Said'. Prove '..Said' where nothing that the law and all that it calls make is longer than what came in: it says more and counts as full. Else prove '..UptoSaid'. A law counts once. -/
mutual
def uptoBulk {H : Type} : DataW H → Nat
  | .lit (.string bytes) => bytes.length + 1
  | .lit _ => 1
  | .nil => 1
  | .ptr d => uptoBulk d + 1
  | .slice elems spare => uptoBulkAll elems + uptoBulkAll spare + 1
  | .agg parts => uptoBulkAll parts + 1
  | .iface _ d => uptoBulk d + 1
  | .map entries => uptoBulkEntries entries + 1
  | .held _ => 1
def uptoBulkAll {H : Type} : List (DataW H) → Nat
  | [] => 0
  | d :: r => uptoBulk d + uptoBulkAll r
def uptoBulkEntries {H : Type} : List (Lit × DataW H) → Nat
  | [] => 0
  | x :: r => uptoBulkEntry x + uptoBulkEntries r
def uptoBulkEntry {H : Type} : Lit × DataW H → Nat
  | (.string bytes, d) => bytes.length + uptoBulk d + 1
  | (_, d) => uptoBulk d + 1
 end
def uptoSmall : (H : Type) → List (DataW H) → Bool := fun _ ds => decide (uptoBulkAll ds ≤ 1048576)
def OpenSpec.upto (s : _root_.Go.ChangeSpec) : _root_.Go.OpenSpec := { _root_.Go.OpenSpec.ofChange s with cond := some uptoSmall }

/-- 'laws.FnExactColorWith', WHERE WHAT IT READS IS OF BULK AT MOST 1048576: true; the input reads as it did. -/
def fnExactColorWithUptoRow : OpenClaim := { program := "ytmcbbjobjogkmabgreat", sum := "ecf3cc781bfd99f14cae00074a778ed7e288a61f0d7382218e49be6e7bf1db24", func := "loop.example/g03303/laws.FnExactColorWith", spec := "fnExactColorWith", unfollowed := true, recurses := true, apart := false, narrowed := true }
def FnExactColorWithUptoSaid : Prop := fnExactColorWithUptoRow.holds Tryz.pinned (OpenSpec.upto fnExactColorWithSpec)

/-- 'laws.FnExactFewestColors', WHERE WHAT IT READS IS OF BULK AT MOST 1048576: true; the input reads as it did. -/
def fnExactFewestColorsUptoRow : OpenClaim := { program := "ytmcbbjobjogkmabgreat", sum := "ecf3cc781bfd99f14cae00074a778ed7e288a61f0d7382218e49be6e7bf1db24", func := "loop.example/g03303/laws.FnExactFewestColors", spec := "fnExactFewestColors", unfollowed := true, recurses := true, apart := false, narrowed := true }
def FnExactFewestColorsUptoSaid : Prop := fnExactFewestColorsUptoRow.holds Tryz.pinned (OpenSpec.upto fnExactFewestColorsSpec)

/-- 'laws.FnExactFillWishes', WHERE WHAT IT READS IS OF BULK AT MOST 1048576: true; the input reads as it did. -/
def fnExactFillWishesUptoRow : OpenClaim := { program := "ytmcbbjobjogkmabgreat", sum := "ecf3cc781bfd99f14cae00074a778ed7e288a61f0d7382218e49be6e7bf1db24", func := "loop.example/g03303/laws.FnExactFillWishes", spec := "fnExactFillWishes", unfollowed := true, recurses := true, apart := false, narrowed := true }
def FnExactFillWishesUptoSaid : Prop := fnExactFillWishesUptoRow.holds Tryz.pinned (OpenSpec.upto fnExactFillWishesSpec)

/-- 'laws.FnExactForcedFaces', WHERE WHAT IT READS IS OF BULK AT MOST 1048576: true; the input reads as it did. -/
def fnExactForcedFacesUptoRow : OpenClaim := { program := "ytmcbbjobjogkmabgreat", sum := "ecf3cc781bfd99f14cae00074a778ed7e288a61f0d7382218e49be6e7bf1db24", func := "loop.example/g03303/laws.FnExactForcedFaces", spec := "fnExactForcedFaces", unfollowed := true, recurses := true, apart := false, narrowed := true }
def FnExactForcedFacesUptoSaid : Prop := fnExactForcedFacesUptoRow.holds Tryz.pinned (OpenSpec.upto fnExactForcedFacesSpec)

/-- 'laws.FnExactBadWishes', WHERE WHAT IT READS IS OF BULK AT MOST 1048576: true; the input reads as it did. -/
def fnExactBadWishesUptoRow : OpenClaim := { program := "ytmcbbjobjogkmabgreat", sum := "ecf3cc781bfd99f14cae00074a778ed7e288a61f0d7382218e49be6e7bf1db24", func := "loop.example/g03303/laws.FnExactBadWishes", spec := "fnExactBadWishes", unfollowed := true, recurses := true, apart := false, narrowed := true }
def FnExactBadWishesUptoSaid : Prop := fnExactBadWishesUptoRow.holds Tryz.pinned (OpenSpec.upto fnExactBadWishesSpec)

end Rows
end Go.Proofs.YtmcbbjobjogkmabGreat
