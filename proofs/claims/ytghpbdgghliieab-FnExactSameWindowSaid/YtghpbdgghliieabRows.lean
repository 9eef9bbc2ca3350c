/-
  No cell of these rows narrows 'for every input' (looked for: loops, veiled, ifaces, maps, wideKeys, modest, calm, conditions, laid).
  DERIVED. THE GIVEN ROWS OF THIS SEAT. 9 by the template 'for every input the law returns true; each argument reads behind the call as it read before'; 0 by the template 'total and deterministic' (their statements: YtghpbdgghliieabTotals.lean).
  GIVEN WITH THE SEED: the statements are not yours to turn. If you find one false, say at which input.
  Laid BY PROGRAM, IN A SANDBOX (cutbox-rows.mjs): the forced cells as the released guide's own fill.sh prints them over the translation 17009236e34a958a… (all of the seat's roots in one cut). By AI agents, Wed Nov 11 2026. No macro, syntax, notation, axiom, sorry.
-/
import Derived.Test.YtghpbdgghliieabChecked
import GoSem.Claim
import GoSem.ClaimJoined
import GoSem.ClaimMapViews
import Derived.JoinedTies
import Derived.KernelRfl
namespace Go.Proofs.Ytghpbdgghliieab
/- THE CELL 'sum', in the pinned program and in every row, IS THE sha256 OF THE DUMP (.gsa) THAT YtghpbdgghliieabProg.lean LOADS. Nothing in Lean hashes anything: it is a label: what it is worth is what the hold of that sum in a sandbox is worth. -/
noncomputable def Try.pinned : Pinned := { name := "ytghpbdgghliieab", sum := "17009236e34a958a66fc28d48fbe6401b52a1fd56d2fa01e09babf8319d88607", checked := Try.checked }
namespace Rows
def none {H : Type} : Left H := { results := [], args := [] }

/-- 'laws.FnExactRecipeOk': WHATEVER THE INPUT: true; the input reads as it did. -/
def fnExactRecipeOkSpec : ChangeSpec := { name := "fnExactRecipeOk", fn := fun _ => fun
  | [d] => { results := [.lit (.bool true)], args := [d] }
  | _ => none }
def fnExactRecipeOkRow : OpenClaim := { program := "ytghpbdgghliieab", sum := "17009236e34a958a66fc28d48fbe6401b52a1fd56d2fa01e09babf8319d88607", func := "loop.example/g03303/laws.FnExactRecipeOk", spec := "fnExactRecipeOk", apart := false }
def FnExactRecipeOkSaid : Prop := fnExactRecipeOkRow.holds Try.pinned (OpenSpec.ofChange fnExactRecipeOkSpec)

/-- ITS FALSE NEIGHBOUR: 'it returns false'. Refute it at one input. -/
def fnExactRecipeOkWrong : ChangeSpec := { name := "fnExactRecipeOk", fn := fun _ => fun
  | [d] => { results := [.lit (.bool false)], args := [d] }
  | _ => none }
def FnExactRecipeOkWrongFalsely : Prop := fnExactRecipeOkRow.holds Try.pinned (OpenSpec.ofChange fnExactRecipeOkWrong)

/-- 'laws.FnExactDistanceOf': WHATEVER THE INPUT: true; the input reads as it did. -/
def fnExactDistanceOfSpec : ChangeSpec := { name := "fnExactDistanceOf", fn := fun _ => fun
  | [d1, d2] => { results := [.lit (.bool true)], args := [d1, d2] }
  | _ => none }
def fnExactDistanceOfRow : OpenClaim := { program := "ytghpbdgghliieab", sum := "17009236e34a958a66fc28d48fbe6401b52a1fd56d2fa01e09babf8319d88607", func := "loop.example/g03303/laws.FnExactDistanceOf", spec := "fnExactDistanceOf", apart := false }
def FnExactDistanceOfSaid : Prop := fnExactDistanceOfRow.holds Try.pinned (OpenSpec.ofChange fnExactDistanceOfSpec)

/-- ITS FALSE NEIGHBOUR: 'it returns false'. Refute it at one input. -/
def fnExactDistanceOfWrong : ChangeSpec := { name := "fnExactDistanceOf", fn := fun _ => fun
  | [d1, d2] => { results := [.lit (.bool false)], args := [d1, d2] }
  | _ => none }
def FnExactDistanceOfWrongFalsely : Prop := fnExactDistanceOfRow.holds Try.pinned (OpenSpec.ofChange fnExactDistanceOfWrong)

/-- 'laws.FnExactTariffOk': WHATEVER THE INPUT: true; the input reads as it did. -/
def fnExactTariffOkSpec : ChangeSpec := { name := "fnExactTariffOk", fn := fun _ => fun
  | [d] => { results := [.lit (.bool true)], args := [d] }
  | _ => none }
def fnExactTariffOkRow : OpenClaim := { program := "ytghpbdgghliieab", sum := "17009236e34a958a66fc28d48fbe6401b52a1fd56d2fa01e09babf8319d88607", func := "loop.example/g03303/laws.FnExactTariffOk", spec := "fnExactTariffOk", apart := false }
def FnExactTariffOkSaid : Prop := fnExactTariffOkRow.holds Try.pinned (OpenSpec.ofChange fnExactTariffOkSpec)

/-- ITS FALSE NEIGHBOUR: 'it returns false'. Refute it at one input. -/
def fnExactTariffOkWrong : ChangeSpec := { name := "fnExactTariffOk", fn := fun _ => fun
  | [d] => { results := [.lit (.bool false)], args := [d] }
  | _ => none }
def FnExactTariffOkWrongFalsely : Prop := fnExactTariffOkRow.holds Try.pinned (OpenSpec.ofChange fnExactTariffOkWrong)

/-- 'laws.FnExactActOk': WHATEVER THE INPUT: true; the input reads as it did. -/
def fnExactActOkSpec : ChangeSpec := { name := "fnExactActOk", fn := fun _ => fun
  | [d] => { results := [.lit (.bool true)], args := [d] }
  | _ => none }
def fnExactActOkRow : OpenClaim := { program := "ytghpbdgghliieab", sum := "17009236e34a958a66fc28d48fbe6401b52a1fd56d2fa01e09babf8319d88607", func := "loop.example/g03303/laws.FnExactActOk", spec := "fnExactActOk", apart := false }
def FnExactActOkSaid : Prop := fnExactActOkRow.holds Try.pinned (OpenSpec.ofChange fnExactActOkSpec)

/-- ITS FALSE NEIGHBOUR: 'it returns false'. Refute it at one input. -/
def fnExactActOkWrong : ChangeSpec := { name := "fnExactActOk", fn := fun _ => fun
  | [d] => { results := [.lit (.bool false)], args := [d] }
  | _ => none }
def FnExactActOkWrongFalsely : Prop := fnExactActOkRow.holds Try.pinned (OpenSpec.ofChange fnExactActOkWrong)

/-- 'laws.FnExactInstalments': WHATEVER THE INPUT: true; the input reads as it did. -/
def fnExactInstalmentsSpec : ChangeSpec := { name := "fnExactInstalments", fn := fun _ => fun
  | [d1, d2] => { results := [.lit (.bool true)], args := [d1, d2] }
  | _ => none }
def fnExactInstalmentsRow : OpenClaim := { program := "ytghpbdgghliieab", sum := "17009236e34a958a66fc28d48fbe6401b52a1fd56d2fa01e09babf8319d88607", func := "loop.example/g03303/laws.FnExactInstalments", spec := "fnExactInstalments", apart := false }
def FnExactInstalmentsSaid : Prop := fnExactInstalmentsRow.holds Try.pinned (OpenSpec.ofChange fnExactInstalmentsSpec)

/-- ITS FALSE NEIGHBOUR: 'it returns false'. Refute it at one input. -/
def fnExactInstalmentsWrong : ChangeSpec := { name := "fnExactInstalments", fn := fun _ => fun
  | [d1, d2] => { results := [.lit (.bool false)], args := [d1, d2] }
  | _ => none }
def FnExactInstalmentsWrongFalsely : Prop := fnExactInstalmentsRow.holds Try.pinned (OpenSpec.ofChange fnExactInstalmentsWrong)

/-- 'laws.FnExactCrateBound': WHATEVER THE INPUT: true; the input reads as it did. -/
def fnExactCrateBoundSpec : ChangeSpec := { name := "fnExactCrateBound", fn := fun _ => fun
  | [d1, d2] => { results := [.lit (.bool true)], args := [d1, d2] }
  | _ => none }
def fnExactCrateBoundRow : OpenClaim := { program := "ytghpbdgghliieab", sum := "17009236e34a958a66fc28d48fbe6401b52a1fd56d2fa01e09babf8319d88607", func := "loop.example/g03303/laws.FnExactCrateBound", spec := "fnExactCrateBound", apart := false }
def FnExactCrateBoundSaid : Prop := fnExactCrateBoundRow.holds Try.pinned (OpenSpec.ofChange fnExactCrateBoundSpec)

/-- ITS FALSE NEIGHBOUR: 'it returns false'. Refute it at one input. -/
def fnExactCrateBoundWrong : ChangeSpec := { name := "fnExactCrateBound", fn := fun _ => fun
  | [d1, d2] => { results := [.lit (.bool false)], args := [d1, d2] }
  | _ => none }
def FnExactCrateBoundWrongFalsely : Prop := fnExactCrateBoundRow.holds Try.pinned (OpenSpec.ofChange fnExactCrateBoundWrong)

/-- 'laws.FnExactReplacedAfter': WHATEVER THE INPUT: true; the input reads as it did. -/
def fnExactReplacedAfterSpec : ChangeSpec := { name := "fnExactReplacedAfter", fn := fun _ => fun
  | [d1, d2] => { results := [.lit (.bool true)], args := [d1, d2] }
  | _ => none }
def fnExactReplacedAfterRow : OpenClaim := { program := "ytghpbdgghliieab", sum := "17009236e34a958a66fc28d48fbe6401b52a1fd56d2fa01e09babf8319d88607", func := "loop.example/g03303/laws.FnExactReplacedAfter", spec := "fnExactReplacedAfter", apart := false }
def FnExactReplacedAfterSaid : Prop := fnExactReplacedAfterRow.holds Try.pinned (OpenSpec.ofChange fnExactReplacedAfterSpec)

/-- ITS FALSE NEIGHBOUR: 'it returns false'. Refute it at one input. -/
def fnExactReplacedAfterWrong : ChangeSpec := { name := "fnExactReplacedAfter", fn := fun _ => fun
  | [d1, d2] => { results := [.lit (.bool false)], args := [d1, d2] }
  | _ => none }
def FnExactReplacedAfterWrongFalsely : Prop := fnExactReplacedAfterRow.holds Try.pinned (OpenSpec.ofChange fnExactReplacedAfterWrong)

/-- 'laws.FnExactDeepestNode': WHATEVER THE INPUT: true; the input reads as it did. -/
def fnExactDeepestNodeSpec : ChangeSpec := { name := "fnExactDeepestNode", fn := fun _ => fun
  | [d1, d2, d3] => { results := [.lit (.bool true)], args := [d1, d2, d3] }
  | _ => none }
def fnExactDeepestNodeRow : OpenClaim := { program := "ytghpbdgghliieab", sum := "17009236e34a958a66fc28d48fbe6401b52a1fd56d2fa01e09babf8319d88607", func := "loop.example/g03303/laws.FnExactDeepestNode", spec := "fnExactDeepestNode", apart := false }
def FnExactDeepestNodeSaid : Prop := fnExactDeepestNodeRow.holds Try.pinned (OpenSpec.ofChange fnExactDeepestNodeSpec)

/-- ITS FALSE NEIGHBOUR: 'it returns false'. Refute it at one input. -/
def fnExactDeepestNodeWrong : ChangeSpec := { name := "fnExactDeepestNode", fn := fun _ => fun
  | [d1, d2, d3] => { results := [.lit (.bool false)], args := [d1, d2, d3] }
  | _ => none }
def FnExactDeepestNodeWrongFalsely : Prop := fnExactDeepestNodeRow.holds Try.pinned (OpenSpec.ofChange fnExactDeepestNodeWrong)

/-- 'laws.FnExactSameWindow': WHATEVER THE INPUT: true; the input reads as it did. -/
def fnExactSameWindowSpec : ChangeSpec := { name := "fnExactSameWindow", fn := fun _ => fun
  | [d1, d2] => { results := [.lit (.bool true)], args := [d1, d2] }
  | _ => none }
def fnExactSameWindowRow : OpenClaim := { program := "ytghpbdgghliieab", sum := "17009236e34a958a66fc28d48fbe6401b52a1fd56d2fa01e09babf8319d88607", func := "loop.example/g03303/laws.FnExactSameWindow", spec := "fnExactSameWindow", apart := false }
def FnExactSameWindowSaid : Prop := fnExactSameWindowRow.holds Try.pinned (OpenSpec.ofChange fnExactSameWindowSpec)

/-- ITS FALSE NEIGHBOUR: 'it returns false'. Refute it at one input. -/
def fnExactSameWindowWrong : ChangeSpec := { name := "fnExactSameWindow", fn := fun _ => fun
  | [d1, d2] => { results := [.lit (.bool false)], args := [d1, d2] }
  | _ => none }
def FnExactSameWindowWrongFalsely : Prop := fnExactSameWindowRow.holds Try.pinned (OpenSpec.ofChange fnExactSameWindowWrong)

/- THE SECOND FORM. 'bulk': how many values and letters a reading holds, each counted each time it is reached (what is shared counts as often as it is met; a slice's spare places count too). A statement '..UptoSaid' is the law's where the arguments, and the package variables that the reading takes, are together of bulk at most 1048576: NARROWER than '..Said'. Prove '..Said' where nothing that the law and all that it calls make is longer than what came in: it says more and counts as full. Else prove '..UptoSaid'. A law counts once. -/
mutual
def uptoBulk {H : Type} : DataW H → Nat
  | .lit (.string bytes) => bytes.length + 1
  | .lit _ => 1
  | .nil => 1
  | .ptr d => uptoBulk d + 1
  | .slice elems spare => uptoBulkAll elems + uptoBulkAll spare + 1
  | .agg parts => uptoBulkAll parts + 1
  | .iface _ d => uptoBulk d + 1
  | .map entries => uptoBulkEntries entries + 1
  | .held _ => 1
def uptoBulkAll {H : Type} : List (DataW H) → Nat
  | [] => 0
  | d :: r => uptoBulk d + uptoBulkAll r
def uptoBulkEntries {H : Type} : List (Lit × DataW H) → Nat
  | [] => 0
  | x :: r => uptoBulkEntry x + uptoBulkEntries r
def uptoBulkEntry {H : Type} : Lit × DataW H → Nat
  | (.string bytes, d) => bytes.length + uptoBulk d + 1
  | (_, d) => uptoBulk d + 1
 end
def uptoSmall : (H : Type) → List (DataW H) → Bool := fun _ ds => decide (uptoBulkAll ds ≤ 1048576)
def OpenSpec.upto (s : _root_.Go.ChangeSpec) : _root_.Go.OpenSpec := { _root_.Go.OpenSpec.ofChange s with cond := some uptoSmall }

/-- 'laws.FnExactRecipeOk', WHERE WHAT IT READS IS OF BULK AT MOST 1048576: true; the input reads as it did. -/
def fnExactRecipeOkUptoRow : OpenClaim := { program := "ytghpbdgghliieab", sum := "17009236e34a958a66fc28d48fbe6401b52a1fd56d2fa01e09babf8319d88607", func := "loop.example/g03303/laws.FnExactRecipeOk", spec := "fnExactRecipeOk", apart := false, narrowed := true }
def FnExactRecipeOkUptoSaid : Prop := fnExactRecipeOkUptoRow.holds Try.pinned (OpenSpec.upto fnExactRecipeOkSpec)

/-- 'laws.FnExactDistanceOf', WHERE WHAT IT READS IS OF BULK AT MOST 1048576: true; the input reads as it did. -/
def fnExactDistanceOfUptoRow : OpenClaim := { program := "ytghpbdgghliieab", sum := "17009236e34a958a66fc28d48fbe6401b52a1fd56d2fa01e09babf8319d88607", func := "loop.example/g03303/laws.FnExactDistanceOf", spec := "fnExactDistanceOf", apart := false, narrowed := true }
def FnExactDistanceOfUptoSaid : Prop := fnExactDistanceOfUptoRow.holds Try.pinned (OpenSpec.upto fnExactDistanceOfSpec)

/-- 'laws.FnExactTariffOk', WHERE WHAT IT READS IS OF BULK AT MOST 1048576: true; the input reads as it did. -/
def fnExactTariffOkUptoRow : OpenClaim := { program := "ytghpbdgghliieab", sum := "17009236e34a958a66fc28d48fbe6401b52a1fd56d2fa01e09babf8319d88607", func := "loop.example/g03303/laws.FnExactTariffOk", spec := "fnExactTariffOk", apart := false, narrowed := true }
def FnExactTariffOkUptoSaid : Prop := fnExactTariffOkUptoRow.holds Try.pinned (OpenSpec.upto fnExactTariffOkSpec)

/-- 'laws.FnExactActOk', WHERE WHAT IT READS IS OF BULK AT MOST 1048576: true; the input reads as it did. -/
def fnExactActOkUptoRow : OpenClaim := { program := "ytghpbdgghliieab", sum := "17009236e34a958a66fc28d48fbe6401b52a1fd56d2fa01e09babf8319d88607", func := "loop.example/g03303/laws.FnExactActOk", spec := "fnExactActOk", apart := false, narrowed := true }
def FnExactActOkUptoSaid : Prop := fnExactActOkUptoRow.holds Try.pinned (OpenSpec.upto fnExactActOkSpec)

/-- 'laws.FnExactInstalments', WHERE WHAT IT READS IS OF BULK AT MOST 1048576: true; the input reads as it did. -/
def fnExactInstalmentsUptoRow : OpenClaim := { program := "ytghpbdgghliieab", sum := "17009236e34a958a66fc28d48fbe6401b52a1fd56d2fa01e09babf8319d88607", func := "loop.example/g03303/laws.FnExactInstalments", spec := "fnExactInstalments", apart := false, narrowed := true }
def FnExactInstalmentsUptoSaid : Prop := fnExactInstalmentsUptoRow.holds Try.pinned (OpenSpec.upto fnExactInstalmentsSpec)

/-- 'laws.FnExactCrateBound', WHERE WHAT IT READS IS OF BULK AT MOST 1048576: true; the input reads as it did. -/
def fnExactCrateBoundUptoRow : OpenClaim := { program := "ytghpbdgghliieab", sum := "17009236e34a958a66fc28d48fbe6401b52a1fd56d2fa01e09babf8319d88607", func := "loop.example/g03303/laws.FnExactCrateBound", spec := "fnExactCrateBound", apart := false, narrowed := true }
def FnExactCrateBoundUptoSaid : Prop := fnExactCrateBoundUptoRow.holds Try.pinned (OpenSpec.upto fnExactCrateBoundSpec)

/-- 'laws.FnExactReplacedAfter', WHERE WHAT IT READS IS OF BULK AT MOST 1048576: true; the input reads as it did. -/
def fnExactReplacedAfterUptoRow : OpenClaim := { program := "ytghpbdgghliieab", sum := "17009236e34a958a66fc28d48fbe6401b52a1fd56d2fa01e09babf8319d88607", func := "loop.example/g03303/laws.FnExactReplacedAfter", spec := "fnExactReplacedAfter", apart := false, narrowed := true }
def FnExactReplacedAfterUptoSaid : Prop := fnExactReplacedAfterUptoRow.holds Try.pinned (OpenSpec.upto fnExactReplacedAfterSpec)

/-- 'laws.FnExactDeepestNode', WHERE WHAT IT READS IS OF BULK AT MOST 1048576: true; the input reads as it did. -/
def fnExactDeepestNodeUptoRow : OpenClaim := { program := "ytghpbdgghliieab", sum := "17009236e34a958a66fc28d48fbe6401b52a1fd56d2fa01e09babf8319d88607", func := "loop.example/g03303/laws.FnExactDeepestNode", spec := "fnExactDeepestNode", apart := false, narrowed := true }
def FnExactDeepestNodeUptoSaid : Prop := fnExactDeepestNodeUptoRow.holds Try.pinned (OpenSpec.upto fnExactDeepestNodeSpec)

/-- 'laws.FnExactSameWindow', WHERE WHAT IT READS IS OF BULK AT MOST 1048576: true; the input reads as it did. -/
def fnExactSameWindowUptoRow : OpenClaim := { program := "ytghpbdgghliieab", sum := "17009236e34a958a66fc28d48fbe6401b52a1fd56d2fa01e09babf8319d88607", func := "loop.example/g03303/laws.FnExactSameWindow", spec := "fnExactSameWindow", apart := false, narrowed := true }
def FnExactSameWindowUptoSaid : Prop := fnExactSameWindowUptoRow.holds Try.pinned (OpenSpec.upto fnExactSameWindowSpec)

end Rows
end Go.Proofs.Ytghpbdgghliieab
