/-
  DERIVED. GIVEN WITH THE SEED: THE CARDS: each row of YtkkpmpicaiflgaaDoorRows.lean that lists a variable, with what it lists TIED to the program's text (the seventh form; the later family's looks); each row that meets fmt, with fmt's text TOLD by the authors' own Lean function (tested against real Go, not proved from fmt's source: count such statements apart). THE CARD IS WHAT COUNTS. Prove the row's statement (the work); the ties are given (YtkkpmpicaiflgaaDoorTie.lean); close each card by the builder's one call (the guide's Derived/Test/ToyasCard.lean, 'card_holds'). Laid BY PROGRAM, IN A SANDBOX (cutbox-door.mjs). By AI agents, Wed Nov 11 2026. No macro, syntax, notation, axiom, sorry.
-/
import Derived.Test.YtkkpmpicaiflgaaDoorRows
import GoSem.ClaimSeven
namespace Go.Proofs.YtkkpmpicaiflgaaDoor
namespace Rows

/-- THE TIED CARD OF 'laws.FnYear'. -/
def fnYearCard : Claim7 := { stood := { row := fnYearRow, standIns := [], harness := (true, "13fc9c791332b47d15b038f51fceb0cf7335876e405f81ee7f4f504d9a78699c"), looks := false }, kinds := [], alts := [], laidByText := true, laidKinds := [.data], laidTests := true, laidLooks := .later }
def FnYearCardSaid : Prop := Claim7.holds Tryd.pinned (.plain (OpenSpec.ofChange fnYearSpec)) fnYearCard

/-- THE SECOND FORM's CARD OF 'laws.FnYear'. -/
def fnYearUptoCard : Claim7 := { stood := { row := fnYearUptoRow, standIns := [], harness := (true, "13fc9c791332b47d15b038f51fceb0cf7335876e405f81ee7f4f504d9a78699c"), looks := false }, kinds := [], alts := [], laidByText := true, laidKinds := [.data], laidTests := true, laidLooks := .later }
def FnYearUptoCardSaid : Prop := Claim7.holds Tryd.pinned (.plain (OpenSpec.upto fnYearSpec)) fnYearUptoCard
end Rows
end Go.Proofs.YtkkpmpicaiflgaaDoor
