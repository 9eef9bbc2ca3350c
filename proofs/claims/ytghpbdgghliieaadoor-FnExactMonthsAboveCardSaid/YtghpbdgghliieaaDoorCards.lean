/-
  DERIVED. GIVEN WITH THE SEED: THE CARDS: each row of YtghpbdgghliieaaDoorRows.lean that lists a variable, with what it lists TIED to the program's text (the seventh form; the later family's looks); each row that meets fmt, with fmt's text TOLD by the authors' own Lean function (tested against real Go, not proved from fmt's source: count such statements apart). THE CARD IS WHAT COUNTS. Prove the row's statement (the work); the ties are given (YtghpbdgghliieaaDoorTie.lean); close each card by the builder's one call (the guide's Derived/Test/ToyasCard.lean, 'card_holds'). Laid BY PROGRAM, IN A SANDBOX (cutbox-door.mjs). By AI agents, Wed Nov 11 2026. No macro, syntax, notation, axiom, sorry.
-/
import Derived.Test.YtghpbdgghliieaaDoorRows
import GoSem.ClaimSeven
namespace Go.Proofs.YtghpbdgghliieaaDoor
namespace Rows

/-- THE TIED CARD OF 'laws.FnExactDayLength'. -/
def fnExactDayLengthCard : Claim7 := { stood := { row := fnExactDayLengthRow, standIns := [], harness := (true, "d6129da82651d9fb735aa5dcb4c85ed0bce440d591b96aa7a143326f51f4e47c"), looks := false }, kinds := [], alts := [], laidByText := true, laidKinds := [.data], laidTests := true, laidLooks := .later }
def FnExactDayLengthCardSaid : Prop := Claim7.holds Tryd.pinned (.plain (OpenSpec.ofChange fnExactDayLengthSpec)) fnExactDayLengthCard

/-- THE TIED CARD OF 'laws.FnExactClearMinutes'. -/
def fnExactClearMinutesCard : Claim7 := { stood := { row := fnExactClearMinutesRow, standIns := [], harness := (true, "d6129da82651d9fb735aa5dcb4c85ed0bce440d591b96aa7a143326f51f4e47c"), looks := false }, kinds := [], alts := [], laidByText := true, laidKinds := [.data], laidTests := true, laidLooks := .later }
def FnExactClearMinutesCardSaid : Prop := Claim7.holds Tryd.pinned (.plain (OpenSpec.ofChange fnExactClearMinutesSpec)) fnExactClearMinutesCard

/-- THE TIED CARD OF 'laws.FnExactYearMinutes'. -/
def fnExactYearMinutesCard : Claim7 := { stood := { row := fnExactYearMinutesRow, standIns := [], harness := (true, "d6129da82651d9fb735aa5dcb4c85ed0bce440d591b96aa7a143326f51f4e47c"), looks := false }, kinds := [], alts := [], laidByText := true, laidKinds := [.data], laidTests := true, laidLooks := .later }
def FnExactYearMinutesCardSaid : Prop := Claim7.holds Tryd.pinned (.plain (OpenSpec.ofChange fnExactYearMinutesSpec)) fnExactYearMinutesCard

/-- THE TIED CARD OF 'laws.FnExactBestMonth'. -/
def fnExactBestMonthCard : Claim7 := { stood := { row := fnExactBestMonthRow, standIns := [], harness := (true, "d6129da82651d9fb735aa5dcb4c85ed0bce440d591b96aa7a143326f51f4e47c"), looks := false }, kinds := [], alts := [], laidByText := true, laidKinds := [.data], laidTests := true, laidLooks := .later }
def FnExactBestMonthCardSaid : Prop := Claim7.holds Tryd.pinned (.plain (OpenSpec.ofChange fnExactBestMonthSpec)) fnExactBestMonthCard

/-- THE TIED CARD OF 'laws.FnExactMonthsAbove'. -/
def fnExactMonthsAboveCard : Claim7 := { stood := { row := fnExactMonthsAboveRow, standIns := [], harness := (true, "d6129da82651d9fb735aa5dcb4c85ed0bce440d591b96aa7a143326f51f4e47c"), looks := false }, kinds := [], alts := [], laidByText := true, laidKinds := [.data], laidTests := true, laidLooks := .later }
def FnExactMonthsAboveCardSaid : Prop := Claim7.holds Tryd.pinned (.plain (OpenSpec.ofChange fnExactMonthsAboveSpec)) fnExactMonthsAboveCard

/-- THE SECOND FORM's CARD OF 'laws.FnExactDayLength'. -/
def fnExactDayLengthUptoCard : Claim7 := { stood := { row := fnExactDayLengthUptoRow, standIns := [], harness := (true, "d6129da82651d9fb735aa5dcb4c85ed0bce440d591b96aa7a143326f51f4e47c"), looks := false }, kinds := [], alts := [], laidByText := true, laidKinds := [.data], laidTests := true, laidLooks := .later }
def FnExactDayLengthUptoCardSaid : Prop := Claim7.holds Tryd.pinned (.plain (OpenSpec.upto fnExactDayLengthSpec)) fnExactDayLengthUptoCard

/-- THE SECOND FORM's CARD OF 'laws.FnExactClearMinutes'. -/
def fnExactClearMinutesUptoCard : Claim7 := { stood := { row := fnExactClearMinutesUptoRow, standIns := [], harness := (true, "d6129da82651d9fb735aa5dcb4c85ed0bce440d591b96aa7a143326f51f4e47c"), looks := false }, kinds := [], alts := [], laidByText := true, laidKinds := [.data], laidTests := true, laidLooks := .later }
def FnExactClearMinutesUptoCardSaid : Prop := Claim7.holds Tryd.pinned (.plain (OpenSpec.upto fnExactClearMinutesSpec)) fnExactClearMinutesUptoCard

/-- THE SECOND FORM's CARD OF 'laws.FnExactYearMinutes'. -/
def fnExactYearMinutesUptoCard : Claim7 := { stood := { row := fnExactYearMinutesUptoRow, standIns := [], harness := (true, "d6129da82651d9fb735aa5dcb4c85ed0bce440d591b96aa7a143326f51f4e47c"), looks := false }, kinds := [], alts := [], laidByText := true, laidKinds := [.data], laidTests := true, laidLooks := .later }
def FnExactYearMinutesUptoCardSaid : Prop := Claim7.holds Tryd.pinned (.plain (OpenSpec.upto fnExactYearMinutesSpec)) fnExactYearMinutesUptoCard

/-- THE SECOND FORM's CARD OF 'laws.FnExactBestMonth'. -/
def fnExactBestMonthUptoCard : Claim7 := { stood := { row := fnExactBestMonthUptoRow, standIns := [], harness := (true, "d6129da82651d9fb735aa5dcb4c85ed0bce440d591b96aa7a143326f51f4e47c"), looks := false }, kinds := [], alts := [], laidByText := true, laidKinds := [.data], laidTests := true, laidLooks := .later }
def FnExactBestMonthUptoCardSaid : Prop := Claim7.holds Tryd.pinned (.plain (OpenSpec.upto fnExactBestMonthSpec)) fnExactBestMonthUptoCard

/-- THE SECOND FORM's CARD OF 'laws.FnExactMonthsAbove'. -/
def fnExactMonthsAboveUptoCard : Claim7 := { stood := { row := fnExactMonthsAboveUptoRow, standIns := [], harness := (true, "d6129da82651d9fb735aa5dcb4c85ed0bce440d591b96aa7a143326f51f4e47c"), looks := false }, kinds := [], alts := [], laidByText := true, laidKinds := [.data], laidTests := true, laidLooks := .later }
def FnExactMonthsAboveUptoCardSaid : Prop := Claim7.holds Tryd.pinned (.plain (OpenSpec.upto fnExactMonthsAboveSpec)) fnExactMonthsAboveUptoCard
end Rows
end Go.Proofs.YtghpbdgghliieaaDoor
