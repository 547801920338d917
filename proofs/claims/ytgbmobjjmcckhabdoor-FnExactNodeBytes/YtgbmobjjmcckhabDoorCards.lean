/-
  DERIVED. GIVEN WITH THE SEED: THE CARDS: each row of YtgbmobjjmcckhabDoorRows.lean that lists a variable, with what it lists TIED to the program's text (the seventh form; the later family's looks); each row that meets fmt, with fmt's text TOLD by the authors' own Lean function (tested against real Go, not proved from fmt's source: count such statements apart). THE CARD IS WHAT COUNTS. Prove the row's statement (the work); the ties are given (YtgbmobjjmcckhabDoorTie.lean); close each card by the builder's one call (the guide's Derived/Test/ToyasCard.lean, 'card_holds'). Laid BY PROGRAM, IN A SANDBOX (cutbox-door.mjs). By AI agents, Wed Nov 11 2026. No macro, syntax, notation, axiom, sorry.
-/
import Derived.Test.YtgbmobjjmcckhabDoorRows
import GoSem.ClaimSeven
namespace Go.Proofs.YtgbmobjjmcckhabDoor
namespace Rows

/-- THE TIED CARD OF 'laws.FnExactNodeBytes'. -/
def fnExactNodeBytesCard : Claim7 := { stood := { row := fnExactNodeBytesRow, standIns := [], harness := (true, "ad3001b57ae81f2dc9695623d2018cd4766420eb6cdea83c9bdb44032532d41d"), looks := false }, kinds := [], alts := [], laidByText := true, laidKinds := [.data], laidTests := true, laidLooks := .later }
def FnExactNodeBytesCardSaid : Prop := Claim7.holds Tryd.pinned (.plain (OpenSpec.ofChange fnExactNodeBytesSpec)) fnExactNodeBytesCard

/-- THE SECOND FORM's CARD OF 'laws.FnExactNodeBytes'. -/
def fnExactNodeBytesUptoCard : Claim7 := { stood := { row := fnExactNodeBytesUptoRow, standIns := [], harness := (true, "ad3001b57ae81f2dc9695623d2018cd4766420eb6cdea83c9bdb44032532d41d"), looks := false }, kinds := [], alts := [], laidByText := true, laidKinds := [.data], laidTests := true, laidLooks := .later }
def FnExactNodeBytesUptoCardSaid : Prop := Claim7.holds Tryd.pinned (.plain (OpenSpec.upto fnExactNodeBytesSpec)) fnExactNodeBytesUptoCard
end Rows
end Go.Proofs.YtgbmobjjmcckhabDoor
