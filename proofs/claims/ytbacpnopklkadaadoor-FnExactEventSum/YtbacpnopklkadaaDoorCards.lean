/-
  DERIVED. GIVEN WITH THE SEED: THE CARDS: each row of YtbacpnopklkadaaDoorRows.lean that lists a variable, with what it lists TIED to the program's text (the seventh form; the later family's looks); each row that meets fmt, with fmt's text TOLD by the authors' own Lean function (tested against real Go, not proved from fmt's source: count such statements apart). THE CARD IS WHAT COUNTS. Prove the row's statement (the work); the ties are given (YtbacpnopklkadaaDoorTie.lean); close each card by the builder's one call (the guide's Derived/Test/ToyasCard.lean, 'card_holds'). Laid BY PROGRAM, IN A SANDBOX (cutbox-door.mjs). By AI agents, Wed Nov 11 2026. No macro, syntax, notation, axiom, sorry.
-/
import Derived.Test.YtbacpnopklkadaaDoorRows
import GoSem.ClaimSeven
namespace Go.Proofs.YtbacpnopklkadaaDoor
namespace Rows

/-- THE TIED CARD OF 'laws.FnEvents'. -/
def fnEventsCard : Claim7 := { stood := { row := fnEventsRow, standIns := [], harness := (true, "4788e9a0db0db202385ab6d78ceb536772b7d633644ccc10b5a47302cbd37b82"), looks := false }, kinds := [], alts := [], laidByText := true, laidKinds := [.data], laidTests := true, laidLooks := .later }
def FnEventsCardSaid : Prop := Claim7.holds Tryd.pinned (.plain (OpenSpec.ofChange fnEventsSpec)) fnEventsCard

/-- THE TIED CARD OF 'laws.FnExactEventSum'. -/
def fnExactEventSumCard : Claim7 := { stood := { row := fnExactEventSumRow, standIns := [], harness := (true, "4788e9a0db0db202385ab6d78ceb536772b7d633644ccc10b5a47302cbd37b82"), looks := false }, kinds := [], alts := [], laidByText := true, laidKinds := [.data], laidTests := true, laidLooks := .later }
def FnExactEventSumCardSaid : Prop := Claim7.holds Tryd.pinned (.plain (OpenSpec.ofChange fnExactEventSumSpec)) fnExactEventSumCard

/-- THE SECOND FORM's CARD OF 'laws.FnEvents'. -/
def fnEventsUptoCard : Claim7 := { stood := { row := fnEventsUptoRow, standIns := [], harness := (true, "4788e9a0db0db202385ab6d78ceb536772b7d633644ccc10b5a47302cbd37b82"), looks := false }, kinds := [], alts := [], laidByText := true, laidKinds := [.data], laidTests := true, laidLooks := .later }
def FnEventsUptoCardSaid : Prop := Claim7.holds Tryd.pinned (.plain (OpenSpec.upto fnEventsSpec)) fnEventsUptoCard

/-- THE SECOND FORM's CARD OF 'laws.FnExactEventSum'. -/
def fnExactEventSumUptoCard : Claim7 := { stood := { row := fnExactEventSumUptoRow, standIns := [], harness := (true, "4788e9a0db0db202385ab6d78ceb536772b7d633644ccc10b5a47302cbd37b82"), looks := false }, kinds := [], alts := [], laidByText := true, laidKinds := [.data], laidTests := true, laidLooks := .later }
def FnExactEventSumUptoCardSaid : Prop := Claim7.holds Tryd.pinned (.plain (OpenSpec.upto fnExactEventSumSpec)) fnExactEventSumUptoCard
end Rows
end Go.Proofs.YtbacpnopklkadaaDoor
