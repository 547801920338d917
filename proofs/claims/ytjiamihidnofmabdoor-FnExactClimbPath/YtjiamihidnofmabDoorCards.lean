/-
  DERIVED. GIVEN WITH THE SEED: THE CARDS: each row of YtjiamihidnofmabDoorRows.lean that lists a variable, with what it lists TIED to the program's text (the seventh form; the later family's looks); each row that meets fmt, with fmt's text TOLD by the authors' own Lean function (tested against real Go, not proved from fmt's source: count such statements apart). THE CARD IS WHAT COUNTS. Prove the row's statement (the work); the ties are given (YtjiamihidnofmabDoorTie.lean); close each card by the builder's one call (the guide's Derived/Test/ToyasCard.lean, 'card_holds'). Laid BY PROGRAM, IN A SANDBOX (cutbox-door.mjs). By AI agents, Wed Nov 11 2026. No macro, syntax, notation, axiom, sorry.
-/
import Derived.Test.YtjiamihidnofmabDoorRows
import GoSem.ClaimSeven
namespace Go.Proofs.YtjiamihidnofmabDoor
namespace Rows

/-- THE TIED CARD OF 'laws.FnExactClimbPath'. -/
def fnExactClimbPathCard : Claim7 := { stood := { row := fnExactClimbPathRow, standIns := [], harness := (true, "ff4ea98613679edd89391d66d544b509c7f7236f1822400ebe04ad72c63fad91"), looks := false }, kinds := [], alts := [], laidByText := true, laidKinds := [.data], laidTests := true, laidLooks := .later }
def FnExactClimbPathCardSaid : Prop := Claim7.holds Tryd.pinned (.plain (OpenSpec.ofChange fnExactClimbPathSpec)) fnExactClimbPathCard

/-- THE TIED CARD OF 'laws.FnExactAcceptLeaf'. -/
def fnExactAcceptLeafCard : Claim7 := { stood := { row := fnExactAcceptLeafRow, standIns := [], harness := (true, "ff4ea98613679edd89391d66d544b509c7f7236f1822400ebe04ad72c63fad91"), looks := false }, kinds := [], alts := [], laidByText := true, laidKinds := [.data], laidTests := true, laidLooks := .later }
def FnExactAcceptLeafCardSaid : Prop := Claim7.holds Tryd.pinned (.plain (OpenSpec.ofChange fnExactAcceptLeafSpec)) fnExactAcceptLeafCard

/-- THE SECOND FORM's CARD OF 'laws.FnExactClimbPath'. -/
def fnExactClimbPathUptoCard : Claim7 := { stood := { row := fnExactClimbPathUptoRow, standIns := [], harness := (true, "ff4ea98613679edd89391d66d544b509c7f7236f1822400ebe04ad72c63fad91"), looks := false }, kinds := [], alts := [], laidByText := true, laidKinds := [.data], laidTests := true, laidLooks := .later }
def FnExactClimbPathUptoCardSaid : Prop := Claim7.holds Tryd.pinned (.plain (OpenSpec.upto fnExactClimbPathSpec)) fnExactClimbPathUptoCard

/-- THE SECOND FORM's CARD OF 'laws.FnExactAcceptLeaf'. -/
def fnExactAcceptLeafUptoCard : Claim7 := { stood := { row := fnExactAcceptLeafUptoRow, standIns := [], harness := (true, "ff4ea98613679edd89391d66d544b509c7f7236f1822400ebe04ad72c63fad91"), looks := false }, kinds := [], alts := [], laidByText := true, laidKinds := [.data], laidTests := true, laidLooks := .later }
def FnExactAcceptLeafUptoCardSaid : Prop := Claim7.holds Tryd.pinned (.plain (OpenSpec.upto fnExactAcceptLeafSpec)) fnExactAcceptLeafUptoCard
end Rows
end Go.Proofs.YtjiamihidnofmabDoor
