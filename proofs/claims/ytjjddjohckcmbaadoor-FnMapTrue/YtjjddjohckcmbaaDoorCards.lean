/-
  DERIVED. GIVEN WITH THE SEED: THE CARDS: each row of YtjjddjohckcmbaaDoorRows.lean that lists a variable, with what it lists TIED to the program's text (the seventh form; the later family's looks); each row that meets fmt, with fmt's text TOLD by the authors' own Lean function (tested against real Go, not proved from fmt's source: count such statements apart). THE CARD IS WHAT COUNTS. Prove the row's statement (the work); the ties are given (YtjjddjohckcmbaaDoorTie.lean); close each card by the builder's one call (the guide's Derived/Test/ToyasCard.lean, 'card_holds'). Laid BY PROGRAM, IN A SANDBOX (cutbox-door.mjs). By AI agents, Wed Nov 11 2026. No macro, syntax, notation, axiom, sorry.
-/
import Derived.Test.YtjjddjohckcmbaaDoorRows
import GoSem.ClaimSeven
namespace Go.Proofs.YtjjddjohckcmbaaDoor
namespace Rows

/-- THE TIED CARD OF 'laws.FnMaps'. -/
def fnMapsCard : Claim7 := { stood := { row := fnMapsRow, standIns := [], harness := (true, "dc9333f2a3cf919151993d517d5520aea4eae777d7460cacbb465d3ff3b059ec"), looks := true }, kinds := [], alts := [], laidByText := true, laidKinds := [.data], laidTests := true, laidLooks := .later }
def FnMapsCardSaid : Prop := Claim7.holds Tryd.pinned (.plain (OpenSpec.ofChange fnMapsSpec)) fnMapsCard

/-- THE TIED CARD OF 'laws.FnMapTrue'. -/
def fnMapTrueCard : Claim7 := { stood := { row := fnMapTrueRow, standIns := [], harness := (true, "dc9333f2a3cf919151993d517d5520aea4eae777d7460cacbb465d3ff3b059ec"), looks := true }, kinds := [], alts := [], laidByText := true, laidKinds := [.data], laidTests := true, laidLooks := .later }
def FnMapTrueCardSaid : Prop := Claim7.holds Tryd.pinned (.plain (OpenSpec.ofChange fnMapTrueSpec)) fnMapTrueCard

/-- THE TIED CARD OF 'laws.FnExactMapRoot'. -/
def fnExactMapRootCard : Claim7 := { stood := { row := fnExactMapRootRow, standIns := [], harness := (true, "dc9333f2a3cf919151993d517d5520aea4eae777d7460cacbb465d3ff3b059ec"), looks := true }, kinds := [], alts := [], laidByText := true, laidKinds := [.data], laidTests := true, laidLooks := .later }
def FnExactMapRootCardSaid : Prop := Claim7.holds Tryd.pinned (.plain (OpenSpec.ofChange fnExactMapRootSpec)) fnExactMapRootCard

/-- THE TIED CARD OF 'laws.FnExactMapPath'. -/
def fnExactMapPathCard : Claim7 := { stood := { row := fnExactMapPathRow, standIns := [], harness := (true, "dc9333f2a3cf919151993d517d5520aea4eae777d7460cacbb465d3ff3b059ec"), looks := true }, kinds := [], alts := [], laidByText := true, laidKinds := [.data], laidTests := true, laidLooks := .later }
def FnExactMapPathCardSaid : Prop := Claim7.holds Tryd.pinned (.plain (OpenSpec.ofChange fnExactMapPathSpec)) fnExactMapPathCard

/-- THE TIED CARD OF 'laws.FnExactClimbSlot'. -/
def fnExactClimbSlotCard : Claim7 := { stood := { row := fnExactClimbSlotRow, standIns := [], harness := (true, "dc9333f2a3cf919151993d517d5520aea4eae777d7460cacbb465d3ff3b059ec"), looks := true }, kinds := [], alts := [], laidByText := true, laidKinds := [.data], laidTests := true, laidLooks := .later }
def FnExactClimbSlotCardSaid : Prop := Claim7.holds Tryd.pinned (.plain (OpenSpec.ofChange fnExactClimbSlotSpec)) fnExactClimbSlotCard

/-- THE TIED CARD OF 'laws.FnExactAcceptSlot'. -/
def fnExactAcceptSlotCard : Claim7 := { stood := { row := fnExactAcceptSlotRow, standIns := [], harness := (true, "dc9333f2a3cf919151993d517d5520aea4eae777d7460cacbb465d3ff3b059ec"), looks := true }, kinds := [], alts := [], laidByText := true, laidKinds := [.data], laidTests := true, laidLooks := .later }
def FnExactAcceptSlotCardSaid : Prop := Claim7.holds Tryd.pinned (.plain (OpenSpec.ofChange fnExactAcceptSlotSpec)) fnExactAcceptSlotCard

/-- THE TIED CARD OF 'laws.FnExactMapClash'. -/
def fnExactMapClashCard : Claim7 := { stood := { row := fnExactMapClashRow, standIns := [], harness := (true, "dc9333f2a3cf919151993d517d5520aea4eae777d7460cacbb465d3ff3b059ec"), looks := true }, kinds := [], alts := [], laidByText := true, laidKinds := [.data], laidTests := true, laidLooks := .later }
def FnExactMapClashCardSaid : Prop := Claim7.holds Tryd.pinned (.plain (OpenSpec.ofChange fnExactMapClashSpec)) fnExactMapClashCard

/-- THE SECOND FORM's CARD OF 'laws.FnMaps'. -/
def fnMapsUptoCard : Claim7 := { stood := { row := fnMapsUptoRow, standIns := [], harness := (true, "dc9333f2a3cf919151993d517d5520aea4eae777d7460cacbb465d3ff3b059ec"), looks := true }, kinds := [], alts := [], laidByText := true, laidKinds := [.data], laidTests := true, laidLooks := .later }
def FnMapsUptoCardSaid : Prop := Claim7.holds Tryd.pinned (.plain (OpenSpec.upto fnMapsSpec)) fnMapsUptoCard

/-- THE SECOND FORM's CARD OF 'laws.FnMapTrue'. -/
def fnMapTrueUptoCard : Claim7 := { stood := { row := fnMapTrueUptoRow, standIns := [], harness := (true, "dc9333f2a3cf919151993d517d5520aea4eae777d7460cacbb465d3ff3b059ec"), looks := true }, kinds := [], alts := [], laidByText := true, laidKinds := [.data], laidTests := true, laidLooks := .later }
def FnMapTrueUptoCardSaid : Prop := Claim7.holds Tryd.pinned (.plain (OpenSpec.upto fnMapTrueSpec)) fnMapTrueUptoCard

/-- THE SECOND FORM's CARD OF 'laws.FnExactMapRoot'. -/
def fnExactMapRootUptoCard : Claim7 := { stood := { row := fnExactMapRootUptoRow, standIns := [], harness := (true, "dc9333f2a3cf919151993d517d5520aea4eae777d7460cacbb465d3ff3b059ec"), looks := true }, kinds := [], alts := [], laidByText := true, laidKinds := [.data], laidTests := true, laidLooks := .later }
def FnExactMapRootUptoCardSaid : Prop := Claim7.holds Tryd.pinned (.plain (OpenSpec.upto fnExactMapRootSpec)) fnExactMapRootUptoCard

/-- THE SECOND FORM's CARD OF 'laws.FnExactMapPath'. -/
def fnExactMapPathUptoCard : Claim7 := { stood := { row := fnExactMapPathUptoRow, standIns := [], harness := (true, "dc9333f2a3cf919151993d517d5520aea4eae777d7460cacbb465d3ff3b059ec"), looks := true }, kinds := [], alts := [], laidByText := true, laidKinds := [.data], laidTests := true, laidLooks := .later }
def FnExactMapPathUptoCardSaid : Prop := Claim7.holds Tryd.pinned (.plain (OpenSpec.upto fnExactMapPathSpec)) fnExactMapPathUptoCard

/-- THE SECOND FORM's CARD OF 'laws.FnExactClimbSlot'. -/
def fnExactClimbSlotUptoCard : Claim7 := { stood := { row := fnExactClimbSlotUptoRow, standIns := [], harness := (true, "dc9333f2a3cf919151993d517d5520aea4eae777d7460cacbb465d3ff3b059ec"), looks := true }, kinds := [], alts := [], laidByText := true, laidKinds := [.data], laidTests := true, laidLooks := .later }
def FnExactClimbSlotUptoCardSaid : Prop := Claim7.holds Tryd.pinned (.plain (OpenSpec.upto fnExactClimbSlotSpec)) fnExactClimbSlotUptoCard

/-- THE SECOND FORM's CARD OF 'laws.FnExactAcceptSlot'. -/
def fnExactAcceptSlotUptoCard : Claim7 := { stood := { row := fnExactAcceptSlotUptoRow, standIns := [], harness := (true, "dc9333f2a3cf919151993d517d5520aea4eae777d7460cacbb465d3ff3b059ec"), looks := true }, kinds := [], alts := [], laidByText := true, laidKinds := [.data], laidTests := true, laidLooks := .later }
def FnExactAcceptSlotUptoCardSaid : Prop := Claim7.holds Tryd.pinned (.plain (OpenSpec.upto fnExactAcceptSlotSpec)) fnExactAcceptSlotUptoCard

/-- THE SECOND FORM's CARD OF 'laws.FnExactMapClash'. -/
def fnExactMapClashUptoCard : Claim7 := { stood := { row := fnExactMapClashUptoRow, standIns := [], harness := (true, "dc9333f2a3cf919151993d517d5520aea4eae777d7460cacbb465d3ff3b059ec"), looks := true }, kinds := [], alts := [], laidByText := true, laidKinds := [.data], laidTests := true, laidLooks := .later }
def FnExactMapClashUptoCardSaid : Prop := Claim7.holds Tryd.pinned (.plain (OpenSpec.upto fnExactMapClashSpec)) fnExactMapClashUptoCard
end Rows
end Go.Proofs.YtjjddjohckcmbaaDoor
