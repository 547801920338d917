/-
  DERIVED. GIVEN WITH THE SEED: THE CARDS: each row of YtngibnmcagogaaaDoorRows.lean that lists a variable, with what it lists TIED to the program's text (the seventh form; the later family's looks); each row that meets fmt, with fmt's text TOLD by the authors' own Lean function (tested against real Go, not proved from fmt's source: count such statements apart). THE CARD IS WHAT COUNTS. Prove the row's statement (the work); the ties are given (YtngibnmcagogaaaDoorTie.lean); close each card by the builder's one call (the guide's Derived/Test/ToyasCard.lean, 'card_holds'). Laid BY PROGRAM, IN A SANDBOX (cutbox-door.mjs). By AI agents, Wed Nov 11 2026. No macro, syntax, notation, axiom, sorry.
-/
import Derived.Test.YtngibnmcagogaaaDoorRows
import GoSem.ClaimSeven
namespace Go.Proofs.YtngibnmcagogaaaDoor
namespace Rows

/-- THE TIED CARD OF 'laws.FnClashes'. -/
def fnClashesCard : Claim7 := { stood := { row := fnClashesRow, standIns := [], harness := (true, "988f1a40df29b20e523cf95e8e7fe6257f53dd17f09142d793fd006ef5f7aef5"), looks := false }, kinds := [], alts := [], laidByText := true, laidKinds := [.data], laidTests := true, laidLooks := .later }
def FnClashesCardSaid : Prop := Claim7.holds Tryd.pinned (.plain (OpenSpec.ofChange fnClashesSpec)) fnClashesCard

/-- THE TIED CARD OF 'laws.FnExactLeafSum'. -/
def fnExactLeafSumCard : Claim7 := { stood := { row := fnExactLeafSumRow, standIns := [], harness := (true, "988f1a40df29b20e523cf95e8e7fe6257f53dd17f09142d793fd006ef5f7aef5"), looks := false }, kinds := [], alts := [], laidByText := true, laidKinds := [.data], laidTests := true, laidLooks := .later }
def FnExactLeafSumCardSaid : Prop := Claim7.holds Tryd.pinned (.plain (OpenSpec.ofChange fnExactLeafSumSpec)) fnExactLeafSumCard

/-- THE TIED CARD OF 'laws.FnExactNodeSum'. -/
def fnExactNodeSumCard : Claim7 := { stood := { row := fnExactNodeSumRow, standIns := [], harness := (true, "988f1a40df29b20e523cf95e8e7fe6257f53dd17f09142d793fd006ef5f7aef5"), looks := false }, kinds := [], alts := [], laidByText := true, laidKinds := [.data], laidTests := true, laidLooks := .later }
def FnExactNodeSumCardSaid : Prop := Claim7.holds Tryd.pinned (.plain (OpenSpec.ofChange fnExactNodeSumSpec)) fnExactNodeSumCard

/-- THE TIED CARD OF 'laws.FnExactSlotSum'. -/
def fnExactSlotSumCard : Claim7 := { stood := { row := fnExactSlotSumRow, standIns := [], harness := (true, "988f1a40df29b20e523cf95e8e7fe6257f53dd17f09142d793fd006ef5f7aef5"), looks := false }, kinds := [], alts := [], laidByText := true, laidKinds := [.data], laidTests := true, laidLooks := .later }
def FnExactSlotSumCardSaid : Prop := Claim7.holds Tryd.pinned (.plain (OpenSpec.ofChange fnExactSlotSumSpec)) fnExactSlotSumCard

/-- THE TIED CARD OF 'laws.FnExactLeafBytes'. -/
def fnExactLeafBytesCard : Claim7 := { stood := { row := fnExactLeafBytesRow, standIns := [], harness := (true, "988f1a40df29b20e523cf95e8e7fe6257f53dd17f09142d793fd006ef5f7aef5"), looks := false }, kinds := [], alts := [], laidByText := true, laidKinds := [.data], laidTests := true, laidLooks := .later }
def FnExactLeafBytesCardSaid : Prop := Claim7.holds Tryd.pinned (.plain (OpenSpec.ofChange fnExactLeafBytesSpec)) fnExactLeafBytesCard

/-- THE TIED CARD OF 'laws.FnExactNodeBytes'. -/
def fnExactNodeBytesCard : Claim7 := { stood := { row := fnExactNodeBytesRow, standIns := [], harness := (true, "988f1a40df29b20e523cf95e8e7fe6257f53dd17f09142d793fd006ef5f7aef5"), looks := false }, kinds := [], alts := [], laidByText := true, laidKinds := [.data], laidTests := true, laidLooks := .later }
def FnExactNodeBytesCardSaid : Prop := Claim7.holds Tryd.pinned (.plain (OpenSpec.ofChange fnExactNodeBytesSpec)) fnExactNodeBytesCard

/-- THE TIED CARD OF 'laws.FnEvents'. -/
def fnEventsCard : Claim7 := { stood := { row := fnEventsRow, standIns := [], harness := (true, "988f1a40df29b20e523cf95e8e7fe6257f53dd17f09142d793fd006ef5f7aef5"), looks := false }, kinds := [], alts := [], laidByText := true, laidKinds := [.data], laidTests := true, laidLooks := .later }
def FnEventsCardSaid : Prop := Claim7.holds Tryd.pinned (.plain (OpenSpec.ofChange fnEventsSpec)) fnEventsCard

/-- THE TIED CARD OF 'laws.FnExactEventSum'. -/
def fnExactEventSumCard : Claim7 := { stood := { row := fnExactEventSumRow, standIns := [], harness := (true, "988f1a40df29b20e523cf95e8e7fe6257f53dd17f09142d793fd006ef5f7aef5"), looks := false }, kinds := [], alts := [], laidByText := true, laidKinds := [.data], laidTests := true, laidLooks := .later }
def FnExactEventSumCardSaid : Prop := Claim7.holds Tryd.pinned (.plain (OpenSpec.ofChange fnExactEventSumSpec)) fnExactEventSumCard

/-- THE SECOND FORM's CARD OF 'laws.FnClashes'. -/
def fnClashesUptoCard : Claim7 := { stood := { row := fnClashesUptoRow, standIns := [], harness := (true, "988f1a40df29b20e523cf95e8e7fe6257f53dd17f09142d793fd006ef5f7aef5"), looks := false }, kinds := [], alts := [], laidByText := true, laidKinds := [.data], laidTests := true, laidLooks := .later }
def FnClashesUptoCardSaid : Prop := Claim7.holds Tryd.pinned (.plain (OpenSpec.upto fnClashesSpec)) fnClashesUptoCard

/-- THE SECOND FORM's CARD OF 'laws.FnExactLeafSum'. -/
def fnExactLeafSumUptoCard : Claim7 := { stood := { row := fnExactLeafSumUptoRow, standIns := [], harness := (true, "988f1a40df29b20e523cf95e8e7fe6257f53dd17f09142d793fd006ef5f7aef5"), looks := false }, kinds := [], alts := [], laidByText := true, laidKinds := [.data], laidTests := true, laidLooks := .later }
def FnExactLeafSumUptoCardSaid : Prop := Claim7.holds Tryd.pinned (.plain (OpenSpec.upto fnExactLeafSumSpec)) fnExactLeafSumUptoCard

/-- THE SECOND FORM's CARD OF 'laws.FnExactNodeSum'. -/
def fnExactNodeSumUptoCard : Claim7 := { stood := { row := fnExactNodeSumUptoRow, standIns := [], harness := (true, "988f1a40df29b20e523cf95e8e7fe6257f53dd17f09142d793fd006ef5f7aef5"), looks := false }, kinds := [], alts := [], laidByText := true, laidKinds := [.data], laidTests := true, laidLooks := .later }
def FnExactNodeSumUptoCardSaid : Prop := Claim7.holds Tryd.pinned (.plain (OpenSpec.upto fnExactNodeSumSpec)) fnExactNodeSumUptoCard

/-- THE SECOND FORM's CARD OF 'laws.FnExactSlotSum'. -/
def fnExactSlotSumUptoCard : Claim7 := { stood := { row := fnExactSlotSumUptoRow, standIns := [], harness := (true, "988f1a40df29b20e523cf95e8e7fe6257f53dd17f09142d793fd006ef5f7aef5"), looks := false }, kinds := [], alts := [], laidByText := true, laidKinds := [.data], laidTests := true, laidLooks := .later }
def FnExactSlotSumUptoCardSaid : Prop := Claim7.holds Tryd.pinned (.plain (OpenSpec.upto fnExactSlotSumSpec)) fnExactSlotSumUptoCard

/-- THE SECOND FORM's CARD OF 'laws.FnExactLeafBytes'. -/
def fnExactLeafBytesUptoCard : Claim7 := { stood := { row := fnExactLeafBytesUptoRow, standIns := [], harness := (true, "988f1a40df29b20e523cf95e8e7fe6257f53dd17f09142d793fd006ef5f7aef5"), looks := false }, kinds := [], alts := [], laidByText := true, laidKinds := [.data], laidTests := true, laidLooks := .later }
def FnExactLeafBytesUptoCardSaid : Prop := Claim7.holds Tryd.pinned (.plain (OpenSpec.upto fnExactLeafBytesSpec)) fnExactLeafBytesUptoCard

/-- THE SECOND FORM's CARD OF 'laws.FnExactNodeBytes'. -/
def fnExactNodeBytesUptoCard : Claim7 := { stood := { row := fnExactNodeBytesUptoRow, standIns := [], harness := (true, "988f1a40df29b20e523cf95e8e7fe6257f53dd17f09142d793fd006ef5f7aef5"), looks := false }, kinds := [], alts := [], laidByText := true, laidKinds := [.data], laidTests := true, laidLooks := .later }
def FnExactNodeBytesUptoCardSaid : Prop := Claim7.holds Tryd.pinned (.plain (OpenSpec.upto fnExactNodeBytesSpec)) fnExactNodeBytesUptoCard

/-- THE SECOND FORM's CARD OF 'laws.FnEvents'. -/
def fnEventsUptoCard : Claim7 := { stood := { row := fnEventsUptoRow, standIns := [], harness := (true, "988f1a40df29b20e523cf95e8e7fe6257f53dd17f09142d793fd006ef5f7aef5"), looks := false }, kinds := [], alts := [], laidByText := true, laidKinds := [.data], laidTests := true, laidLooks := .later }
def FnEventsUptoCardSaid : Prop := Claim7.holds Tryd.pinned (.plain (OpenSpec.upto fnEventsSpec)) fnEventsUptoCard

/-- THE SECOND FORM's CARD OF 'laws.FnExactEventSum'. -/
def fnExactEventSumUptoCard : Claim7 := { stood := { row := fnExactEventSumUptoRow, standIns := [], harness := (true, "988f1a40df29b20e523cf95e8e7fe6257f53dd17f09142d793fd006ef5f7aef5"), looks := false }, kinds := [], alts := [], laidByText := true, laidKinds := [.data], laidTests := true, laidLooks := .later }
def FnExactEventSumUptoCardSaid : Prop := Claim7.holds Tryd.pinned (.plain (OpenSpec.upto fnExactEventSumSpec)) fnExactEventSumUptoCard
end Rows
end Go.Proofs.YtngibnmcagogaaaDoor
