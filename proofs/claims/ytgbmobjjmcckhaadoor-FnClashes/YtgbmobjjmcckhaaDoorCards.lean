/-
  DERIVED. GIVEN WITH THE SEED: THE CARDS: each row of YtgbmobjjmcckhaaDoorRows.lean that lists a variable, with what it lists TIED to the program's text (the seventh form; the later family's looks); each row that meets fmt, with fmt's text TOLD by the authors' own Lean function (tested against real Go, not proved from fmt's source: count such statements apart). THE CARD IS WHAT COUNTS. Prove the row's statement (the work); the ties are given (YtgbmobjjmcckhaaDoorTie.lean); close each card by the builder's one call (the guide's Derived/Test/ToyasCard.lean, 'card_holds'). Laid BY PROGRAM, IN A SANDBOX (cutbox-door.mjs). By AI agents, Wed Nov 11 2026. No macro, syntax, notation, axiom, sorry.
-/
import Derived.Test.YtgbmobjjmcckhaaDoorRows
import GoSem.ClaimSeven
namespace Go.Proofs.YtgbmobjjmcckhaaDoor
namespace Rows

/-- THE TIED CARD OF 'laws.FnClashes'. -/
def fnClashesCard : Claim7 := { stood := { row := fnClashesRow, standIns := [], harness := (true, "f513ea7963d0cfed639f688379345c30ba9c5efb9ad4d1d2d16fae8861c0f2c9"), looks := false }, kinds := [], alts := [], laidByText := true, laidKinds := [.data], laidTests := true, laidLooks := .later }
def FnClashesCardSaid : Prop := Claim7.holds Tryd.pinned (.plain (OpenSpec.ofChange fnClashesSpec)) fnClashesCard

/-- THE TIED CARD OF 'laws.FnExactLeafSum'. -/
def fnExactLeafSumCard : Claim7 := { stood := { row := fnExactLeafSumRow, standIns := [], harness := (true, "f513ea7963d0cfed639f688379345c30ba9c5efb9ad4d1d2d16fae8861c0f2c9"), looks := false }, kinds := [], alts := [], laidByText := true, laidKinds := [.data], laidTests := true, laidLooks := .later }
def FnExactLeafSumCardSaid : Prop := Claim7.holds Tryd.pinned (.plain (OpenSpec.ofChange fnExactLeafSumSpec)) fnExactLeafSumCard

/-- THE TIED CARD OF 'laws.FnExactNodeSum'. -/
def fnExactNodeSumCard : Claim7 := { stood := { row := fnExactNodeSumRow, standIns := [], harness := (true, "f513ea7963d0cfed639f688379345c30ba9c5efb9ad4d1d2d16fae8861c0f2c9"), looks := false }, kinds := [], alts := [], laidByText := true, laidKinds := [.data], laidTests := true, laidLooks := .later }
def FnExactNodeSumCardSaid : Prop := Claim7.holds Tryd.pinned (.plain (OpenSpec.ofChange fnExactNodeSumSpec)) fnExactNodeSumCard

/-- THE TIED CARD OF 'laws.FnExactSlotSum'. -/
def fnExactSlotSumCard : Claim7 := { stood := { row := fnExactSlotSumRow, standIns := [], harness := (true, "f513ea7963d0cfed639f688379345c30ba9c5efb9ad4d1d2d16fae8861c0f2c9"), looks := false }, kinds := [], alts := [], laidByText := true, laidKinds := [.data], laidTests := true, laidLooks := .later }
def FnExactSlotSumCardSaid : Prop := Claim7.holds Tryd.pinned (.plain (OpenSpec.ofChange fnExactSlotSumSpec)) fnExactSlotSumCard

/-- THE TIED CARD OF 'laws.FnExactLeafBytes'. -/
def fnExactLeafBytesCard : Claim7 := { stood := { row := fnExactLeafBytesRow, standIns := [], harness := (true, "f513ea7963d0cfed639f688379345c30ba9c5efb9ad4d1d2d16fae8861c0f2c9"), looks := false }, kinds := [], alts := [], laidByText := true, laidKinds := [.data], laidTests := true, laidLooks := .later }
def FnExactLeafBytesCardSaid : Prop := Claim7.holds Tryd.pinned (.plain (OpenSpec.ofChange fnExactLeafBytesSpec)) fnExactLeafBytesCard

/-- THE SECOND FORM's CARD OF 'laws.FnClashes'. -/
def fnClashesUptoCard : Claim7 := { stood := { row := fnClashesUptoRow, standIns := [], harness := (true, "f513ea7963d0cfed639f688379345c30ba9c5efb9ad4d1d2d16fae8861c0f2c9"), looks := false }, kinds := [], alts := [], laidByText := true, laidKinds := [.data], laidTests := true, laidLooks := .later }
def FnClashesUptoCardSaid : Prop := Claim7.holds Tryd.pinned (.plain (OpenSpec.upto fnClashesSpec)) fnClashesUptoCard

/-- THE SECOND FORM's CARD OF 'laws.FnExactLeafSum'. -/
def fnExactLeafSumUptoCard : Claim7 := { stood := { row := fnExactLeafSumUptoRow, standIns := [], harness := (true, "f513ea7963d0cfed639f688379345c30ba9c5efb9ad4d1d2d16fae8861c0f2c9"), looks := false }, kinds := [], alts := [], laidByText := true, laidKinds := [.data], laidTests := true, laidLooks := .later }
def FnExactLeafSumUptoCardSaid : Prop := Claim7.holds Tryd.pinned (.plain (OpenSpec.upto fnExactLeafSumSpec)) fnExactLeafSumUptoCard

/-- THE SECOND FORM's CARD OF 'laws.FnExactNodeSum'. -/
def fnExactNodeSumUptoCard : Claim7 := { stood := { row := fnExactNodeSumUptoRow, standIns := [], harness := (true, "f513ea7963d0cfed639f688379345c30ba9c5efb9ad4d1d2d16fae8861c0f2c9"), looks := false }, kinds := [], alts := [], laidByText := true, laidKinds := [.data], laidTests := true, laidLooks := .later }
def FnExactNodeSumUptoCardSaid : Prop := Claim7.holds Tryd.pinned (.plain (OpenSpec.upto fnExactNodeSumSpec)) fnExactNodeSumUptoCard

/-- THE SECOND FORM's CARD OF 'laws.FnExactSlotSum'. -/
def fnExactSlotSumUptoCard : Claim7 := { stood := { row := fnExactSlotSumUptoRow, standIns := [], harness := (true, "f513ea7963d0cfed639f688379345c30ba9c5efb9ad4d1d2d16fae8861c0f2c9"), looks := false }, kinds := [], alts := [], laidByText := true, laidKinds := [.data], laidTests := true, laidLooks := .later }
def FnExactSlotSumUptoCardSaid : Prop := Claim7.holds Tryd.pinned (.plain (OpenSpec.upto fnExactSlotSumSpec)) fnExactSlotSumUptoCard

/-- THE SECOND FORM's CARD OF 'laws.FnExactLeafBytes'. -/
def fnExactLeafBytesUptoCard : Claim7 := { stood := { row := fnExactLeafBytesUptoRow, standIns := [], harness := (true, "f513ea7963d0cfed639f688379345c30ba9c5efb9ad4d1d2d16fae8861c0f2c9"), looks := false }, kinds := [], alts := [], laidByText := true, laidKinds := [.data], laidTests := true, laidLooks := .later }
def FnExactLeafBytesUptoCardSaid : Prop := Claim7.holds Tryd.pinned (.plain (OpenSpec.upto fnExactLeafBytesSpec)) fnExactLeafBytesUptoCard
end Rows
end Go.Proofs.YtgbmobjjmcckhaaDoor
