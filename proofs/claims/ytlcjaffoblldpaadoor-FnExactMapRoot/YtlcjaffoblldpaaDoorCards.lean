/-
  DERIVED. GIVEN WITH THE SEED: THE CARDS: each row of YtlcjaffoblldpaaDoorRows.lean that lists a variable, with what it lists TIED to the program's text (the seventh form; the later family's looks); each row that meets fmt, with fmt's text TOLD by the authors' own Lean function (tested against real Go, not proved from fmt's source: count such statements apart). THE CARD IS WHAT COUNTS. Prove the row's statement (the work); the ties are given (YtlcjaffoblldpaaDoorTie.lean); close each card by the builder's one call (the guide's Derived/Test/ToyasCard.lean, 'card_holds'). Laid BY PROGRAM, IN A SANDBOX (cutbox-door.mjs). By AI agents, Wed Nov 11 2026. No macro, syntax, notation, axiom, sorry.
-/
import Derived.Test.YtlcjaffoblldpaaDoorRows
import GoSem.ClaimSeven
namespace Go.Proofs.YtlcjaffoblldpaaDoor
namespace Rows

/-- THE TIED CARD OF 'laws.FnClashes'. -/
def fnClashesCard : Claim7 := { stood := { row := fnClashesRow, standIns := [], harness := (true, "175031a7d21a8db8b6ed6a7a497089fe504ae6157f535fa4a9479a9f29c73022"), looks := true }, kinds := [], alts := [], laidByText := true, laidKinds := [.data], laidTests := true, laidLooks := .later }
def FnClashesCardSaid : Prop := Claim7.holds Tryd.pinned (.plain (OpenSpec.ofChange fnClashesSpec)) fnClashesCard

/-- THE TIED CARD OF 'laws.FnMaps'. -/
def fnMapsCard : Claim7 := { stood := { row := fnMapsRow, standIns := [], harness := (true, "175031a7d21a8db8b6ed6a7a497089fe504ae6157f535fa4a9479a9f29c73022"), looks := true }, kinds := [], alts := [], laidByText := true, laidKinds := [.data], laidTests := true, laidLooks := .later }
def FnMapsCardSaid : Prop := Claim7.holds Tryd.pinned (.plain (OpenSpec.ofChange fnMapsSpec)) fnMapsCard

/-- THE TIED CARD OF 'laws.FnMapTrue'. -/
def fnMapTrueCard : Claim7 := { stood := { row := fnMapTrueRow, standIns := [], harness := (true, "175031a7d21a8db8b6ed6a7a497089fe504ae6157f535fa4a9479a9f29c73022"), looks := true }, kinds := [], alts := [], laidByText := true, laidKinds := [.data], laidTests := true, laidLooks := .later }
def FnMapTrueCardSaid : Prop := Claim7.holds Tryd.pinned (.plain (OpenSpec.ofChange fnMapTrueSpec)) fnMapTrueCard

/-- THE TIED CARD OF 'laws.FnExactSlotSum'. -/
def fnExactSlotSumCard : Claim7 := { stood := { row := fnExactSlotSumRow, standIns := [], harness := (true, "175031a7d21a8db8b6ed6a7a497089fe504ae6157f535fa4a9479a9f29c73022"), looks := true }, kinds := [], alts := [], laidByText := true, laidKinds := [.data], laidTests := true, laidLooks := .later }
def FnExactSlotSumCardSaid : Prop := Claim7.holds Tryd.pinned (.plain (OpenSpec.ofChange fnExactSlotSumSpec)) fnExactSlotSumCard

/-- THE TIED CARD OF 'laws.FnExactMapRoot'. -/
def fnExactMapRootCard : Claim7 := { stood := { row := fnExactMapRootRow, standIns := [], harness := (true, "175031a7d21a8db8b6ed6a7a497089fe504ae6157f535fa4a9479a9f29c73022"), looks := true }, kinds := [], alts := [], laidByText := true, laidKinds := [.data], laidTests := true, laidLooks := .later }
def FnExactMapRootCardSaid : Prop := Claim7.holds Tryd.pinned (.plain (OpenSpec.ofChange fnExactMapRootSpec)) fnExactMapRootCard

/-- THE SECOND FORM's CARD OF 'laws.FnClashes'. -/
def fnClashesUptoCard : Claim7 := { stood := { row := fnClashesUptoRow, standIns := [], harness := (true, "175031a7d21a8db8b6ed6a7a497089fe504ae6157f535fa4a9479a9f29c73022"), looks := true }, kinds := [], alts := [], laidByText := true, laidKinds := [.data], laidTests := true, laidLooks := .later }
def FnClashesUptoCardSaid : Prop := Claim7.holds Tryd.pinned (.plain (OpenSpec.upto fnClashesSpec)) fnClashesUptoCard

/-- THE SECOND FORM's CARD OF 'laws.FnMaps'. -/
def fnMapsUptoCard : Claim7 := { stood := { row := fnMapsUptoRow, standIns := [], harness := (true, "175031a7d21a8db8b6ed6a7a497089fe504ae6157f535fa4a9479a9f29c73022"), looks := true }, kinds := [], alts := [], laidByText := true, laidKinds := [.data], laidTests := true, laidLooks := .later }
def FnMapsUptoCardSaid : Prop := Claim7.holds Tryd.pinned (.plain (OpenSpec.upto fnMapsSpec)) fnMapsUptoCard

/-- THE SECOND FORM's CARD OF 'laws.FnMapTrue'. -/
def fnMapTrueUptoCard : Claim7 := { stood := { row := fnMapTrueUptoRow, standIns := [], harness := (true, "175031a7d21a8db8b6ed6a7a497089fe504ae6157f535fa4a9479a9f29c73022"), looks := true }, kinds := [], alts := [], laidByText := true, laidKinds := [.data], laidTests := true, laidLooks := .later }
def FnMapTrueUptoCardSaid : Prop := Claim7.holds Tryd.pinned (.plain (OpenSpec.upto fnMapTrueSpec)) fnMapTrueUptoCard

/-- THE SECOND FORM's CARD OF 'laws.FnExactSlotSum'. -/
def fnExactSlotSumUptoCard : Claim7 := { stood := { row := fnExactSlotSumUptoRow, standIns := [], harness := (true, "175031a7d21a8db8b6ed6a7a497089fe504ae6157f535fa4a9479a9f29c73022"), looks := true }, kinds := [], alts := [], laidByText := true, laidKinds := [.data], laidTests := true, laidLooks := .later }
def FnExactSlotSumUptoCardSaid : Prop := Claim7.holds Tryd.pinned (.plain (OpenSpec.upto fnExactSlotSumSpec)) fnExactSlotSumUptoCard

/-- THE SECOND FORM's CARD OF 'laws.FnExactMapRoot'. -/
def fnExactMapRootUptoCard : Claim7 := { stood := { row := fnExactMapRootUptoRow, standIns := [], harness := (true, "175031a7d21a8db8b6ed6a7a497089fe504ae6157f535fa4a9479a9f29c73022"), looks := true }, kinds := [], alts := [], laidByText := true, laidKinds := [.data], laidTests := true, laidLooks := .later }
def FnExactMapRootUptoCardSaid : Prop := Claim7.holds Tryd.pinned (.plain (OpenSpec.upto fnExactMapRootSpec)) fnExactMapRootUptoCard
end Rows
end Go.Proofs.YtlcjaffoblldpaaDoor
