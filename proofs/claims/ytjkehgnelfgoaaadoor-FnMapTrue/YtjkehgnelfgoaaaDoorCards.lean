/-
  DERIVED. GIVEN WITH THE SEED: THE CARDS: each row of YtjkehgnelfgoaaaDoorRows.lean that lists a variable, with what it lists TIED to the program's text (the seventh form; the later family's looks); each row that meets fmt, with fmt's text TOLD by the authors' own Lean function (tested against real Go, not proved from fmt's source: count such statements apart). THE CARD IS WHAT COUNTS. Prove the row's statement (the work); the ties are given (YtjkehgnelfgoaaaDoorTie.lean); close each card by the builder's one call (the guide's Derived/Test/ToyasCard.lean, 'card_holds'). Laid BY PROGRAM, IN A SANDBOX (cutbox-door.mjs). By AI agents, Wed Nov 11 2026. No macro, syntax, notation, axiom, sorry.
-/
import Derived.Test.YtjkehgnelfgoaaaDoorRows
import GoSem.ClaimSeven
namespace Go.Proofs.YtjkehgnelfgoaaaDoor
namespace Rows

/-- THE TIED CARD OF 'laws.FnMaps'. -/
def fnMapsCard : Claim7 := { stood := { row := fnMapsRow, standIns := [], harness := (true, "ca462217bac08acb4fb43b951522bfd96cb77426f2f8712abd31468d6dba192b"), looks := true }, kinds := [], alts := [], laidByText := true, laidKinds := [.data], laidTests := true, laidLooks := .later }
def FnMapsCardSaid : Prop := Claim7.holds Tryd.pinned (.plain (OpenSpec.ofChange fnMapsSpec)) fnMapsCard

/-- THE TIED CARD OF 'laws.FnMapTrue'. -/
def fnMapTrueCard : Claim7 := { stood := { row := fnMapTrueRow, standIns := [], harness := (true, "ca462217bac08acb4fb43b951522bfd96cb77426f2f8712abd31468d6dba192b"), looks := true }, kinds := [], alts := [], laidByText := true, laidKinds := [.data], laidTests := true, laidLooks := .later }
def FnMapTrueCardSaid : Prop := Claim7.holds Tryd.pinned (.plain (OpenSpec.ofChange fnMapTrueSpec)) fnMapTrueCard

/-- THE TIED CARD OF 'laws.FnExactMapClash'. -/
def fnExactMapClashCard : Claim7 := { stood := { row := fnExactMapClashRow, standIns := [], harness := (true, "ca462217bac08acb4fb43b951522bfd96cb77426f2f8712abd31468d6dba192b"), looks := true }, kinds := [], alts := [], laidByText := true, laidKinds := [.data], laidTests := true, laidLooks := .later }
def FnExactMapClashCardSaid : Prop := Claim7.holds Tryd.pinned (.plain (OpenSpec.ofChange fnExactMapClashSpec)) fnExactMapClashCard

/-- THE SECOND FORM's CARD OF 'laws.FnMaps'. -/
def fnMapsUptoCard : Claim7 := { stood := { row := fnMapsUptoRow, standIns := [], harness := (true, "ca462217bac08acb4fb43b951522bfd96cb77426f2f8712abd31468d6dba192b"), looks := true }, kinds := [], alts := [], laidByText := true, laidKinds := [.data], laidTests := true, laidLooks := .later }
def FnMapsUptoCardSaid : Prop := Claim7.holds Tryd.pinned (.plain (OpenSpec.upto fnMapsSpec)) fnMapsUptoCard

/-- THE SECOND FORM's CARD OF 'laws.FnMapTrue'. -/
def fnMapTrueUptoCard : Claim7 := { stood := { row := fnMapTrueUptoRow, standIns := [], harness := (true, "ca462217bac08acb4fb43b951522bfd96cb77426f2f8712abd31468d6dba192b"), looks := true }, kinds := [], alts := [], laidByText := true, laidKinds := [.data], laidTests := true, laidLooks := .later }
def FnMapTrueUptoCardSaid : Prop := Claim7.holds Tryd.pinned (.plain (OpenSpec.upto fnMapTrueSpec)) fnMapTrueUptoCard

/-- THE SECOND FORM's CARD OF 'laws.FnExactMapClash'. -/
def fnExactMapClashUptoCard : Claim7 := { stood := { row := fnExactMapClashUptoRow, standIns := [], harness := (true, "ca462217bac08acb4fb43b951522bfd96cb77426f2f8712abd31468d6dba192b"), looks := true }, kinds := [], alts := [], laidByText := true, laidKinds := [.data], laidTests := true, laidLooks := .later }
def FnExactMapClashUptoCardSaid : Prop := Claim7.holds Tryd.pinned (.plain (OpenSpec.upto fnExactMapClashSpec)) fnExactMapClashUptoCard
end Rows
end Go.Proofs.YtjkehgnelfgoaaaDoor
