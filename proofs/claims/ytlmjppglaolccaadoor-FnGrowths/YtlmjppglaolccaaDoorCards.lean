/-
  DERIVED. GIVEN WITH THE SEED: THE CARDS: each row of YtlmjppglaolccaaDoorRows.lean that lists a variable, with what it lists TIED to the program's text (the seventh form; the later family's looks); each row that meets fmt, with fmt's text TOLD by the authors' own Lean function (tested against real Go, not proved from fmt's source: count such statements apart). THE CARD IS WHAT COUNTS. Prove the row's statement (the work); the ties are given (YtlmjppglaolccaaDoorTie.lean); close each card by the builder's one call (the guide's Derived/Test/ToyasCard.lean, 'card_holds'). Laid BY PROGRAM, IN A SANDBOX (cutbox-door.mjs). By AI agents, Wed Nov 11 2026. No macro, syntax, notation, axiom, sorry.
-/
import Derived.Test.YtlmjppglaolccaaDoorRows
import GoSem.ClaimSeven
namespace Go.Proofs.YtlmjppglaolccaaDoor
namespace Rows

/-- THE TIED CARD OF 'laws.FnGrowths'. -/
def fnGrowthsCard : Claim7 := { stood := { row := fnGrowthsRow, standIns := [], harness := (true, "3742b2ab588c1a94c1cd22118a81a420c776859a57690c91765553abf8476820"), looks := false }, kinds := [], alts := [], laidByText := true, laidKinds := [.data], laidTests := true, laidLooks := .later }
def FnGrowthsCardSaid : Prop := Claim7.holds Tryd.pinned (.plain (OpenSpec.ofChange fnGrowthsSpec)) fnGrowthsCard

/-- THE TIED CARD OF 'laws.FnExactGrowthOf'. -/
def fnExactGrowthOfCard : Claim7 := { stood := { row := fnExactGrowthOfRow, standIns := [], harness := (true, "3742b2ab588c1a94c1cd22118a81a420c776859a57690c91765553abf8476820"), looks := false }, kinds := [], alts := [], laidByText := true, laidKinds := [.data], laidTests := true, laidLooks := .later }
def FnExactGrowthOfCardSaid : Prop := Claim7.holds Tryd.pinned (.plain (OpenSpec.ofChange fnExactGrowthOfSpec)) fnExactGrowthOfCard

/-- THE TIED CARD OF 'laws.FnExactGrowRoots'. -/
def fnExactGrowRootsCard : Claim7 := { stood := { row := fnExactGrowRootsRow, standIns := [], harness := (true, "3742b2ab588c1a94c1cd22118a81a420c776859a57690c91765553abf8476820"), looks := false }, kinds := [], alts := [], laidByText := true, laidKinds := [.data], laidTests := true, laidLooks := .later }
def FnExactGrowRootsCardSaid : Prop := Claim7.holds Tryd.pinned (.plain (OpenSpec.ofChange fnExactGrowRootsSpec)) fnExactGrowRootsCard

/-- THE TIED CARD OF 'laws.FnExactAcceptGrowth'. -/
def fnExactAcceptGrowthCard : Claim7 := { stood := { row := fnExactAcceptGrowthRow, standIns := [], harness := (true, "3742b2ab588c1a94c1cd22118a81a420c776859a57690c91765553abf8476820"), looks := false }, kinds := [], alts := [], laidByText := true, laidKinds := [.data], laidTests := true, laidLooks := .later }
def FnExactAcceptGrowthCardSaid : Prop := Claim7.holds Tryd.pinned (.plain (OpenSpec.ofChange fnExactAcceptGrowthSpec)) fnExactAcceptGrowthCard

/-- THE SECOND FORM's CARD OF 'laws.FnGrowths'. -/
def fnGrowthsUptoCard : Claim7 := { stood := { row := fnGrowthsUptoRow, standIns := [], harness := (true, "3742b2ab588c1a94c1cd22118a81a420c776859a57690c91765553abf8476820"), looks := false }, kinds := [], alts := [], laidByText := true, laidKinds := [.data], laidTests := true, laidLooks := .later }
def FnGrowthsUptoCardSaid : Prop := Claim7.holds Tryd.pinned (.plain (OpenSpec.upto fnGrowthsSpec)) fnGrowthsUptoCard

/-- THE SECOND FORM's CARD OF 'laws.FnExactGrowthOf'. -/
def fnExactGrowthOfUptoCard : Claim7 := { stood := { row := fnExactGrowthOfUptoRow, standIns := [], harness := (true, "3742b2ab588c1a94c1cd22118a81a420c776859a57690c91765553abf8476820"), looks := false }, kinds := [], alts := [], laidByText := true, laidKinds := [.data], laidTests := true, laidLooks := .later }
def FnExactGrowthOfUptoCardSaid : Prop := Claim7.holds Tryd.pinned (.plain (OpenSpec.upto fnExactGrowthOfSpec)) fnExactGrowthOfUptoCard

/-- THE SECOND FORM's CARD OF 'laws.FnExactGrowRoots'. -/
def fnExactGrowRootsUptoCard : Claim7 := { stood := { row := fnExactGrowRootsUptoRow, standIns := [], harness := (true, "3742b2ab588c1a94c1cd22118a81a420c776859a57690c91765553abf8476820"), looks := false }, kinds := [], alts := [], laidByText := true, laidKinds := [.data], laidTests := true, laidLooks := .later }
def FnExactGrowRootsUptoCardSaid : Prop := Claim7.holds Tryd.pinned (.plain (OpenSpec.upto fnExactGrowRootsSpec)) fnExactGrowRootsUptoCard

/-- THE SECOND FORM's CARD OF 'laws.FnExactAcceptGrowth'. -/
def fnExactAcceptGrowthUptoCard : Claim7 := { stood := { row := fnExactAcceptGrowthUptoRow, standIns := [], harness := (true, "3742b2ab588c1a94c1cd22118a81a420c776859a57690c91765553abf8476820"), looks := false }, kinds := [], alts := [], laidByText := true, laidKinds := [.data], laidTests := true, laidLooks := .later }
def FnExactAcceptGrowthUptoCardSaid : Prop := Claim7.holds Tryd.pinned (.plain (OpenSpec.upto fnExactAcceptGrowthSpec)) fnExactAcceptGrowthUptoCard
end Rows
end Go.Proofs.YtlmjppglaolccaaDoor
