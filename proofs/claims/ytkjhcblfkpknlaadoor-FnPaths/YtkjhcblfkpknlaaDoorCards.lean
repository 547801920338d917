/-
  DERIVED. GIVEN WITH THE SEED: THE CARDS: each row of YtkjhcblfkpknlaaDoorRows.lean that lists a variable, with what it lists TIED to the program's text (the seventh form; the later family's looks); each row that meets fmt, with fmt's text TOLD by the authors' own Lean function (tested against real Go, not proved from fmt's source: count such statements apart). THE CARD IS WHAT COUNTS. Prove the row's statement (the work); the ties are given (YtkjhcblfkpknlaaDoorTie.lean); close each card by the builder's one call (the guide's Derived/Test/ToyasCard.lean, 'card_holds'). Laid BY PROGRAM, IN A SANDBOX (cutbox-door.mjs). By AI agents, Wed Nov 11 2026. No macro, syntax, notation, axiom, sorry.
-/
import Derived.Test.YtkjhcblfkpknlaaDoorRows
import GoSem.ClaimSeven
namespace Go.Proofs.YtkjhcblfkpknlaaDoor
namespace Rows

/-- THE TIED CARD OF 'laws.FnPaths'. -/
def fnPathsCard : Claim7 := { stood := { row := fnPathsRow, standIns := [], harness := (true, "493e385a1599b458fe66e2afaafd96230504fbe62d8d69ac2d48f6841a7e103c"), looks := false }, kinds := [], alts := [], laidByText := true, laidKinds := [.data], laidTests := true, laidLooks := .later }
def FnPathsCardSaid : Prop := Claim7.holds Tryd.pinned (.plain (OpenSpec.ofChange fnPathsSpec)) fnPathsCard

/-- THE TIED CARD OF 'laws.FnRoots'. -/
def fnRootsCard : Claim7 := { stood := { row := fnRootsRow, standIns := [], harness := (true, "493e385a1599b458fe66e2afaafd96230504fbe62d8d69ac2d48f6841a7e103c"), looks := false }, kinds := [], alts := [], laidByText := true, laidKinds := [.data], laidTests := true, laidLooks := .later }
def FnRootsCardSaid : Prop := Claim7.holds Tryd.pinned (.plain (OpenSpec.ofChange fnRootsSpec)) fnRootsCard

/-- THE TIED CARD OF 'laws.FnExactRootOf'. -/
def fnExactRootOfCard : Claim7 := { stood := { row := fnExactRootOfRow, standIns := [], harness := (true, "493e385a1599b458fe66e2afaafd96230504fbe62d8d69ac2d48f6841a7e103c"), looks := false }, kinds := [], alts := [], laidByText := true, laidKinds := [.data], laidTests := true, laidLooks := .later }
def FnExactRootOfCardSaid : Prop := Claim7.holds Tryd.pinned (.plain (OpenSpec.ofChange fnExactRootOfSpec)) fnExactRootOfCard

/-- THE TIED CARD OF 'laws.FnExactPathOf'. -/
def fnExactPathOfCard : Claim7 := { stood := { row := fnExactPathOfRow, standIns := [], harness := (true, "493e385a1599b458fe66e2afaafd96230504fbe62d8d69ac2d48f6841a7e103c"), looks := false }, kinds := [], alts := [], laidByText := true, laidKinds := [.data], laidTests := true, laidLooks := .later }
def FnExactPathOfCardSaid : Prop := Claim7.holds Tryd.pinned (.plain (OpenSpec.ofChange fnExactPathOfSpec)) fnExactPathOfCard

/-- THE TIED CARD OF 'laws.FnExactClimbPath'. -/
def fnExactClimbPathCard : Claim7 := { stood := { row := fnExactClimbPathRow, standIns := [], harness := (true, "493e385a1599b458fe66e2afaafd96230504fbe62d8d69ac2d48f6841a7e103c"), looks := false }, kinds := [], alts := [], laidByText := true, laidKinds := [.data], laidTests := true, laidLooks := .later }
def FnExactClimbPathCardSaid : Prop := Claim7.holds Tryd.pinned (.plain (OpenSpec.ofChange fnExactClimbPathSpec)) fnExactClimbPathCard

/-- THE TIED CARD OF 'laws.FnExactAcceptLeaf'. -/
def fnExactAcceptLeafCard : Claim7 := { stood := { row := fnExactAcceptLeafRow, standIns := [], harness := (true, "493e385a1599b458fe66e2afaafd96230504fbe62d8d69ac2d48f6841a7e103c"), looks := false }, kinds := [], alts := [], laidByText := true, laidKinds := [.data], laidTests := true, laidLooks := .later }
def FnExactAcceptLeafCardSaid : Prop := Claim7.holds Tryd.pinned (.plain (OpenSpec.ofChange fnExactAcceptLeafSpec)) fnExactAcceptLeafCard

/-- THE TIED CARD OF 'laws.FnGrowths'. -/
def fnGrowthsCard : Claim7 := { stood := { row := fnGrowthsRow, standIns := [], harness := (true, "493e385a1599b458fe66e2afaafd96230504fbe62d8d69ac2d48f6841a7e103c"), looks := false }, kinds := [], alts := [], laidByText := true, laidKinds := [.data], laidTests := true, laidLooks := .later }
def FnGrowthsCardSaid : Prop := Claim7.holds Tryd.pinned (.plain (OpenSpec.ofChange fnGrowthsSpec)) fnGrowthsCard

/-- THE TIED CARD OF 'laws.FnExactGrowthOf'. -/
def fnExactGrowthOfCard : Claim7 := { stood := { row := fnExactGrowthOfRow, standIns := [], harness := (true, "493e385a1599b458fe66e2afaafd96230504fbe62d8d69ac2d48f6841a7e103c"), looks := false }, kinds := [], alts := [], laidByText := true, laidKinds := [.data], laidTests := true, laidLooks := .later }
def FnExactGrowthOfCardSaid : Prop := Claim7.holds Tryd.pinned (.plain (OpenSpec.ofChange fnExactGrowthOfSpec)) fnExactGrowthOfCard

/-- THE TIED CARD OF 'laws.FnExactGrowRoots'. -/
def fnExactGrowRootsCard : Claim7 := { stood := { row := fnExactGrowRootsRow, standIns := [], harness := (true, "493e385a1599b458fe66e2afaafd96230504fbe62d8d69ac2d48f6841a7e103c"), looks := false }, kinds := [], alts := [], laidByText := true, laidKinds := [.data], laidTests := true, laidLooks := .later }
def FnExactGrowRootsCardSaid : Prop := Claim7.holds Tryd.pinned (.plain (OpenSpec.ofChange fnExactGrowRootsSpec)) fnExactGrowRootsCard

/-- THE TIED CARD OF 'laws.FnExactAcceptGrowth'. -/
def fnExactAcceptGrowthCard : Claim7 := { stood := { row := fnExactAcceptGrowthRow, standIns := [], harness := (true, "493e385a1599b458fe66e2afaafd96230504fbe62d8d69ac2d48f6841a7e103c"), looks := false }, kinds := [], alts := [], laidByText := true, laidKinds := [.data], laidTests := true, laidLooks := .later }
def FnExactAcceptGrowthCardSaid : Prop := Claim7.holds Tryd.pinned (.plain (OpenSpec.ofChange fnExactAcceptGrowthSpec)) fnExactAcceptGrowthCard

/-- THE SECOND FORM's CARD OF 'laws.FnPaths'. -/
def fnPathsUptoCard : Claim7 := { stood := { row := fnPathsUptoRow, standIns := [], harness := (true, "493e385a1599b458fe66e2afaafd96230504fbe62d8d69ac2d48f6841a7e103c"), looks := false }, kinds := [], alts := [], laidByText := true, laidKinds := [.data], laidTests := true, laidLooks := .later }
def FnPathsUptoCardSaid : Prop := Claim7.holds Tryd.pinned (.plain (OpenSpec.upto fnPathsSpec)) fnPathsUptoCard

/-- THE SECOND FORM's CARD OF 'laws.FnRoots'. -/
def fnRootsUptoCard : Claim7 := { stood := { row := fnRootsUptoRow, standIns := [], harness := (true, "493e385a1599b458fe66e2afaafd96230504fbe62d8d69ac2d48f6841a7e103c"), looks := false }, kinds := [], alts := [], laidByText := true, laidKinds := [.data], laidTests := true, laidLooks := .later }
def FnRootsUptoCardSaid : Prop := Claim7.holds Tryd.pinned (.plain (OpenSpec.upto fnRootsSpec)) fnRootsUptoCard

/-- THE SECOND FORM's CARD OF 'laws.FnExactRootOf'. -/
def fnExactRootOfUptoCard : Claim7 := { stood := { row := fnExactRootOfUptoRow, standIns := [], harness := (true, "493e385a1599b458fe66e2afaafd96230504fbe62d8d69ac2d48f6841a7e103c"), looks := false }, kinds := [], alts := [], laidByText := true, laidKinds := [.data], laidTests := true, laidLooks := .later }
def FnExactRootOfUptoCardSaid : Prop := Claim7.holds Tryd.pinned (.plain (OpenSpec.upto fnExactRootOfSpec)) fnExactRootOfUptoCard

/-- THE SECOND FORM's CARD OF 'laws.FnExactPathOf'. -/
def fnExactPathOfUptoCard : Claim7 := { stood := { row := fnExactPathOfUptoRow, standIns := [], harness := (true, "493e385a1599b458fe66e2afaafd96230504fbe62d8d69ac2d48f6841a7e103c"), looks := false }, kinds := [], alts := [], laidByText := true, laidKinds := [.data], laidTests := true, laidLooks := .later }
def FnExactPathOfUptoCardSaid : Prop := Claim7.holds Tryd.pinned (.plain (OpenSpec.upto fnExactPathOfSpec)) fnExactPathOfUptoCard

/-- THE SECOND FORM's CARD OF 'laws.FnExactClimbPath'. -/
def fnExactClimbPathUptoCard : Claim7 := { stood := { row := fnExactClimbPathUptoRow, standIns := [], harness := (true, "493e385a1599b458fe66e2afaafd96230504fbe62d8d69ac2d48f6841a7e103c"), looks := false }, kinds := [], alts := [], laidByText := true, laidKinds := [.data], laidTests := true, laidLooks := .later }
def FnExactClimbPathUptoCardSaid : Prop := Claim7.holds Tryd.pinned (.plain (OpenSpec.upto fnExactClimbPathSpec)) fnExactClimbPathUptoCard

/-- THE SECOND FORM's CARD OF 'laws.FnExactAcceptLeaf'. -/
def fnExactAcceptLeafUptoCard : Claim7 := { stood := { row := fnExactAcceptLeafUptoRow, standIns := [], harness := (true, "493e385a1599b458fe66e2afaafd96230504fbe62d8d69ac2d48f6841a7e103c"), looks := false }, kinds := [], alts := [], laidByText := true, laidKinds := [.data], laidTests := true, laidLooks := .later }
def FnExactAcceptLeafUptoCardSaid : Prop := Claim7.holds Tryd.pinned (.plain (OpenSpec.upto fnExactAcceptLeafSpec)) fnExactAcceptLeafUptoCard

/-- THE SECOND FORM's CARD OF 'laws.FnGrowths'. -/
def fnGrowthsUptoCard : Claim7 := { stood := { row := fnGrowthsUptoRow, standIns := [], harness := (true, "493e385a1599b458fe66e2afaafd96230504fbe62d8d69ac2d48f6841a7e103c"), looks := false }, kinds := [], alts := [], laidByText := true, laidKinds := [.data], laidTests := true, laidLooks := .later }
def FnGrowthsUptoCardSaid : Prop := Claim7.holds Tryd.pinned (.plain (OpenSpec.upto fnGrowthsSpec)) fnGrowthsUptoCard

/-- THE SECOND FORM's CARD OF 'laws.FnExactGrowthOf'. -/
def fnExactGrowthOfUptoCard : Claim7 := { stood := { row := fnExactGrowthOfUptoRow, standIns := [], harness := (true, "493e385a1599b458fe66e2afaafd96230504fbe62d8d69ac2d48f6841a7e103c"), looks := false }, kinds := [], alts := [], laidByText := true, laidKinds := [.data], laidTests := true, laidLooks := .later }
def FnExactGrowthOfUptoCardSaid : Prop := Claim7.holds Tryd.pinned (.plain (OpenSpec.upto fnExactGrowthOfSpec)) fnExactGrowthOfUptoCard

/-- THE SECOND FORM's CARD OF 'laws.FnExactGrowRoots'. -/
def fnExactGrowRootsUptoCard : Claim7 := { stood := { row := fnExactGrowRootsUptoRow, standIns := [], harness := (true, "493e385a1599b458fe66e2afaafd96230504fbe62d8d69ac2d48f6841a7e103c"), looks := false }, kinds := [], alts := [], laidByText := true, laidKinds := [.data], laidTests := true, laidLooks := .later }
def FnExactGrowRootsUptoCardSaid : Prop := Claim7.holds Tryd.pinned (.plain (OpenSpec.upto fnExactGrowRootsSpec)) fnExactGrowRootsUptoCard

/-- THE SECOND FORM's CARD OF 'laws.FnExactAcceptGrowth'. -/
def fnExactAcceptGrowthUptoCard : Claim7 := { stood := { row := fnExactAcceptGrowthUptoRow, standIns := [], harness := (true, "493e385a1599b458fe66e2afaafd96230504fbe62d8d69ac2d48f6841a7e103c"), looks := false }, kinds := [], alts := [], laidByText := true, laidKinds := [.data], laidTests := true, laidLooks := .later }
def FnExactAcceptGrowthUptoCardSaid : Prop := Claim7.holds Tryd.pinned (.plain (OpenSpec.upto fnExactAcceptGrowthSpec)) fnExactAcceptGrowthUptoCard
end Rows
end Go.Proofs.YtkjhcblfkpknlaaDoor
