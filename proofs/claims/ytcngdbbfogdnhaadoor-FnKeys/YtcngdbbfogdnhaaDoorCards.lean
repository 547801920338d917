/-
  DERIVED. GIVEN WITH THE SEED: THE CARDS: each row of YtcngdbbfogdnhaaDoorRows.lean that lists a variable, with what it lists TIED to the program's text (the seventh form; the later family's looks); each row that meets fmt, with fmt's text TOLD by the authors' own Lean function (tested against real Go, not proved from fmt's source: count such statements apart). THE CARD IS WHAT COUNTS. Prove the row's statement (the work); the ties are given (YtcngdbbfogdnhaaDoorTie.lean); close each card by the builder's one call (the guide's Derived/Test/ToyasCard.lean, 'card_holds'). Laid BY PROGRAM, IN A SANDBOX (cutbox-door.mjs). By AI agents, Wed Nov 11 2026. No macro, syntax, notation, axiom, sorry.
-/
import Derived.Test.YtcngdbbfogdnhaaDoorRows
import GoSem.ClaimSeven
namespace Go.Proofs.YtcngdbbfogdnhaaDoor
namespace Rows

/-- THE TIED CARD OF 'laws.FnMaps'. -/
def fnMapsCard : Claim7 := { stood := { row := fnMapsRow, standIns := [], harness := (true, "d8ee9b4e26ae9f7cc2d11b16aef257ec93f733ad8d6f0de2df36e8617b9bae0c"), looks := true }, kinds := [], alts := [], laidByText := true, laidKinds := [.data], laidTests := true, laidLooks := .later }
def FnMapsCardSaid : Prop := Claim7.holds Tryd.pinned (.plain (OpenSpec.ofChange fnMapsSpec)) fnMapsCard

/-- THE TIED CARD OF 'laws.FnMapTrue'. -/
def fnMapTrueCard : Claim7 := { stood := { row := fnMapTrueRow, standIns := [], harness := (true, "d8ee9b4e26ae9f7cc2d11b16aef257ec93f733ad8d6f0de2df36e8617b9bae0c"), looks := true }, kinds := [], alts := [], laidByText := true, laidKinds := [.data], laidTests := true, laidLooks := .later }
def FnMapTrueCardSaid : Prop := Claim7.holds Tryd.pinned (.plain (OpenSpec.ofChange fnMapTrueSpec)) fnMapTrueCard

/-- THE TIED CARD OF 'laws.FnKeys'. -/
def fnKeysCard : Claim7 := { stood := { row := fnKeysRow, standIns := [], harness := (true, "d8ee9b4e26ae9f7cc2d11b16aef257ec93f733ad8d6f0de2df36e8617b9bae0c"), looks := true }, kinds := [], alts := [], laidByText := true, laidKinds := [.data], laidTests := true, laidLooks := .later }
def FnKeysCardSaid : Prop := Claim7.holds Tryd.pinned (.plain (OpenSpec.ofChange fnKeysSpec)) fnKeysCard

/-- THE TIED CARD OF 'laws.FnSigns'. -/
def fnSignsCard : Claim7 := { stood := { row := fnSignsRow, standIns := [], harness := (true, "d8ee9b4e26ae9f7cc2d11b16aef257ec93f733ad8d6f0de2df36e8617b9bae0c"), looks := true }, kinds := [], alts := [], laidByText := true, laidKinds := [.data], laidTests := true, laidLooks := .later }
def FnSignsCardSaid : Prop := Claim7.holds Tryd.pinned (.plain (OpenSpec.ofChange fnSignsSpec)) fnSignsCard

/-- THE TIED CARD OF 'laws.FnExactMapClash'. -/
def fnExactMapClashCard : Claim7 := { stood := { row := fnExactMapClashRow, standIns := [], harness := (true, "d8ee9b4e26ae9f7cc2d11b16aef257ec93f733ad8d6f0de2df36e8617b9bae0c"), looks := true }, kinds := [], alts := [], laidByText := true, laidKinds := [.data], laidTests := true, laidLooks := .later }
def FnExactMapClashCardSaid : Prop := Claim7.holds Tryd.pinned (.plain (OpenSpec.ofChange fnExactMapClashSpec)) fnExactMapClashCard

/-- THE TIED CARD OF 'laws.FnExactSecretOf'. -/
def fnExactSecretOfCard : Claim7 := { stood := { row := fnExactSecretOfRow, standIns := [], harness := (true, "d8ee9b4e26ae9f7cc2d11b16aef257ec93f733ad8d6f0de2df36e8617b9bae0c"), looks := true }, kinds := [], alts := [], laidByText := true, laidKinds := [.data], laidTests := true, laidLooks := .later }
def FnExactSecretOfCardSaid : Prop := Claim7.holds Tryd.pinned (.plain (OpenSpec.ofChange fnExactSecretOfSpec)) fnExactSecretOfCard

/-- THE TIED CARD OF 'laws.FnExactPublicOf'. -/
def fnExactPublicOfCard : Claim7 := { stood := { row := fnExactPublicOfRow, standIns := [], harness := (true, "d8ee9b4e26ae9f7cc2d11b16aef257ec93f733ad8d6f0de2df36e8617b9bae0c"), looks := true }, kinds := [], alts := [], laidByText := true, laidKinds := [.data], laidTests := true, laidLooks := .later }
def FnExactPublicOfCardSaid : Prop := Claim7.holds Tryd.pinned (.plain (OpenSpec.ofChange fnExactPublicOfSpec)) fnExactPublicOfCard

/-- THE TIED CARD OF 'laws.FnExactKeySum'. -/
def fnExactKeySumCard : Claim7 := { stood := { row := fnExactKeySumRow, standIns := [], harness := (true, "d8ee9b4e26ae9f7cc2d11b16aef257ec93f733ad8d6f0de2df36e8617b9bae0c"), looks := true }, kinds := [], alts := [], laidByText := true, laidKinds := [.data], laidTests := true, laidLooks := .later }
def FnExactKeySumCardSaid : Prop := Claim7.holds Tryd.pinned (.plain (OpenSpec.ofChange fnExactKeySumSpec)) fnExactKeySumCard

/-- THE TIED CARD OF 'laws.FnExactKeysRoot'. -/
def fnExactKeysRootCard : Claim7 := { stood := { row := fnExactKeysRootRow, standIns := [], harness := (true, "d8ee9b4e26ae9f7cc2d11b16aef257ec93f733ad8d6f0de2df36e8617b9bae0c"), looks := true }, kinds := [], alts := [], laidByText := true, laidKinds := [.data], laidTests := true, laidLooks := .later }
def FnExactKeysRootCardSaid : Prop := Claim7.holds Tryd.pinned (.plain (OpenSpec.ofChange fnExactKeysRootSpec)) fnExactKeysRootCard

/-- THE TIED CARD OF 'laws.FnExactSignSum'. -/
def fnExactSignSumCard : Claim7 := { stood := { row := fnExactSignSumRow, standIns := [], harness := (true, "d8ee9b4e26ae9f7cc2d11b16aef257ec93f733ad8d6f0de2df36e8617b9bae0c"), looks := true }, kinds := [], alts := [], laidByText := true, laidKinds := [.data], laidTests := true, laidLooks := .later }
def FnExactSignSumCardSaid : Prop := Claim7.holds Tryd.pinned (.plain (OpenSpec.ofChange fnExactSignSumSpec)) fnExactSignSumCard

/-- THE TIED CARD OF 'laws.FnExactOpenSign'. -/
def fnExactOpenSignCard : Claim7 := { stood := { row := fnExactOpenSignRow, standIns := [], harness := (true, "d8ee9b4e26ae9f7cc2d11b16aef257ec93f733ad8d6f0de2df36e8617b9bae0c"), looks := true }, kinds := [], alts := [], laidByText := true, laidKinds := [.data], laidTests := true, laidLooks := .later }
def FnExactOpenSignCardSaid : Prop := Claim7.holds Tryd.pinned (.plain (OpenSpec.ofChange fnExactOpenSignSpec)) fnExactOpenSignCard

/-- THE TIED CARD OF 'laws.FnExactCheckSign'. -/
def fnExactCheckSignCard : Claim7 := { stood := { row := fnExactCheckSignRow, standIns := [], harness := (true, "d8ee9b4e26ae9f7cc2d11b16aef257ec93f733ad8d6f0de2df36e8617b9bae0c"), looks := true }, kinds := [], alts := [], laidByText := true, laidKinds := [.data], laidTests := true, laidLooks := .later }
def FnExactCheckSignCardSaid : Prop := Claim7.holds Tryd.pinned (.plain (OpenSpec.ofChange fnExactCheckSignSpec)) fnExactCheckSignCard

/-- THE SECOND FORM's CARD OF 'laws.FnMaps'. -/
def fnMapsUptoCard : Claim7 := { stood := { row := fnMapsUptoRow, standIns := [], harness := (true, "d8ee9b4e26ae9f7cc2d11b16aef257ec93f733ad8d6f0de2df36e8617b9bae0c"), looks := true }, kinds := [], alts := [], laidByText := true, laidKinds := [.data], laidTests := true, laidLooks := .later }
def FnMapsUptoCardSaid : Prop := Claim7.holds Tryd.pinned (.plain (OpenSpec.upto fnMapsSpec)) fnMapsUptoCard

/-- THE SECOND FORM's CARD OF 'laws.FnMapTrue'. -/
def fnMapTrueUptoCard : Claim7 := { stood := { row := fnMapTrueUptoRow, standIns := [], harness := (true, "d8ee9b4e26ae9f7cc2d11b16aef257ec93f733ad8d6f0de2df36e8617b9bae0c"), looks := true }, kinds := [], alts := [], laidByText := true, laidKinds := [.data], laidTests := true, laidLooks := .later }
def FnMapTrueUptoCardSaid : Prop := Claim7.holds Tryd.pinned (.plain (OpenSpec.upto fnMapTrueSpec)) fnMapTrueUptoCard

/-- THE SECOND FORM's CARD OF 'laws.FnKeys'. -/
def fnKeysUptoCard : Claim7 := { stood := { row := fnKeysUptoRow, standIns := [], harness := (true, "d8ee9b4e26ae9f7cc2d11b16aef257ec93f733ad8d6f0de2df36e8617b9bae0c"), looks := true }, kinds := [], alts := [], laidByText := true, laidKinds := [.data], laidTests := true, laidLooks := .later }
def FnKeysUptoCardSaid : Prop := Claim7.holds Tryd.pinned (.plain (OpenSpec.upto fnKeysSpec)) fnKeysUptoCard

/-- THE SECOND FORM's CARD OF 'laws.FnSigns'. -/
def fnSignsUptoCard : Claim7 := { stood := { row := fnSignsUptoRow, standIns := [], harness := (true, "d8ee9b4e26ae9f7cc2d11b16aef257ec93f733ad8d6f0de2df36e8617b9bae0c"), looks := true }, kinds := [], alts := [], laidByText := true, laidKinds := [.data], laidTests := true, laidLooks := .later }
def FnSignsUptoCardSaid : Prop := Claim7.holds Tryd.pinned (.plain (OpenSpec.upto fnSignsSpec)) fnSignsUptoCard

/-- THE SECOND FORM's CARD OF 'laws.FnExactMapClash'. -/
def fnExactMapClashUptoCard : Claim7 := { stood := { row := fnExactMapClashUptoRow, standIns := [], harness := (true, "d8ee9b4e26ae9f7cc2d11b16aef257ec93f733ad8d6f0de2df36e8617b9bae0c"), looks := true }, kinds := [], alts := [], laidByText := true, laidKinds := [.data], laidTests := true, laidLooks := .later }
def FnExactMapClashUptoCardSaid : Prop := Claim7.holds Tryd.pinned (.plain (OpenSpec.upto fnExactMapClashSpec)) fnExactMapClashUptoCard

/-- THE SECOND FORM's CARD OF 'laws.FnExactSecretOf'. -/
def fnExactSecretOfUptoCard : Claim7 := { stood := { row := fnExactSecretOfUptoRow, standIns := [], harness := (true, "d8ee9b4e26ae9f7cc2d11b16aef257ec93f733ad8d6f0de2df36e8617b9bae0c"), looks := true }, kinds := [], alts := [], laidByText := true, laidKinds := [.data], laidTests := true, laidLooks := .later }
def FnExactSecretOfUptoCardSaid : Prop := Claim7.holds Tryd.pinned (.plain (OpenSpec.upto fnExactSecretOfSpec)) fnExactSecretOfUptoCard

/-- THE SECOND FORM's CARD OF 'laws.FnExactPublicOf'. -/
def fnExactPublicOfUptoCard : Claim7 := { stood := { row := fnExactPublicOfUptoRow, standIns := [], harness := (true, "d8ee9b4e26ae9f7cc2d11b16aef257ec93f733ad8d6f0de2df36e8617b9bae0c"), looks := true }, kinds := [], alts := [], laidByText := true, laidKinds := [.data], laidTests := true, laidLooks := .later }
def FnExactPublicOfUptoCardSaid : Prop := Claim7.holds Tryd.pinned (.plain (OpenSpec.upto fnExactPublicOfSpec)) fnExactPublicOfUptoCard

/-- THE SECOND FORM's CARD OF 'laws.FnExactKeySum'. -/
def fnExactKeySumUptoCard : Claim7 := { stood := { row := fnExactKeySumUptoRow, standIns := [], harness := (true, "d8ee9b4e26ae9f7cc2d11b16aef257ec93f733ad8d6f0de2df36e8617b9bae0c"), looks := true }, kinds := [], alts := [], laidByText := true, laidKinds := [.data], laidTests := true, laidLooks := .later }
def FnExactKeySumUptoCardSaid : Prop := Claim7.holds Tryd.pinned (.plain (OpenSpec.upto fnExactKeySumSpec)) fnExactKeySumUptoCard

/-- THE SECOND FORM's CARD OF 'laws.FnExactKeysRoot'. -/
def fnExactKeysRootUptoCard : Claim7 := { stood := { row := fnExactKeysRootUptoRow, standIns := [], harness := (true, "d8ee9b4e26ae9f7cc2d11b16aef257ec93f733ad8d6f0de2df36e8617b9bae0c"), looks := true }, kinds := [], alts := [], laidByText := true, laidKinds := [.data], laidTests := true, laidLooks := .later }
def FnExactKeysRootUptoCardSaid : Prop := Claim7.holds Tryd.pinned (.plain (OpenSpec.upto fnExactKeysRootSpec)) fnExactKeysRootUptoCard

/-- THE SECOND FORM's CARD OF 'laws.FnExactSignSum'. -/
def fnExactSignSumUptoCard : Claim7 := { stood := { row := fnExactSignSumUptoRow, standIns := [], harness := (true, "d8ee9b4e26ae9f7cc2d11b16aef257ec93f733ad8d6f0de2df36e8617b9bae0c"), looks := true }, kinds := [], alts := [], laidByText := true, laidKinds := [.data], laidTests := true, laidLooks := .later }
def FnExactSignSumUptoCardSaid : Prop := Claim7.holds Tryd.pinned (.plain (OpenSpec.upto fnExactSignSumSpec)) fnExactSignSumUptoCard

/-- THE SECOND FORM's CARD OF 'laws.FnExactOpenSign'. -/
def fnExactOpenSignUptoCard : Claim7 := { stood := { row := fnExactOpenSignUptoRow, standIns := [], harness := (true, "d8ee9b4e26ae9f7cc2d11b16aef257ec93f733ad8d6f0de2df36e8617b9bae0c"), looks := true }, kinds := [], alts := [], laidByText := true, laidKinds := [.data], laidTests := true, laidLooks := .later }
def FnExactOpenSignUptoCardSaid : Prop := Claim7.holds Tryd.pinned (.plain (OpenSpec.upto fnExactOpenSignSpec)) fnExactOpenSignUptoCard

/-- THE SECOND FORM's CARD OF 'laws.FnExactCheckSign'. -/
def fnExactCheckSignUptoCard : Claim7 := { stood := { row := fnExactCheckSignUptoRow, standIns := [], harness := (true, "d8ee9b4e26ae9f7cc2d11b16aef257ec93f733ad8d6f0de2df36e8617b9bae0c"), looks := true }, kinds := [], alts := [], laidByText := true, laidKinds := [.data], laidTests := true, laidLooks := .later }
def FnExactCheckSignUptoCardSaid : Prop := Claim7.holds Tryd.pinned (.plain (OpenSpec.upto fnExactCheckSignSpec)) fnExactCheckSignUptoCard
end Rows
end Go.Proofs.YtcngdbbfogdnhaaDoor
