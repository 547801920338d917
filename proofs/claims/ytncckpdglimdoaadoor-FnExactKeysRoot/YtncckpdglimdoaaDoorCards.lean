/-
  DERIVED. GIVEN WITH THE SEED: THE CARDS: each row of YtncckpdglimdoaaDoorRows.lean that lists a variable, with what it lists TIED to the program's text (the seventh form; the later family's looks); each row that meets fmt, with fmt's text TOLD by the authors' own Lean function (tested against real Go, not proved from fmt's source: count such statements apart). THE CARD IS WHAT COUNTS. Prove the row's statement (the work); the ties are given (YtncckpdglimdoaaDoorTie.lean); close each card by the builder's one call (the guide's Derived/Test/ToyasCard.lean, 'card_holds'). Laid BY PROGRAM, IN A SANDBOX (cutbox-door.mjs). By AI agents, Wed Nov 11 2026. No macro, syntax, notation, axiom, sorry.
-/
import Derived.Test.YtncckpdglimdoaaDoorRows
import GoSem.ClaimSeven
namespace Go.Proofs.YtncckpdglimdoaaDoor
namespace Rows

/-- THE TIED CARD OF 'laws.FnKeys'. -/
def fnKeysCard : Claim7 := { stood := { row := fnKeysRow, standIns := [], harness := (true, "1000b9edf7b097753ed2255175e4cf7843a767d723ea82ca6521045e78a12466"), looks := false }, kinds := [], alts := [], laidByText := true, laidKinds := [.data], laidTests := true, laidLooks := .later }
def FnKeysCardSaid : Prop := Claim7.holds Tryd.pinned (.plain (OpenSpec.ofChange fnKeysSpec)) fnKeysCard

/-- THE TIED CARD OF 'laws.FnSigns'. -/
def fnSignsCard : Claim7 := { stood := { row := fnSignsRow, standIns := [], harness := (true, "1000b9edf7b097753ed2255175e4cf7843a767d723ea82ca6521045e78a12466"), looks := false }, kinds := [], alts := [], laidByText := true, laidKinds := [.data], laidTests := true, laidLooks := .later }
def FnSignsCardSaid : Prop := Claim7.holds Tryd.pinned (.plain (OpenSpec.ofChange fnSignsSpec)) fnSignsCard

/-- THE TIED CARD OF 'laws.FnExactSecretOf'. -/
def fnExactSecretOfCard : Claim7 := { stood := { row := fnExactSecretOfRow, standIns := [], harness := (true, "1000b9edf7b097753ed2255175e4cf7843a767d723ea82ca6521045e78a12466"), looks := false }, kinds := [], alts := [], laidByText := true, laidKinds := [.data], laidTests := true, laidLooks := .later }
def FnExactSecretOfCardSaid : Prop := Claim7.holds Tryd.pinned (.plain (OpenSpec.ofChange fnExactSecretOfSpec)) fnExactSecretOfCard

/-- THE TIED CARD OF 'laws.FnExactPublicOf'. -/
def fnExactPublicOfCard : Claim7 := { stood := { row := fnExactPublicOfRow, standIns := [], harness := (true, "1000b9edf7b097753ed2255175e4cf7843a767d723ea82ca6521045e78a12466"), looks := false }, kinds := [], alts := [], laidByText := true, laidKinds := [.data], laidTests := true, laidLooks := .later }
def FnExactPublicOfCardSaid : Prop := Claim7.holds Tryd.pinned (.plain (OpenSpec.ofChange fnExactPublicOfSpec)) fnExactPublicOfCard

/-- THE TIED CARD OF 'laws.FnExactKeySum'. -/
def fnExactKeySumCard : Claim7 := { stood := { row := fnExactKeySumRow, standIns := [], harness := (true, "1000b9edf7b097753ed2255175e4cf7843a767d723ea82ca6521045e78a12466"), looks := false }, kinds := [], alts := [], laidByText := true, laidKinds := [.data], laidTests := true, laidLooks := .later }
def FnExactKeySumCardSaid : Prop := Claim7.holds Tryd.pinned (.plain (OpenSpec.ofChange fnExactKeySumSpec)) fnExactKeySumCard

/-- THE TIED CARD OF 'laws.FnExactKeysRoot'. -/
def fnExactKeysRootCard : Claim7 := { stood := { row := fnExactKeysRootRow, standIns := [], harness := (true, "1000b9edf7b097753ed2255175e4cf7843a767d723ea82ca6521045e78a12466"), looks := false }, kinds := [], alts := [], laidByText := true, laidKinds := [.data], laidTests := true, laidLooks := .later }
def FnExactKeysRootCardSaid : Prop := Claim7.holds Tryd.pinned (.plain (OpenSpec.ofChange fnExactKeysRootSpec)) fnExactKeysRootCard

/-- THE TIED CARD OF 'laws.FnExactSignSum'. -/
def fnExactSignSumCard : Claim7 := { stood := { row := fnExactSignSumRow, standIns := [], harness := (true, "1000b9edf7b097753ed2255175e4cf7843a767d723ea82ca6521045e78a12466"), looks := false }, kinds := [], alts := [], laidByText := true, laidKinds := [.data], laidTests := true, laidLooks := .later }
def FnExactSignSumCardSaid : Prop := Claim7.holds Tryd.pinned (.plain (OpenSpec.ofChange fnExactSignSumSpec)) fnExactSignSumCard

/-- THE TIED CARD OF 'laws.FnExactOpenSign'. -/
def fnExactOpenSignCard : Claim7 := { stood := { row := fnExactOpenSignRow, standIns := [], harness := (true, "1000b9edf7b097753ed2255175e4cf7843a767d723ea82ca6521045e78a12466"), looks := false }, kinds := [], alts := [], laidByText := true, laidKinds := [.data], laidTests := true, laidLooks := .later }
def FnExactOpenSignCardSaid : Prop := Claim7.holds Tryd.pinned (.plain (OpenSpec.ofChange fnExactOpenSignSpec)) fnExactOpenSignCard

/-- THE TIED CARD OF 'laws.FnExactCheckSign'. -/
def fnExactCheckSignCard : Claim7 := { stood := { row := fnExactCheckSignRow, standIns := [], harness := (true, "1000b9edf7b097753ed2255175e4cf7843a767d723ea82ca6521045e78a12466"), looks := false }, kinds := [], alts := [], laidByText := true, laidKinds := [.data], laidTests := true, laidLooks := .later }
def FnExactCheckSignCardSaid : Prop := Claim7.holds Tryd.pinned (.plain (OpenSpec.ofChange fnExactCheckSignSpec)) fnExactCheckSignCard

/-- THE SECOND FORM's CARD OF 'laws.FnKeys'. -/
def fnKeysUptoCard : Claim7 := { stood := { row := fnKeysUptoRow, standIns := [], harness := (true, "1000b9edf7b097753ed2255175e4cf7843a767d723ea82ca6521045e78a12466"), looks := false }, kinds := [], alts := [], laidByText := true, laidKinds := [.data], laidTests := true, laidLooks := .later }
def FnKeysUptoCardSaid : Prop := Claim7.holds Tryd.pinned (.plain (OpenSpec.upto fnKeysSpec)) fnKeysUptoCard

/-- THE SECOND FORM's CARD OF 'laws.FnSigns'. -/
def fnSignsUptoCard : Claim7 := { stood := { row := fnSignsUptoRow, standIns := [], harness := (true, "1000b9edf7b097753ed2255175e4cf7843a767d723ea82ca6521045e78a12466"), looks := false }, kinds := [], alts := [], laidByText := true, laidKinds := [.data], laidTests := true, laidLooks := .later }
def FnSignsUptoCardSaid : Prop := Claim7.holds Tryd.pinned (.plain (OpenSpec.upto fnSignsSpec)) fnSignsUptoCard

/-- THE SECOND FORM's CARD OF 'laws.FnExactSecretOf'. -/
def fnExactSecretOfUptoCard : Claim7 := { stood := { row := fnExactSecretOfUptoRow, standIns := [], harness := (true, "1000b9edf7b097753ed2255175e4cf7843a767d723ea82ca6521045e78a12466"), looks := false }, kinds := [], alts := [], laidByText := true, laidKinds := [.data], laidTests := true, laidLooks := .later }
def FnExactSecretOfUptoCardSaid : Prop := Claim7.holds Tryd.pinned (.plain (OpenSpec.upto fnExactSecretOfSpec)) fnExactSecretOfUptoCard

/-- THE SECOND FORM's CARD OF 'laws.FnExactPublicOf'. -/
def fnExactPublicOfUptoCard : Claim7 := { stood := { row := fnExactPublicOfUptoRow, standIns := [], harness := (true, "1000b9edf7b097753ed2255175e4cf7843a767d723ea82ca6521045e78a12466"), looks := false }, kinds := [], alts := [], laidByText := true, laidKinds := [.data], laidTests := true, laidLooks := .later }
def FnExactPublicOfUptoCardSaid : Prop := Claim7.holds Tryd.pinned (.plain (OpenSpec.upto fnExactPublicOfSpec)) fnExactPublicOfUptoCard

/-- THE SECOND FORM's CARD OF 'laws.FnExactKeySum'. -/
def fnExactKeySumUptoCard : Claim7 := { stood := { row := fnExactKeySumUptoRow, standIns := [], harness := (true, "1000b9edf7b097753ed2255175e4cf7843a767d723ea82ca6521045e78a12466"), looks := false }, kinds := [], alts := [], laidByText := true, laidKinds := [.data], laidTests := true, laidLooks := .later }
def FnExactKeySumUptoCardSaid : Prop := Claim7.holds Tryd.pinned (.plain (OpenSpec.upto fnExactKeySumSpec)) fnExactKeySumUptoCard

/-- THE SECOND FORM's CARD OF 'laws.FnExactKeysRoot'. -/
def fnExactKeysRootUptoCard : Claim7 := { stood := { row := fnExactKeysRootUptoRow, standIns := [], harness := (true, "1000b9edf7b097753ed2255175e4cf7843a767d723ea82ca6521045e78a12466"), looks := false }, kinds := [], alts := [], laidByText := true, laidKinds := [.data], laidTests := true, laidLooks := .later }
def FnExactKeysRootUptoCardSaid : Prop := Claim7.holds Tryd.pinned (.plain (OpenSpec.upto fnExactKeysRootSpec)) fnExactKeysRootUptoCard

/-- THE SECOND FORM's CARD OF 'laws.FnExactSignSum'. -/
def fnExactSignSumUptoCard : Claim7 := { stood := { row := fnExactSignSumUptoRow, standIns := [], harness := (true, "1000b9edf7b097753ed2255175e4cf7843a767d723ea82ca6521045e78a12466"), looks := false }, kinds := [], alts := [], laidByText := true, laidKinds := [.data], laidTests := true, laidLooks := .later }
def FnExactSignSumUptoCardSaid : Prop := Claim7.holds Tryd.pinned (.plain (OpenSpec.upto fnExactSignSumSpec)) fnExactSignSumUptoCard

/-- THE SECOND FORM's CARD OF 'laws.FnExactOpenSign'. -/
def fnExactOpenSignUptoCard : Claim7 := { stood := { row := fnExactOpenSignUptoRow, standIns := [], harness := (true, "1000b9edf7b097753ed2255175e4cf7843a767d723ea82ca6521045e78a12466"), looks := false }, kinds := [], alts := [], laidByText := true, laidKinds := [.data], laidTests := true, laidLooks := .later }
def FnExactOpenSignUptoCardSaid : Prop := Claim7.holds Tryd.pinned (.plain (OpenSpec.upto fnExactOpenSignSpec)) fnExactOpenSignUptoCard

/-- THE SECOND FORM's CARD OF 'laws.FnExactCheckSign'. -/
def fnExactCheckSignUptoCard : Claim7 := { stood := { row := fnExactCheckSignUptoRow, standIns := [], harness := (true, "1000b9edf7b097753ed2255175e4cf7843a767d723ea82ca6521045e78a12466"), looks := false }, kinds := [], alts := [], laidByText := true, laidKinds := [.data], laidTests := true, laidLooks := .later }
def FnExactCheckSignUptoCardSaid : Prop := Claim7.holds Tryd.pinned (.plain (OpenSpec.upto fnExactCheckSignSpec)) fnExactCheckSignUptoCard
end Rows
end Go.Proofs.YtncckpdglimdoaaDoor
