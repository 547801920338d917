/-
  DERIVED. GIVEN WITH THE SEED: THE CARDS: each row of YtffidkoejlebeaaDoorRows.lean that lists a variable, with what it lists TIED to the program's text (the seventh form; the later family's looks); each row that meets fmt, with fmt's text TOLD by the authors' own Lean function (tested against real Go, not proved from fmt's source: count such statements apart). THE CARD IS WHAT COUNTS. Prove the row's statement (the work); the ties are given (YtffidkoejlebeaaDoorTie.lean); close each card by the builder's one call (the guide's Derived/Test/ToyasCard.lean, 'card_holds'). Laid BY PROGRAM, IN A SANDBOX (cutbox-door.mjs). By AI agents, Wed Nov 11 2026. No macro, syntax, notation, axiom, sorry.
-/
import Derived.Test.YtffidkoejlebeaaDoorRows
import GoSem.ClaimSeven
namespace Go.Proofs.YtffidkoejlebeaaDoor
namespace Rows

/-- THE TIED CARD OF 'laws.FnExactPackHead'. -/
def fnExactPackHeadCard : Claim7 := { stood := { row := fnExactPackHeadRow, standIns := [], harness := (true, "129c6cf0965ca42d30e8490f1e17ea346efcd6927fb0f718080c25dfe33d24b1"), looks := false }, kinds := [], alts := [], laidByText := true, laidKinds := [.data], laidTests := true, laidLooks := .later }
def FnExactPackHeadCardSaid : Prop := Claim7.holds Tryd.pinned (.plain (OpenSpec.ofChange fnExactPackHeadSpec)) fnExactPackHeadCard

/-- THE TIED CARD OF 'laws.FnExactReadHead'. -/
def fnExactReadHeadCard : Claim7 := { stood := { row := fnExactReadHeadRow, standIns := [], harness := (true, "129c6cf0965ca42d30e8490f1e17ea346efcd6927fb0f718080c25dfe33d24b1"), looks := false }, kinds := [], alts := [], laidByText := true, laidKinds := [.data], laidTests := true, laidLooks := .later }
def FnExactReadHeadCardSaid : Prop := Claim7.holds Tryd.pinned (.plain (OpenSpec.ofChange fnExactReadHeadSpec)) fnExactReadHeadCard

/-- THE TIED CARD OF 'laws.FnExactHeadSum'. -/
def fnExactHeadSumCard : Claim7 := { stood := { row := fnExactHeadSumRow, standIns := [], harness := (true, "129c6cf0965ca42d30e8490f1e17ea346efcd6927fb0f718080c25dfe33d24b1"), looks := false }, kinds := [], alts := [], laidByText := true, laidKinds := [.data], laidTests := true, laidLooks := .later }
def FnExactHeadSumCardSaid : Prop := Claim7.holds Tryd.pinned (.plain (OpenSpec.ofChange fnExactHeadSumSpec)) fnExactHeadSumCard

/-- THE TIED CARD OF 'laws.FnExactSignHead'. -/
def fnExactSignHeadCard : Claim7 := { stood := { row := fnExactSignHeadRow, standIns := [], harness := (true, "129c6cf0965ca42d30e8490f1e17ea346efcd6927fb0f718080c25dfe33d24b1"), looks := false }, kinds := [], alts := [], laidByText := true, laidKinds := [.data], laidTests := true, laidLooks := .later }
def FnExactSignHeadCardSaid : Prop := Claim7.holds Tryd.pinned (.plain (OpenSpec.ofChange fnExactSignHeadSpec)) fnExactSignHeadCard

/-- THE TIED CARD OF 'laws.FnExactCheckHead'. -/
def fnExactCheckHeadCard : Claim7 := { stood := { row := fnExactCheckHeadRow, standIns := [], harness := (true, "129c6cf0965ca42d30e8490f1e17ea346efcd6927fb0f718080c25dfe33d24b1"), looks := false }, kinds := [], alts := [], laidByText := true, laidKinds := [.data], laidTests := true, laidLooks := .later }
def FnExactCheckHeadCardSaid : Prop := Claim7.holds Tryd.pinned (.plain (OpenSpec.ofChange fnExactCheckHeadSpec)) fnExactCheckHeadCard

/-- THE SECOND FORM's CARD OF 'laws.FnExactPackHead'. -/
def fnExactPackHeadUptoCard : Claim7 := { stood := { row := fnExactPackHeadUptoRow, standIns := [], harness := (true, "129c6cf0965ca42d30e8490f1e17ea346efcd6927fb0f718080c25dfe33d24b1"), looks := false }, kinds := [], alts := [], laidByText := true, laidKinds := [.data], laidTests := true, laidLooks := .later }
def FnExactPackHeadUptoCardSaid : Prop := Claim7.holds Tryd.pinned (.plain (OpenSpec.upto fnExactPackHeadSpec)) fnExactPackHeadUptoCard

/-- THE SECOND FORM's CARD OF 'laws.FnExactReadHead'. -/
def fnExactReadHeadUptoCard : Claim7 := { stood := { row := fnExactReadHeadUptoRow, standIns := [], harness := (true, "129c6cf0965ca42d30e8490f1e17ea346efcd6927fb0f718080c25dfe33d24b1"), looks := false }, kinds := [], alts := [], laidByText := true, laidKinds := [.data], laidTests := true, laidLooks := .later }
def FnExactReadHeadUptoCardSaid : Prop := Claim7.holds Tryd.pinned (.plain (OpenSpec.upto fnExactReadHeadSpec)) fnExactReadHeadUptoCard

/-- THE SECOND FORM's CARD OF 'laws.FnExactHeadSum'. -/
def fnExactHeadSumUptoCard : Claim7 := { stood := { row := fnExactHeadSumUptoRow, standIns := [], harness := (true, "129c6cf0965ca42d30e8490f1e17ea346efcd6927fb0f718080c25dfe33d24b1"), looks := false }, kinds := [], alts := [], laidByText := true, laidKinds := [.data], laidTests := true, laidLooks := .later }
def FnExactHeadSumUptoCardSaid : Prop := Claim7.holds Tryd.pinned (.plain (OpenSpec.upto fnExactHeadSumSpec)) fnExactHeadSumUptoCard

/-- THE SECOND FORM's CARD OF 'laws.FnExactSignHead'. -/
def fnExactSignHeadUptoCard : Claim7 := { stood := { row := fnExactSignHeadUptoRow, standIns := [], harness := (true, "129c6cf0965ca42d30e8490f1e17ea346efcd6927fb0f718080c25dfe33d24b1"), looks := false }, kinds := [], alts := [], laidByText := true, laidKinds := [.data], laidTests := true, laidLooks := .later }
def FnExactSignHeadUptoCardSaid : Prop := Claim7.holds Tryd.pinned (.plain (OpenSpec.upto fnExactSignHeadSpec)) fnExactSignHeadUptoCard

/-- THE SECOND FORM's CARD OF 'laws.FnExactCheckHead'. -/
def fnExactCheckHeadUptoCard : Claim7 := { stood := { row := fnExactCheckHeadUptoRow, standIns := [], harness := (true, "129c6cf0965ca42d30e8490f1e17ea346efcd6927fb0f718080c25dfe33d24b1"), looks := false }, kinds := [], alts := [], laidByText := true, laidKinds := [.data], laidTests := true, laidLooks := .later }
def FnExactCheckHeadUptoCardSaid : Prop := Claim7.holds Tryd.pinned (.plain (OpenSpec.upto fnExactCheckHeadSpec)) fnExactCheckHeadUptoCard
end Rows
end Go.Proofs.YtffidkoejlebeaaDoor
