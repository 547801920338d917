/-
  DERIVED. GIVEN WITH THE SEED: THE CARDS: each row of YtnlipmfhilgipabDoorRows.lean that lists a variable, with what it lists TIED to the program's text (the seventh form; the later family's looks); each row that meets fmt, with fmt's text TOLD by the authors' own Lean function (tested against real Go, not proved from fmt's source: count such statements apart). THE CARD IS WHAT COUNTS. Prove the row's statement (the work); the ties are given (YtnlipmfhilgipabDoorTie.lean); close each card by the builder's one call (the guide's Derived/Test/ToyasCard.lean, 'card_holds'). Laid BY PROGRAM, IN A SANDBOX (cutbox-door.mjs). By AI agents, Wed Nov 11 2026. No macro, syntax, notation, axiom, sorry.
-/
import Derived.Test.YtnlipmfhilgipabDoorRows
import GoSem.ClaimSeven
namespace Go.Proofs.YtnlipmfhilgipabDoor
namespace Rows

/-- THE TIED CARD OF 'laws.FnExactPieceSums'. -/
def fnExactPieceSumsCard : Claim7 := { stood := { row := fnExactPieceSumsRow, standIns := [], harness := (true, "f39a393b313ef9acd344e8d402dc065785d6abd9bc562240eb67c2e5a670d888"), looks := true }, kinds := [], alts := [], laidByText := true, laidKinds := [.data], laidTests := true, laidLooks := .later }
def FnExactPieceSumsCardSaid : Prop := Claim7.holds Tryd.pinned (.plain (OpenSpec.ofChange fnExactPieceSumsSpec)) fnExactPieceSumsCard

/-- THE TIED CARD OF 'laws.FnExactPieceClash'. -/
def fnExactPieceClashCard : Claim7 := { stood := { row := fnExactPieceClashRow, standIns := [], harness := (true, "f39a393b313ef9acd344e8d402dc065785d6abd9bc562240eb67c2e5a670d888"), looks := true }, kinds := [], alts := [], laidByText := true, laidKinds := [.data], laidTests := true, laidLooks := .later }
def FnExactPieceClashCardSaid : Prop := Claim7.holds Tryd.pinned (.plain (OpenSpec.ofChange fnExactPieceClashSpec)) fnExactPieceClashCard

/-- THE SECOND FORM's CARD OF 'laws.FnExactPieceSums'. -/
def fnExactPieceSumsUptoCard : Claim7 := { stood := { row := fnExactPieceSumsUptoRow, standIns := [], harness := (true, "f39a393b313ef9acd344e8d402dc065785d6abd9bc562240eb67c2e5a670d888"), looks := true }, kinds := [], alts := [], laidByText := true, laidKinds := [.data], laidTests := true, laidLooks := .later }
def FnExactPieceSumsUptoCardSaid : Prop := Claim7.holds Tryd.pinned (.plain (OpenSpec.upto fnExactPieceSumsSpec)) fnExactPieceSumsUptoCard

/-- THE SECOND FORM's CARD OF 'laws.FnExactPieceClash'. -/
def fnExactPieceClashUptoCard : Claim7 := { stood := { row := fnExactPieceClashUptoRow, standIns := [], harness := (true, "f39a393b313ef9acd344e8d402dc065785d6abd9bc562240eb67c2e5a670d888"), looks := true }, kinds := [], alts := [], laidByText := true, laidKinds := [.data], laidTests := true, laidLooks := .later }
def FnExactPieceClashUptoCardSaid : Prop := Claim7.holds Tryd.pinned (.plain (OpenSpec.upto fnExactPieceClashSpec)) fnExactPieceClashUptoCard
end Rows
end Go.Proofs.YtnlipmfhilgipabDoor
