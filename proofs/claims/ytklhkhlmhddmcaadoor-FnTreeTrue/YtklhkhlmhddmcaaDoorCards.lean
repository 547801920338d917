/-
  DERIVED. GIVEN WITH THE SEED: THE CARDS: each row of YtklhkhlmhddmcaaDoorRows.lean that lists a variable, with what it lists TIED to the program's text (the seventh form; the later family's looks); each row that meets fmt, with fmt's text TOLD by the authors' own Lean function (tested against real Go, not proved from fmt's source: count such statements apart). THE CARD IS WHAT COUNTS. Prove the row's statement (the work); the ties are given (YtklhkhlmhddmcaaDoorTie.lean); close each card by the builder's one call (the guide's Derived/Test/ToyasCard.lean, 'card_holds'). Laid BY PROGRAM, IN A SANDBOX (cutbox-door.mjs). By AI agents, Wed Nov 11 2026. No macro, syntax, notation, axiom, sorry.
-/
import Derived.Test.YtklhkhlmhddmcaaDoorRows
import GoSem.ClaimSeven
namespace Go.Proofs.YtklhkhlmhddmcaaDoor
namespace Rows

/-- THE TIED CARD OF 'laws.FnLeafTrue'. -/
def fnLeafTrueCard : Claim7 := { stood := { row := fnLeafTrueRow, standIns := [], harness := (true, "6d5931e59210a897bfc1ed97e2d2621662fe74a5a06f57c06ef0da50a7daa720"), looks := true }, kinds := [], alts := [], laidByText := true, laidKinds := [.data], laidTests := true, laidLooks := .later }
def FnLeafTrueCardSaid : Prop := Claim7.holds Tryd.pinned (.plain (OpenSpec.ofChange fnLeafTrueSpec)) fnLeafTrueCard

/-- THE TIED CARD OF 'laws.FnGrowTrue'. -/
def fnGrowTrueCard : Claim7 := { stood := { row := fnGrowTrueRow, standIns := [], harness := (true, "6d5931e59210a897bfc1ed97e2d2621662fe74a5a06f57c06ef0da50a7daa720"), looks := true }, kinds := [], alts := [], laidByText := true, laidKinds := [.data], laidTests := true, laidLooks := .later }
def FnGrowTrueCardSaid : Prop := Claim7.holds Tryd.pinned (.plain (OpenSpec.ofChange fnGrowTrueSpec)) fnGrowTrueCard

/-- THE TIED CARD OF 'laws.FnTreeTrue'. -/
def fnTreeTrueCard : Claim7 := { stood := { row := fnTreeTrueRow, standIns := [], harness := (true, "6d5931e59210a897bfc1ed97e2d2621662fe74a5a06f57c06ef0da50a7daa720"), looks := true }, kinds := [], alts := [], laidByText := true, laidKinds := [.data], laidTests := true, laidLooks := .later }
def FnTreeTrueCardSaid : Prop := Claim7.holds Tryd.pinned (.plain (OpenSpec.ofChange fnTreeTrueSpec)) fnTreeTrueCard

/-- THE TIED CARD OF 'laws.FnExactLeafClash'. -/
def fnExactLeafClashCard : Claim7 := { stood := { row := fnExactLeafClashRow, standIns := [], harness := (true, "6d5931e59210a897bfc1ed97e2d2621662fe74a5a06f57c06ef0da50a7daa720"), looks := true }, kinds := [], alts := [], laidByText := true, laidKinds := [.data], laidTests := true, laidLooks := .later }
def FnExactLeafClashCardSaid : Prop := Claim7.holds Tryd.pinned (.plain (OpenSpec.ofChange fnExactLeafClashSpec)) fnExactLeafClashCard

/-- THE TIED CARD OF 'laws.FnExactGrowClash'. -/
def fnExactGrowClashCard : Claim7 := { stood := { row := fnExactGrowClashRow, standIns := [], harness := (true, "6d5931e59210a897bfc1ed97e2d2621662fe74a5a06f57c06ef0da50a7daa720"), looks := true }, kinds := [], alts := [], laidByText := true, laidKinds := [.data], laidTests := true, laidLooks := .later }
def FnExactGrowClashCardSaid : Prop := Claim7.holds Tryd.pinned (.plain (OpenSpec.ofChange fnExactGrowClashSpec)) fnExactGrowClashCard

/-- THE TIED CARD OF 'laws.FnExactTreeClash'. -/
def fnExactTreeClashCard : Claim7 := { stood := { row := fnExactTreeClashRow, standIns := [], harness := (true, "6d5931e59210a897bfc1ed97e2d2621662fe74a5a06f57c06ef0da50a7daa720"), looks := true }, kinds := [], alts := [], laidByText := true, laidKinds := [.data], laidTests := true, laidLooks := .later }
def FnExactTreeClashCardSaid : Prop := Claim7.holds Tryd.pinned (.plain (OpenSpec.ofChange fnExactTreeClashSpec)) fnExactTreeClashCard

/-- THE TIED CARD OF 'laws.FnExactPieceSums'. -/
def fnExactPieceSumsCard : Claim7 := { stood := { row := fnExactPieceSumsRow, standIns := [], harness := (true, "6d5931e59210a897bfc1ed97e2d2621662fe74a5a06f57c06ef0da50a7daa720"), looks := true }, kinds := [], alts := [], laidByText := true, laidKinds := [.data], laidTests := true, laidLooks := .later }
def FnExactPieceSumsCardSaid : Prop := Claim7.holds Tryd.pinned (.plain (OpenSpec.ofChange fnExactPieceSumsSpec)) fnExactPieceSumsCard

/-- THE TIED CARD OF 'laws.FnExactPieceClash'. -/
def fnExactPieceClashCard : Claim7 := { stood := { row := fnExactPieceClashRow, standIns := [], harness := (true, "6d5931e59210a897bfc1ed97e2d2621662fe74a5a06f57c06ef0da50a7daa720"), looks := true }, kinds := [], alts := [], laidByText := true, laidKinds := [.data], laidTests := true, laidLooks := .later }
def FnExactPieceClashCardSaid : Prop := Claim7.holds Tryd.pinned (.plain (OpenSpec.ofChange fnExactPieceClashSpec)) fnExactPieceClashCard

/-- THE SECOND FORM's CARD OF 'laws.FnLeafTrue'. -/
def fnLeafTrueUptoCard : Claim7 := { stood := { row := fnLeafTrueUptoRow, standIns := [], harness := (true, "6d5931e59210a897bfc1ed97e2d2621662fe74a5a06f57c06ef0da50a7daa720"), looks := true }, kinds := [], alts := [], laidByText := true, laidKinds := [.data], laidTests := true, laidLooks := .later }
def FnLeafTrueUptoCardSaid : Prop := Claim7.holds Tryd.pinned (.plain (OpenSpec.upto fnLeafTrueSpec)) fnLeafTrueUptoCard

/-- THE SECOND FORM's CARD OF 'laws.FnGrowTrue'. -/
def fnGrowTrueUptoCard : Claim7 := { stood := { row := fnGrowTrueUptoRow, standIns := [], harness := (true, "6d5931e59210a897bfc1ed97e2d2621662fe74a5a06f57c06ef0da50a7daa720"), looks := true }, kinds := [], alts := [], laidByText := true, laidKinds := [.data], laidTests := true, laidLooks := .later }
def FnGrowTrueUptoCardSaid : Prop := Claim7.holds Tryd.pinned (.plain (OpenSpec.upto fnGrowTrueSpec)) fnGrowTrueUptoCard

/-- THE SECOND FORM's CARD OF 'laws.FnTreeTrue'. -/
def fnTreeTrueUptoCard : Claim7 := { stood := { row := fnTreeTrueUptoRow, standIns := [], harness := (true, "6d5931e59210a897bfc1ed97e2d2621662fe74a5a06f57c06ef0da50a7daa720"), looks := true }, kinds := [], alts := [], laidByText := true, laidKinds := [.data], laidTests := true, laidLooks := .later }
def FnTreeTrueUptoCardSaid : Prop := Claim7.holds Tryd.pinned (.plain (OpenSpec.upto fnTreeTrueSpec)) fnTreeTrueUptoCard

/-- THE SECOND FORM's CARD OF 'laws.FnExactLeafClash'. -/
def fnExactLeafClashUptoCard : Claim7 := { stood := { row := fnExactLeafClashUptoRow, standIns := [], harness := (true, "6d5931e59210a897bfc1ed97e2d2621662fe74a5a06f57c06ef0da50a7daa720"), looks := true }, kinds := [], alts := [], laidByText := true, laidKinds := [.data], laidTests := true, laidLooks := .later }
def FnExactLeafClashUptoCardSaid : Prop := Claim7.holds Tryd.pinned (.plain (OpenSpec.upto fnExactLeafClashSpec)) fnExactLeafClashUptoCard

/-- THE SECOND FORM's CARD OF 'laws.FnExactGrowClash'. -/
def fnExactGrowClashUptoCard : Claim7 := { stood := { row := fnExactGrowClashUptoRow, standIns := [], harness := (true, "6d5931e59210a897bfc1ed97e2d2621662fe74a5a06f57c06ef0da50a7daa720"), looks := true }, kinds := [], alts := [], laidByText := true, laidKinds := [.data], laidTests := true, laidLooks := .later }
def FnExactGrowClashUptoCardSaid : Prop := Claim7.holds Tryd.pinned (.plain (OpenSpec.upto fnExactGrowClashSpec)) fnExactGrowClashUptoCard

/-- THE SECOND FORM's CARD OF 'laws.FnExactTreeClash'. -/
def fnExactTreeClashUptoCard : Claim7 := { stood := { row := fnExactTreeClashUptoRow, standIns := [], harness := (true, "6d5931e59210a897bfc1ed97e2d2621662fe74a5a06f57c06ef0da50a7daa720"), looks := true }, kinds := [], alts := [], laidByText := true, laidKinds := [.data], laidTests := true, laidLooks := .later }
def FnExactTreeClashUptoCardSaid : Prop := Claim7.holds Tryd.pinned (.plain (OpenSpec.upto fnExactTreeClashSpec)) fnExactTreeClashUptoCard

/-- THE SECOND FORM's CARD OF 'laws.FnExactPieceSums'. -/
def fnExactPieceSumsUptoCard : Claim7 := { stood := { row := fnExactPieceSumsUptoRow, standIns := [], harness := (true, "6d5931e59210a897bfc1ed97e2d2621662fe74a5a06f57c06ef0da50a7daa720"), looks := true }, kinds := [], alts := [], laidByText := true, laidKinds := [.data], laidTests := true, laidLooks := .later }
def FnExactPieceSumsUptoCardSaid : Prop := Claim7.holds Tryd.pinned (.plain (OpenSpec.upto fnExactPieceSumsSpec)) fnExactPieceSumsUptoCard

/-- THE SECOND FORM's CARD OF 'laws.FnExactPieceClash'. -/
def fnExactPieceClashUptoCard : Claim7 := { stood := { row := fnExactPieceClashUptoRow, standIns := [], harness := (true, "6d5931e59210a897bfc1ed97e2d2621662fe74a5a06f57c06ef0da50a7daa720"), looks := true }, kinds := [], alts := [], laidByText := true, laidKinds := [.data], laidTests := true, laidLooks := .later }
def FnExactPieceClashUptoCardSaid : Prop := Claim7.holds Tryd.pinned (.plain (OpenSpec.upto fnExactPieceClashSpec)) fnExactPieceClashUptoCard
end Rows
end Go.Proofs.YtklhkhlmhddmcaaDoor
