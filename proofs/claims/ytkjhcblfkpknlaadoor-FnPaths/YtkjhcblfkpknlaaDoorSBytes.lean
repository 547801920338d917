/- Contracts of the model's chapter 2: the bytes of leaves and nodes, the sums of nodes and slots. -/
import Derived.Test.YtkjhcblfkpknlaaDoorISums
namespace Go.Proofs.YtkjhcblfkpknlaaDoor
open Go.ChangeShapes Go.WideShapes Go.ChangeAt Go.RowKit
set_option maxRecDepth 100000
set_option linter.unusedVariables false
set_option linter.unusedSimpArgs false

theorem specLeafS_any (a : Option Addr) (cap : Nat) (zs : List Int) (w : World) (h : Has w .u8 a zs.length zs) (hl : zs.length ≤ 1048576) :
    Calls Tryd.prog 73 #[.slice a zs.length cap] w fun r w' => r = .returned (.agg #[.int .i64 (leafC zs), .int .i64 (leafV zs)]) ∧ Below w.heap.size w w' :=
  specLeafSum_any a cap zs w h hl

end Go.Proofs.YtkjhcblfkpknlaaDoor
