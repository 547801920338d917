/- Contracts of the model of chapter 8: SecretOf, PublicOf, KeySum, KeysRoot, SignSum, the fault of a signature, what it opens. -/
import Derived.Test.YtffidkoejlebeaaDoorKySg
namespace Go.Proofs.YtffidkoejlebeaaDoor
open Go.ChangeShapes Go.WideShapes Go.ChangeAt Go.RowKit
set_option maxRecDepth 100000
set_option linter.unusedVariables false
set_option linter.unusedSimpArgs false

theorem spec_set2 {w u : World} {B : Nat} (h : Below B w u) {p q : Addr} (hp : B ≤ p.block) (hq : B ≤ q.block) (x y : Value) : Below B w ((u.setCell p x).setCell q y) := (h.setCell hp _).setCell hq _

end Go.Proofs.YtffidkoejlebeaaDoor
