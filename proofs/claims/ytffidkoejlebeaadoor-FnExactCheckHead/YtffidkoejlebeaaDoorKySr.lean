/- Contracts of the model of chapter 8: KeySum, KeysRoot, SignSum, the fault of a signature, what opens it, whether it is taken. -/
import Derived.Test.YtffidkoejlebeaaDoorKySq
import Derived.Test.YtffidkoejlebeaaDoorRoot4S
namespace Go.Proofs.YtffidkoejlebeaaDoor
open Go.ChangeShapes Go.WideShapes Go.ChangeAt Go.RowKit
set_option maxRecDepth 100000
set_option linter.unusedVariables false
set_option linter.unusedSimpArgs false

end Go.Proofs.YtffidkoejlebeaaDoor
