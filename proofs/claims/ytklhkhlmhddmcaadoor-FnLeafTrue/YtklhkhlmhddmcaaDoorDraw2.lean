/- Contracts: the model's draws of chapter 2, leaves, nodes and slots. -/
import Derived.Test.YtklhkhlmhddmcaaDoorSome
namespace Go.Proofs.YtklhkhlmhddmcaaDoor
open Go.ChangeShapes Go.WideShapes Go.ChangeAt Go.RowKit
set_option maxRecDepth 100000
set_option linter.unusedVariables false
set_option linter.unusedSimpArgs false

end Go.Proofs.YtklhkhlmhddmcaaDoor
