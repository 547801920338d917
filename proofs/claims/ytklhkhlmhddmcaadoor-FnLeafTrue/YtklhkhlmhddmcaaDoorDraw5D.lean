/- Contracts: the model's draw of a growth. -/
import Derived.Test.YtklhkhlmhddmcaaDoorDraw5
import Derived.Test.YtklhkhlmhddmcaaDoorGrow5R
namespace Go.Proofs.YtklhkhlmhddmcaaDoor
open Go.ChangeShapes Go.WideShapes Go.ChangeAt Go.RowKit
set_option maxRecDepth 100000
set_option linter.unusedVariables false
set_option linter.unusedSimpArgs false

end Go.Proofs.YtklhkhlmhddmcaaDoor
