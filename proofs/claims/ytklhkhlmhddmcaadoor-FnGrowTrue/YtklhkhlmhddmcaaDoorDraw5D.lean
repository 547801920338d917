/- Contracts: the model's draws of chapter 5 for GrowthOf and StepsOf. Contracts: the model's draw of a growth. -/
import Derived.Test.YtklhkhlmhddmcaaDoorDraw4P
import Derived.Test.YtklhkhlmhddmcaaDoorGrowC
import Derived.Test.YtklhkhlmhddmcaaDoorGrow5R
namespace Go.Proofs.YtklhkhlmhddmcaaDoor
open Go.ChangeShapes Go.WideShapes Go.ChangeAt Go.RowKit
set_option linter.unusedVariables false
set_option linter.unusedSimpArgs false

end Go.Proofs.YtklhkhlmhddmcaaDoor

namespace Go.Proofs.YtklhkhlmhddmcaaDoor
open Go.ChangeShapes Go.WideShapes Go.ChangeAt Go.RowKit
set_option maxRecDepth 100000
set_option linter.unusedVariables false
set_option linter.unusedSimpArgs false

end Go.Proofs.YtklhkhlmhddmcaaDoor
