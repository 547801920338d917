/- Contracts: the model's draws of chapter 5 for GrowthOf and StepsOf. -/
import Derived.Test.YtklhkhlmhddmcaaDoorDraw4P
import Derived.Test.YtklhkhlmhddmcaaDoorGrowC
namespace Go.Proofs.YtklhkhlmhddmcaaDoor
open Go.ChangeShapes Go.WideShapes Go.ChangeAt Go.RowKit
set_option linter.unusedVariables false
set_option linter.unusedSimpArgs false

end Go.Proofs.YtklhkhlmhddmcaaDoor
