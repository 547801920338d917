/- Contracts: the model's PartsFault, through a pointer. -/
import Derived.Test.YtngibnmcagogaaaDoorFault
namespace Go.Proofs.YtngibnmcagogaaaDoor
open Go.ChangeShapes Go.WideShapes Go.ChangeAt Go.RowKit
set_option maxRecDepth 100000
set_option linter.unusedVariables false
set_option linter.unusedSimpArgs false

end Go.Proofs.YtngibnmcagogaaaDoor
