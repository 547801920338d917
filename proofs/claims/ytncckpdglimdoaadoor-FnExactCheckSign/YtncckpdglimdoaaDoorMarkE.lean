/- Contracts of the laws' own functions over events: copied into memory of their own, marked. -/
import Derived.Test.YtncckpdglimdoaaDoorToEvent
import Derived.Test.YtncckpdglimdoaaDoorMarkI
namespace Go.Proofs.YtncckpdglimdoaaDoor
open Go.ChangeShapes Go.WideShapes Go.ChangeAt Go.RowKit
set_option maxRecDepth 100000
set_option linter.unusedVariables false
set_option linter.unusedSimpArgs false

end Go.Proofs.YtncckpdglimdoaaDoor
