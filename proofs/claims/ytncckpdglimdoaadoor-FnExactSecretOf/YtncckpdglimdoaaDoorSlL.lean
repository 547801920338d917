/- Contracts of the laws' own functions over slots: copied, held against each other. -/
import Derived.Test.YtncckpdglimdoaaDoorSlM
namespace Go.Proofs.YtncckpdglimdoaaDoor
open Go.ChangeShapes Go.WideShapes Go.ChangeAt Go.RowKit
set_option linter.unusedVariables false
set_option linter.unusedSimpArgs false

end Go.Proofs.YtncckpdglimdoaaDoor
