/- Slots in memory: slices of slots that are read; copied, measured and held against each other by the laws. -/
import Derived.Test.YtncckpdglimdoaaDoorSlD0
import Derived.Test.YtncckpdglimdoaaDoorFrB
import Derived.Test.YtncckpdglimdoaaDoorKeep
import Derived.Deep.SlicePairs
namespace Go.Proofs.YtncckpdglimdoaaDoor
open Go.ChangeShapes Go.WideShapes Go.ChangeAt Go.RowKit
set_option linter.unusedVariables false
set_option linter.unusedSimpArgs false

end Go.Proofs.YtncckpdglimdoaaDoor
