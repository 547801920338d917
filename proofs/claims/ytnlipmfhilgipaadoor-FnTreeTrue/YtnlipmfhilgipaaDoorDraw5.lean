/- Contracts: the model's draws of chapter 5 for GrowthOf and StepsOf. -/
import Derived.Test.YtnlipmfhilgipaaDoorDraw4P
import Derived.Test.YtnlipmfhilgipaaDoorGrowC
namespace Go.Proofs.YtnlipmfhilgipaaDoor
open Go.ChangeShapes Go.WideShapes Go.ChangeAt Go.RowKit
set_option linter.unusedVariables false
set_option linter.unusedSimpArgs false

end Go.Proofs.YtnlipmfhilgipaaDoor
