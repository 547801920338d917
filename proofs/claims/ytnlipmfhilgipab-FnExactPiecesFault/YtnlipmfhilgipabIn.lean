/- Contracts: whether a number lies between two. -/
import Derived.Test.YtnlipmfhilgipabFrame
namespace Go.Proofs.Ytnlipmfhilgipab
open Go.ChangeShapes Go.WideShapes Go.ChangeAt Go.RowKit
set_option linter.unusedVariables false
set_option linter.unusedSimpArgs false

end Go.Proofs.Ytnlipmfhilgipab
