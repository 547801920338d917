/- Contracts: the model's PartsFault, through a pointer. -/
import Derived.Test.YtinjppnnggeebahFault
namespace Go.Proofs.Ytinjppnnggeebah
open Go.ChangeShapes Go.WideShapes Go.ChangeAt Go.RowKit
set_option linter.unusedVariables false

end Go.Proofs.Ytinjppnnggeebah
