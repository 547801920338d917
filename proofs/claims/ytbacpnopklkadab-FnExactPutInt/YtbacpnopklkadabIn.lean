/- Contracts: whether a number lies between two. -/
import Derived.Test.YtbacpnopklkadabFrame
namespace Go.Proofs.Ytbacpnopklkadab
open Go.ChangeShapes Go.WideShapes Go.ChangeAt Go.RowKit
set_option linter.unusedVariables false
set_option linter.unusedSimpArgs false

end Go.Proofs.Ytbacpnopklkadab
