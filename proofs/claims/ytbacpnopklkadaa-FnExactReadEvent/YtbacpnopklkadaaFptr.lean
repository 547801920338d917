/- Contracts: the model's PartsFault, through a pointer. -/
import Derived.Test.YtbacpnopklkadaaFault
namespace Go.Proofs.Ytbacpnopklkadaa
open Go.ChangeShapes Go.WideShapes Go.ChangeAt Go.RowKit
set_option linter.unusedVariables false
set_option linter.unusedSimpArgs false

end Go.Proofs.Ytbacpnopklkadaa
