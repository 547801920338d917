/- Contracts: the model's PartsFault, through a pointer. -/
import Derived.Test.YtbacpnopklkadaaDoorFault
namespace Go.Proofs.YtbacpnopklkadaaDoor
open Go.ChangeShapes Go.WideShapes Go.ChangeAt Go.RowKit
set_option linter.unusedVariables false
set_option linter.unusedSimpArgs false

end Go.Proofs.YtbacpnopklkadaaDoor
