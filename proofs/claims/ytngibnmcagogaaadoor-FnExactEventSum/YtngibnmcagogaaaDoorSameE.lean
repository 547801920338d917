/- Contracts of the model's chapter 3: events held against each other. -/
import Derived.Test.YtngibnmcagogaaaDoorEvt
import Derived.Test.YtngibnmcagogaaaDoorToClash
namespace Go.Proofs.YtngibnmcagogaaaDoor
open Go.ChangeShapes Go.WideShapes Go.ChangeAt Go.RowKit
set_option maxRecDepth 100000
set_option linter.unusedVariables false
set_option linter.unusedSimpArgs false

/-- Whether two events are the same. -/
def sameE (s v k x s' v' k' x' : Int) (zs ys : List Int) : Bool := decide (s = s') && (decide (v = v') && (decide (k = k') && (decide (x = x') && decide (zs = ys))))

end Go.Proofs.YtngibnmcagogaaaDoor
