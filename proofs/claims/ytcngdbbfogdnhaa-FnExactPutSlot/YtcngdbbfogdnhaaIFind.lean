/- Contracts of the program's chapter 7: what a key has. -/
import Derived.Test.YtcngdbbfogdnhaaMapI
import Derived.Test.YtcngdbbfogdnhaaSlG
namespace Go.Proofs.Ytcngdbbfogdnhaa
open Go.ChangeShapes Go.WideShapes Go.ChangeAt Go.RowKit
set_option linter.unusedVariables false
set_option linter.unusedSimpArgs false

end Go.Proofs.Ytcngdbbfogdnhaa
