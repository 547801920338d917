/- Contracts: the model's path of a leaf, split by split; its RootOf and PathOf. -/
import Derived.Test.YtlmjppglaolccaaDoorRoot4S
import Derived.Test.YtlmjppglaolccaaDoorLvl
import Derived.Test.YtlmjppglaolccaaDoorMark
namespace Go.Proofs.YtlmjppglaolccaaDoor
open Go.ChangeShapes Go.WideShapes Go.ChangeAt Go.RowKit
set_option linter.unusedVariables false
set_option linter.unusedSimpArgs false

end Go.Proofs.YtlmjppglaolccaaDoor
