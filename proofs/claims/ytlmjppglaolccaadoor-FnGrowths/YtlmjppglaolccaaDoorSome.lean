/- Contracts: some bytes that are drawn; the model's draws of chapter 2. -/
import Derived.Test.YtlmjppglaolccaaDoorSource
import Derived.Test.YtlmjppglaolccaaDoorIBytes
namespace Go.Proofs.YtlmjppglaolccaaDoor
open Go.ChangeShapes Go.WideShapes Go.ChangeAt Go.RowKit
set_option maxRecDepth 100000
set_option linter.unusedVariables false
set_option linter.unusedSimpArgs false

end Go.Proofs.YtlmjppglaolccaaDoor
