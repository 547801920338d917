/- Contracts: equal results held against each other. -/
import Derived.Test.YtffidkoejlebeaaFrame
namespace Go.Proofs.Ytffidkoejlebeaa
open Go.ChangeShapes Go.WideShapes Go.ChangeAt Go.RowKit
set_option linter.unusedVariables false
set_option linter.unusedSimpArgs false

end Go.Proofs.Ytffidkoejlebeaa
