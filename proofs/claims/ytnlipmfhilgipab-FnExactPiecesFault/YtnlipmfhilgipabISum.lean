/- Contracts of the program's chapter 2: the sum of a piece. -/
import Derived.Test.YtnlipmfhilgipabSum
namespace Go.Proofs.Ytnlipmfhilgipab
open Go.ChangeShapes Go.WideShapes Go.ChangeAt Go.RowKit
set_option linter.unusedVariables false
set_option linter.unusedSimpArgs false

/-- The code and the value of a sum. -/
def sumC (zs : List Int) : Int := if 300 < zs.length then 2 else 0
def sumV (zs : List Int) : Int := if 300 < zs.length then 0 else sumL zs

end Go.Proofs.Ytnlipmfhilgipab
