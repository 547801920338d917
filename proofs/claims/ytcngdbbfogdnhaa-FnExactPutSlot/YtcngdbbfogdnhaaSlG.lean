/- Contracts of the model of chapter 7: what a key has. -/
import Derived.Test.YtcngdbbfogdnhaaSlF
namespace Go.Proofs.Ytcngdbbfogdnhaa
open Go.ChangeShapes Go.WideShapes Go.ChangeAt Go.RowKit
set_option linter.unusedVariables false
set_option linter.unusedSimpArgs false

theorem slFind_step {l : List Sl} {k : Nat} (h : k < l.length) (key : Int) : slFind (l.drop k) key = if l[k].1 = key then some l[k].2 else slFind (l.drop (k + 1)) key := by
  rw [List.drop_eq_getElem_cons h, slFind_cons]

/-- The code and the value of a search. -/
def fdC (l : List Sl) (k : Int) : Int := if slF l = 0 then (if (slFind l k).isSome = true then 0 else 4) else slF l
def fdV (l : List Sl) (k : Int) : Int := if slF l = 0 then (slFind l k).getD 0 else 0

end Go.Proofs.Ytcngdbbfogdnhaa
