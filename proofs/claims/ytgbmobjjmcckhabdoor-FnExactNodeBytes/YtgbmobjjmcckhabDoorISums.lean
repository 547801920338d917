/- Contracts of the program's chapter 2: the sums of leaves, nodes and slots. -/
import Derived.Test.YtgbmobjjmcckhabDoorIBytes
namespace Go.Proofs.YtgbmobjjmcckhabDoor
open Go.ChangeShapes Go.WideShapes Go.ChangeAt Go.RowKit
set_option linter.unusedVariables false
set_option linter.unusedSimpArgs false

/-- The codes and the values of the sums. -/
def leafV (zs : List Int) : Int := if 250 < zs.length then 0 else sumL (leafL zs)
def nodeV (a b : Int) : Int := if (0 ≤ a ∧ a ≤ 65520) ∧ 0 ≤ b ∧ b ≤ 65520 then sumL (nodeL a b) else 0
def slotL (k v : Int) : List Int := [2, k, v / 256, v % 256]
def slotC (k v : Int) : Int := if (0 ≤ k ∧ k ≤ 63) ∧ 0 ≤ v ∧ v ≤ 65520 then 0 else 3
def slotV (k v : Int) : Int := if (0 ≤ k ∧ k ≤ 63) ∧ 0 ≤ v ∧ v ≤ 65520 then sumL (slotL k v) else 0

end Go.Proofs.YtgbmobjjmcckhabDoor
