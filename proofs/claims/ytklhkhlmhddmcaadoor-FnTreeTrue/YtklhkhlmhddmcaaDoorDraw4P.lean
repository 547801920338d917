/- Contracts: the model's draws of chapter 4: leaves and a place, a path that is climbed, a leaf that is taken. -/
import Derived.Test.YtklhkhlmhddmcaaDoorDraw4
import Derived.Test.YtklhkhlmhddmcaaDoorPath4S
import Derived.Test.YtklhkhlmhddmcaaDoorPair
import Derived.Deep.DeepCutAuto
namespace Go.Proofs.YtklhkhlmhddmcaaDoor
open Go.ChangeShapes Go.WideShapes Go.ChangeAt Go.RowKit
set_option maxRecDepth 100000
set_option linter.unusedVariables false
set_option linter.unusedSimpArgs false

theorem own_caps {w : World} {base e n c : Nat} {a : Option Addr} {xs : List Value} (h : w.ownsRow base e 1 (.slice a n c) n xs) : n ≤ c ∧ c ≤ maxLen := by
  rcases h.2 with ⟨e1, e2⟩ | ⟨_, _, _, e1, _, _, h1, h2, _⟩
  · simp at e1; rw [e1.2.2, e2]; exact ⟨Nat.le_refl _, by unfold maxLen; omega⟩
  · simp at e1; rw [e1.2]; exact ⟨h1, h2⟩

end Go.Proofs.YtklhkhlmhddmcaaDoor
