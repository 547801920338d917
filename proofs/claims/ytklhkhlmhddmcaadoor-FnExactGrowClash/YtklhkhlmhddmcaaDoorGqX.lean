/- What GrowClash finds is a clash. -/
import Derived.Test.YtklhkhlmhddmcaaDoorExc
import Derived.Test.YtklhkhlmhddmcaaDoorExt6K
import Derived.Test.YtklhkhlmhddmcaaDoorExtS
namespace Go.Proofs.YtklhkhlmhddmcaaDoor
open Go.ChangeShapes Go.WideShapes Go.ChangeAt Go.RowKit
set_option linter.unusedVariables false
set_option linter.unusedSimpArgs false

theorem gqX_some (xs ys p : List Int) : ∀ x, gqX xs ys p = some x → isCl x := by
  intro x h
  unfold gqX at h
  split at h
  · obtain ⟨h1, h2, h3, h4, h5⟩ := gqC_zero ‹_›
    obtain ⟨g1, a1⟩ := lvF_zero h1
    obtain ⟨g2, a2⟩ := lvF_zero h2
    obtain ⟨_, m1, m2, m3, _⟩ := agB_true h5
    exact gkC_some _ xs ys true _ p (Nat.le_refl _) h3 h4 (by omega) (fun _ => rtM_bd _ xs (Nat.le_refl _) a1) m1 a1 a2 m2 x h
  · cases h

end Go.Proofs.YtklhkhlmhddmcaaDoor
