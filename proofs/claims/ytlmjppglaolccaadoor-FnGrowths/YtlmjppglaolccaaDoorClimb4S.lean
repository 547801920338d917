/- Contracts: the model's ClimbPath. -/
import Derived.Test.YtlmjppglaolccaaDoorClimb4
namespace Go.Proofs.YtlmjppglaolccaaDoor
open Go.ChangeShapes Go.WideShapes Go.ChangeAt Go.RowKit
set_option linter.unusedVariables false
set_option linter.unusedSimpArgs false

/-- The code of a climb. -/
def clC (l a s : Int) (p : List Int) : Int := if (0 ≤ l ∧ l ≤ 65520) ∧ (1 ≤ s ∧ s ≤ 24) ∧ 0 ≤ a ∧ a < s then (if 6 < p.length then 2 else if allS p = true then (if p.length = stN a s then 0 else 8) else 3) else 3
/-- What a climb comes to. -/
def clV (l a s : Int) (p : List Int) : Int := if clC l a s p = 0 then clM nS l a s p else 0
theorem clC_bad {l a s : Int} {p : List Int} (h : ¬ ((0 ≤ l ∧ l ≤ 65520) ∧ (1 ≤ s ∧ s ≤ 24) ∧ 0 ≤ a ∧ a < s)) : clC l a s p = 3 := by unfold clC; rw [if_neg h]
theorem clC_many {l a s : Int} {p : List Int} (h : (0 ≤ l ∧ l ≤ 65520) ∧ (1 ≤ s ∧ s ≤ 24) ∧ 0 ≤ a ∧ a < s) (h6 : 6 < p.length) : clC l a s p = 2 := by unfold clC; rw [if_pos h, if_pos h6]
theorem clC_sum {l a s : Int} {p : List Int} (h : (0 ≤ l ∧ l ≤ 65520) ∧ (1 ≤ s ∧ s ≤ 24) ∧ 0 ≤ a ∧ a < s) (h6 : ¬ 6 < p.length) (ha : allS p = false) : clC l a s p = 3 := by unfold clC; rw [if_pos h, if_neg h6, ha]; rfl
theorem clC_len {l a s : Int} {p : List Int} (h : (0 ≤ l ∧ l ≤ 65520) ∧ (1 ≤ s ∧ s ≤ 24) ∧ 0 ≤ a ∧ a < s) (h6 : ¬ 6 < p.length) (ha : allS p = true) : clC l a s p = if p.length = stN a s then 0 else 8 := by unfold clC; rw [if_pos h, if_neg h6, ha]; rfl
theorem clV_of {l a s : Int} {p : List Int} (h : clC l a s p ≠ 0) : clV l a s p = 0 := by unfold clV; rw [if_neg h]

theorem clC_zero {l a s : Int} {p : List Int} (h : clC l a s p = 0) : ((0 ≤ l ∧ l ≤ 65520) ∧ (1 ≤ s ∧ s ≤ 24) ∧ 0 ≤ a ∧ a < s) ∧ allS p = true ∧ p.length = stN a s := by
  unfold clC at h
  split at h
  · split at h
    · omega
    · split at h
      · split at h
        · exact ⟨‹_›, ‹_›, ‹_›⟩
        · omega
      · omega
  · omega

end Go.Proofs.YtlmjppglaolccaaDoor
