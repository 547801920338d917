/- Plain facts: the greatest power of 2 below a size. -/
import Derived.Test.YtlmjppglaolccaaDoorFrame
namespace Go.Proofs.YtlmjppglaolccaaDoor
open Go.ChangeShapes Go.WideShapes Go.ChangeAt Go.RowKit
set_option linter.unusedVariables false
set_option linter.unusedSimpArgs false

/-- The greatest power of 2 below n (1 for all that is at most 2), for n up to 32. -/
def splN (n : Int) : Int := if n ≤ 2 then 1 else if n ≤ 4 then 2 else if n ≤ 8 then 4 else if n ≤ 16 then 8 else 16
/-- A power of 2 that the search may stand at. -/
def IsPow (k : Int) : Prop := k = 1 ∨ k = 2 ∨ k = 4 ∨ k = 8 ∨ k = 16
theorem splN_step {k n : Int} (h : IsPow k) (hn : n ≤ 32) (hlt : 2 * k < n) : IsPow (2 * k) := by unfold IsPow at *; omega
theorem splN_end {k n : Int} (h : IsPow k) (hk : k = 1 ∨ k < n) (hn : n ≤ 32) (hlt : ¬ 2 * k < n) : k = splN n := by
  unfold IsPow at h; unfold splN; omega
theorem splN_bd {n : Int} (h : 2 ≤ n) (hn : n ≤ 32) : 1 ≤ splN n ∧ splN n < n ∧ n ≤ 2 * splN n := by unfold splN; omega
theorem splN_pow (n : Int) : IsPow (splN n) := by unfold splN IsPow; omega

end Go.Proofs.YtlmjppglaolccaaDoor
