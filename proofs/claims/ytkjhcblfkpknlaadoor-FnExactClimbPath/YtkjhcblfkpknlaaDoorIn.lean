/- Contracts: whether a number lies between two. -/
import Derived.Test.YtkjhcblfkpknlaaDoorFrame
namespace Go.Proofs.YtkjhcblfkpknlaaDoor
open Go.ChangeShapes Go.WideShapes Go.ChangeAt Go.RowKit
set_option linter.unusedVariables false
set_option linter.unusedSimpArgs false

theorem in_any (v a b : Int) (w : World) : Calls Tryd.prog 75 #[.int .i64 v, .int .i64 a, .int .i64 b] w fun r w' => r = .returned (.bool (decide (a ≤ v ∧ v ≤ b))) ∧ w' = w := by
  go_enter Tryd.func75, Tryd.ntmps75
  go_wp2
  all_goals
    go_ret
    refine ⟨ret_bool ?_, rfl⟩
    go_light
    rw [Bool.eq_iff_iff]
    simp at *
    omega

end Go.Proofs.YtkjhcblfkpknlaaDoor
