/- Contracts: the model's PartsFault, through a pointer. -/
import Derived.Test.YtinjppnnggeebaaFault
namespace Go.Proofs.Ytinjppnnggeebaa
open Go.ChangeShapes Go.WideShapes Go.ChangeAt Go.RowKit
set_option linter.unusedVariables false

set_option maxHeartbeats 4000000 in
theorem fault_ptr (k : Int) (m : Bool) (e t : Int) (w : World) (b o : Nat)
    (c0 : w.cell? ⟨b, o, none⟩ = some (.int .i64 k)) (c1 : w.cell? ⟨b, o + 1, none⟩ = some (.bool m)) (c2 : w.cell? ⟨b, o + 2, none⟩ = some (.int .i64 e)) (c3 : w.cell? ⟨b, o + 3, none⟩ = some (.int .i64 t)) :
    Calls Try.prog 31 #[.pointer (some ⟨b, o, none⟩)] w fun r w' => r = .returned (.int .i64 (faultOf k m e t)) ∧ w' = w := by
  cases m
  all_goals
    go_enter Try.func31, Try.ntmps31
    go_wp2_with (go_at_call 46; refine (in_any _ _ _ _).mono ?_; rintro r w1 ⟨rfl, rfl⟩)
    all_goals
      go_ret
      refine ⟨ret_int ?_, rfl⟩
      clear c0 c1 c2 c3
      go_light
      unfold faultOf
      simp at *
      first | done | omega | (split <;> first | omega | (split <;> omega))
end Go.Proofs.Ytinjppnnggeebaa
