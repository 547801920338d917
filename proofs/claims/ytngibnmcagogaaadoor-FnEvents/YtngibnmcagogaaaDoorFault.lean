/- Contracts: PartsFault of the program and of the model. -/
import Derived.Test.YtngibnmcagogaaaDoorBits
import Derived.Test.YtngibnmcagogaaaDoorIn
namespace Go.Proofs.YtngibnmcagogaaaDoor
open Go.ChangeShapes Go.WideShapes Go.ChangeAt Go.RowKit
set_option maxRecDepth 100000
set_option linter.unusedVariables false
set_option linter.unusedSimpArgs false

set_option maxHeartbeats 1000000 in
theorem fault_impl (k : Int) (m : Bool) (e t : Int) (w : World) :
    Calls Tryd.prog 101 #[.agg #[.int .i64 k, .bool m, .int .i64 e, .int .i64 t]] w fun r w' => r = .returned (.int .i64 (faultOf k m e t)) ∧ Below w.heap.size w w' := by
  by_cases a : formB k m e t = true
  · by_cases b : k = 0
    · by_cases c : rangeB e t = true
      · rw [fault_ok a (fun _ => c)]
        subst b
        go_enter Tryd.func101, Tryd.ntmps101
        go_wp2_with (first | (go_at_call 105; refine (form_any _ _ _ _ _).mono ?_; rintro r w1 ⟨rfl, hb1⟩; obtain ⟨hc1, hf1⟩ := bcell hb1) | (go_at_call 106; refine (range_any _ _ _ _ _).mono ?_; rintro r w2 ⟨rfl, hb2⟩))
        go_ret
        exact ⟨rfl, (((Below.refl _ _).alloc (Nat.le_refl _) _).trans (hb1.mono (by simp))).trans (hb2.mono (by have := hb1.size; simp at this; omega))⟩
      · have c' : rangeB e t = false := by simpa using c
        rw [fault_range a b c']
        subst b
        go_enter Tryd.func101, Tryd.ntmps101
        go_wp2_with (first | (go_at_call 105; refine (form_any _ _ _ _ _).mono ?_; rintro r w1 ⟨rfl, hb1⟩; obtain ⟨hc1, hf1⟩ := bcell hb1) | (go_at_call 106; refine (range_any _ _ _ _ _).mono ?_; rintro r w2 ⟨rfl, hb2⟩))
        go_ret
        exact ⟨rfl, (((Below.refl _ _).alloc (Nat.le_refl _) _).trans (hb1.mono (by simp))).trans (hb2.mono (by have := hb1.size; simp at this; omega))⟩
    · rw [fault_ok a (fun h => absurd h b)]
      have b' : (k == 0) = false := by simpa using b
      go_enter Tryd.func101, Tryd.ntmps101
      go_wp2_with (go_at_call 105; refine (form_any _ _ _ _ _).mono ?_; rintro r w1 ⟨rfl, hb1⟩; obtain ⟨hc1, hf1⟩ := bcell hb1)
      go_ret
      exact ⟨rfl, ((Below.refl _ _).alloc (Nat.le_refl _) _).trans (hb1.mono (by simp))⟩
  · rw [fault_form (by simpa using a)]
    have a' : formB k m e t = false := by simpa using a
    go_enter Tryd.func101, Tryd.ntmps101
    go_wp2_with (go_at_call 105; refine (form_any _ _ _ _ _).mono ?_; rintro r w1 ⟨rfl, hb1⟩)
    go_ret
    exact ⟨rfl, ((Below.refl _ _).alloc (Nat.le_refl _) _).trans (hb1.mono (by simp))⟩

end Go.Proofs.YtngibnmcagogaaaDoor
