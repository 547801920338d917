/- Contracts: what is wrong with parts, and the bits of right parts. -/
import Derived.Test.YtngibnmcagogaaaDoorParts
namespace Go.Proofs.YtngibnmcagogaaaDoor
open Go.ChangeShapes Go.WideShapes Go.ChangeAt Go.RowKit
set_option maxRecDepth 100000
set_option linter.unusedVariables false
set_option linter.unusedSimpArgs false

def formB (k : Int) (m : Bool) (e t : Int) : Bool := decide (0 ≤ k ∧ k ≤ 3 ∧ ¬ (k = 3 ∧ m = true) ∧ (k = 0 ∨ (e = 0 ∧ t = 0)))
def rangeB (e t : Int) : Bool := decide (-1074 ≤ e ∧ e ≤ 971 ∧ 1 ≤ t ∧ t ≤ 9007199254740991 ∧ (4503599627370496 ≤ t ∨ e = -1074))

set_option maxHeartbeats 1000000 in
theorem form_any (k : Int) (m : Bool) (e t : Int) (w : World) :
    Calls Tryd.prog 105 #[.agg #[.int .i64 k, .bool m, .int .i64 e, .int .i64 t]] w fun r w' => r = .returned (.bool (formB k m e t)) ∧ Below w.heap.size w w' := by
  cases m
  all_goals
    go_enter Tryd.func105, Tryd.ntmps105
    go_wp2
    all_goals
      go_ret
      refine ⟨ret_bool ?_, ?_⟩
      · go_light
        unfold formB
        rw [Bool.eq_iff_iff]
        simp at *
        omega
      · repeat (first | exact Below.refl _ _ | refine Below.alloc ?_ (by simp) _ | refine Below.setCell ?_ (by simp) _)

set_option maxHeartbeats 1000000 in
theorem range_any (k : Int) (m : Bool) (e t : Int) (w : World) :
    Calls Tryd.prog 106 #[.agg #[.int .i64 k, .bool m, .int .i64 e, .int .i64 t]] w fun r w' => r = .returned (.bool (rangeB e t)) ∧ Below w.heap.size w w' := by
  go_enter Tryd.func106, Tryd.ntmps106
  go_wp2
  all_goals
    go_ret
    refine ⟨ret_bool ?_, ?_⟩
    · go_light
      unfold rangeB
      rw [Bool.eq_iff_iff]
      simp at *
      omega
    · repeat (first | exact Below.refl _ _ | refine Below.alloc ?_ (by simp) _ | refine Below.setCell ?_ (by simp) _)

/-- What is wrong, by the two tests. -/
theorem fault_form {k : Int} {m : Bool} {e t : Int} (h : formB k m e t = false) : faultOf k m e t = 1 := by
  unfold formB at h; unfold faultOf
  rw [if_pos]
  cases m <;> simp at h ⊢ <;> omega
theorem fault_range {k : Int} {m : Bool} {e t : Int} (h : formB k m e t = true) (h0 : k = 0) (h2 : rangeB e t = false) : faultOf k m e t = 3 := by
  unfold formB at h; unfold rangeB at h2; unfold faultOf
  rw [if_neg, if_pos]
  · simp at h2 ⊢; omega
  · cases m <;> simp at h ⊢ <;> omega
theorem fault_ok {k : Int} {m : Bool} {e t : Int} (h : formB k m e t = true) (h0 : k = 0 → rangeB e t = true) : faultOf k m e t = 0 := by
  unfold formB at h; unfold rangeB at h0; unfold faultOf
  rw [if_neg, if_neg]
  · simp at h0 ⊢; intro c; have := h0 c; omega
  · cases m <;> simp at h ⊢ <;> omega

end Go.Proofs.YtngibnmcagogaaaDoor
