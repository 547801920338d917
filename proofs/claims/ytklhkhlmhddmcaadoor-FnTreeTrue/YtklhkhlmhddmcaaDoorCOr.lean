/- Contract: the first of two codes that is not 0. -/
import Derived.Test.YtklhkhlmhddmcaaDoorFrame
namespace Go.Proofs.YtklhkhlmhddmcaaDoor
open Go.ChangeShapes Go.WideShapes Go.ChangeAt Go.RowKit
set_option linter.unusedVariables false
set_option linter.unusedSimpArgs false

/-- The first of two codes that is not 0. -/
def orC (a b : Int) : Int := if a = 0 then b else a

set_option maxHeartbeats 1000000 in
theorem cmpOr_any (a b : Int) (p : Nat) (w : World) (h0 : w.cell? ⟨p, 0, none⟩ = some (.int .i64 a)) (h1 : w.cell? ⟨p, 1, none⟩ = some (.int .i64 b)) :
    Calls Tryd.prog 78 #[.slice (some ⟨p, 0, none⟩) 2 2] w fun r w' => r = .returned (.int .i64 (orC a b)) ∧ w' = w := by
  unfold orC
  by_cases ha : a = 0
  · have ea : (a != 0) = false := by simpa using ha
    rw [if_pos ha]
    by_cases hb : b = 0
    · have eb : (b != 0) = false := by simpa using hb
      have HB : Hid (b = 0) := hb
      clear ha hb
      go_enter Tryd.func78, Tryd.ntmps78
      go_wp2
      refine wp_loop_rounds 3 ?_
      rw [rounds_succ]
      go_wp2
      rw [rounds_succ]
      go_wp2
      rw [rounds_succ]
      go_wp2
      go_ret
      exact ⟨ret_int HB.out.symm, rfl⟩
    · have eb : (b != 0) = true := by simpa using hb
      clear ha hb
      go_enter Tryd.func78, Tryd.ntmps78
      go_wp2
      refine wp_loop_rounds 2 ?_
      rw [rounds_succ]
      go_wp2
      rw [rounds_succ]
      go_wp2
      go_ret
      exact ⟨rfl, rfl⟩
  · have ea : (a != 0) = true := by simpa using ha
    rw [if_neg ha]
    clear ha
    go_enter Tryd.func78, Tryd.ntmps78
    go_wp2
    refine wp_loop_rounds 1 ?_
    rw [rounds_succ]
    go_wp2
    go_ret
    exact ⟨rfl, rfl⟩

end Go.Proofs.YtklhkhlmhddmcaaDoor
