/- Contracts: equal parts held against each other. -/
import Derived.Test.YtinjppnnggeebafParts
namespace Go.Proofs.Ytinjppnnggeebaf
open Go.ChangeShapes Go.WideShapes Go.ChangeAt Go.RowKit
set_option linter.unusedVariables false

set_option maxHeartbeats 1000000 in
theorem eqParts_any (k : Int) (m : Bool) (e t : Int) (w : World) :
    Calls Try.prog 6 #[.agg #[.int .i64 k, .bool m, .int .i64 e, .int .i64 t], .agg #[.int .i64 k, .bool m, .int .i64 e, .int .i64 t]] w fun r w' => r = .returned (.bool true) ∧ Below w.heap.size w w' := by
  have h1 : (k != k) = false := by simp
  have h2 : (m != m) = false := by simp
  have h3 : (e != e) = false := by simp
  have h4 : (t != t) = false := by simp
  go_enter Try.func6, Try.ntmps6
  go_wp2
  go_ret
  refine ⟨rfl, ?_⟩
  repeat (first | exact Below.refl _ _ | refine Below.alloc ?_ (by (try simp) <;> omega) _ | refine Below.setCell ?_ (by (try simp) <;> omega) _ | refine below_drewN ?_ _ | refine Below.drew ?_)

theorem parts_spec' (x : Int) (w : World) (h0 : -9223372036854775808 ≤ x) (h1 : x ≤ 9223372036854775807) :
    Calls Try.prog 4 #[.int .i64 x] w fun e w' => e = .returned (.agg #[.int .i64 (kd x), .bool (mn x), .int .i64 (ex x), .int .i64 (mt x)]) ∧ Below w.heap.size w w' := by
  go_enter Try.func4, Try.ntmps4
  go_wp2_with (go_at_call 7; refine (parts_spec _ _ h0 h1).mono ?_; rintro r u1 ⟨rfl, hb1⟩; obtain ⟨hc1, hf1⟩ := bcell hb1; have hz1 := hb1.size; (try simp at hz1))
  refine bodyPost_ret (v := .agg #[.int .i64 (kd x), .bool (mn x), .int .i64 (ex x), .int .i64 (mt x)]) (by simp [results, Try.results4, go_sem, hc1]) rfl ⟨rfl, ?_⟩
  repeat (first | exact Below.refl _ _ | (refine Below.alloc ?_ (by (try simp) <;> omega) _) | (refine Below.setCell ?_ (by (try simp) <;> omega) _) | (refine Below.trans ?_ (hb1.mono (by (try simp) <;> omega))))
end Go.Proofs.Ytinjppnnggeebaf
