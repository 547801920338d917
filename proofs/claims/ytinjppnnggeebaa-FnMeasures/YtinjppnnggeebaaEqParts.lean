/- Contracts: equal parts held against each other. -/
import Derived.Test.YtinjppnnggeebaaParts
namespace Go.Proofs.Ytinjppnnggeebaa
open Go.ChangeShapes Go.WideShapes Go.ChangeAt Go.RowKit
set_option linter.unusedVariables false

theorem parts_spec' (x : Int) (w : World) (h0 : -9223372036854775808 ≤ x) (h1 : x ≤ 9223372036854775807) :
    Calls Try.prog 15 #[.int .i64 x] w fun e w' => e = .returned (.agg #[.int .i64 (kd x), .bool (mn x), .int .i64 (ex x), .int .i64 (mt x)]) ∧ Below w.heap.size w w' := by
  go_enter Try.func15, Try.ntmps15
  go_wp2_with (go_at_call 35; refine (parts_spec _ _ h0 h1).mono ?_; rintro r u1 ⟨rfl, hb1⟩; obtain ⟨hc1, hf1⟩ := bcell hb1; have hz1 := hb1.size; (try simp at hz1))
  refine bodyPost_ret (v := .agg #[.int .i64 (kd x), .bool (mn x), .int .i64 (ex x), .int .i64 (mt x)]) (by simp [results, Try.results15, go_sem, hc1]) rfl ⟨rfl, ?_⟩
  repeat (first | exact Below.refl _ _ | (refine Below.alloc ?_ (by (try simp) <;> omega) _) | (refine Below.setCell ?_ (by (try simp) <;> omega) _) | (refine Below.trans ?_ (hb1.mono (by (try simp) <;> omega))))
end Go.Proofs.Ytinjppnnggeebaa
