/- Contract of the program's chapter 7: a slot accepted. -/
import Derived.Test.YtjkehgnelfgoaaaDoorIClS
namespace Go.Proofs.YtjkehgnelfgoaaaDoor
open Go.ChangeShapes Go.WideShapes Go.ChangeAt Go.RowKit
set_option linter.unusedVariables false
set_option linter.unusedSimpArgs false

theorem eqlR (a b c d : Int) (w : World) : (binOp BinOp.eql 34 (.agg #[.int .i64 a, .int .i64 b]) (.agg #[.int .i64 c, .int .i64 d])).run Tryd.prog w = .ok (.bool (decide (a = c ∧ b = d))) w := by
  by_cases h1 : a = c <;> by_cases h2 : b = d <;> simp [go_sem, h1, h2]

set_option maxHeartbeats 1000000 in
theorem implAcceptSlot_any (k v : Int) (t : Bool) (a : Option Addr) (c : Nat) (p : List Int) (root : Int) (w : World) (hT : Tab w) (h : Has w .i64 a p.length p) (hl : p.length ≤ 1048576) :
    Calls Tryd.prog 13 #[.int .i64 k, .bool t, .int .i64 v, .slice a p.length c, .int .i64 root] w fun r w' => r = .returned (.bool (decide (clF k t v p = 0 ∧ clW k t v p = root))) ∧ Below w.heap.size w w' := by
  have CS := implClimbSlot_any k v t a c p w hT h hl
  have EQ := eqlR
  generalize clF k t v p = cd at *
  generalize clW k t v p = cv at *
  clear h hT
  go_enter Tryd.func13, Tryd.ntmps13
  go_wp2_with fail
  refine CS.mono ?_
  rintro r u1 ⟨rfl, hb1⟩
  go_wp2
  go_ret
  exact ⟨ret_bool (by show (decide (cd = 0) && decide (cv = root)) = _; rw [Bool.eq_iff_iff]; simp), hb1⟩

end Go.Proofs.YtjkehgnelfgoaaaDoor
