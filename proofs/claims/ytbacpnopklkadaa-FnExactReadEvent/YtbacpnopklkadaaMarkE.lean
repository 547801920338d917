/- Contracts of the laws' own functions over events: copied into memory of their own, marked. -/
import Derived.Test.YtbacpnopklkadaaToEvent
import Derived.Test.YtbacpnopklkadaaMarkR
namespace Go.Proofs.Ytbacpnopklkadaa
open Go.ChangeShapes Go.WideShapes Go.ChangeAt Go.RowKit
set_option linter.unusedVariables false
set_option linter.unusedSimpArgs false

theorem toEventO_any (s v k x : Int) (a : Option Addr) (c : Nat) (zs : List Int) (w : World) (ha : Has w .u8 a zs.length zs) (hl : zs.length ≤ 1048576) :
    Calls Try.prog 9 #[.agg #[.int .i64 s, .int .i64 v, .int .i64 k, .int .i64 x, .slice a zs.length c]] w fun r w' => ∃ g, r = .returned (.agg #[.int .i64 s, .int .i64 v, .int .i64 k, .int .i64 x, .slice (some ⟨g, 0, none⟩) zs.length zs.length]) ∧ w'.ownsRow (w.heap.size + 1) 5 1 (.slice (some ⟨g, 0, none⟩) zs.length zs.length) zs.length (zs.map (.int .u8)) ∧ w.heap.size < g ∧ g < w'.heap.size ∧ Below w.heap.size w w' := by
  refine (toEvent_any s v k x a c zs w ha hl).mono ?_
  rintro r w' ⟨rfl, ho, hb⟩
  exact ⟨w.heap.size + 1 + 1 + 1, rfl, own_mono ho (by omega), by omega, own_lt ho _ rfl, hb⟩

set_option maxHeartbeats 1000000 in
theorem markEvent_any (base : Nat) (s v k x : Int) (a : Option Addr) (c : Nat) (zs : List Int) (w : World) (hown : w.ownsRow base 5 1 (.slice a zs.length c) zs.length (zs.map (.int .u8))) (hl : zs.length ≤ 2097152) :
    Calls Try.prog 15 #[.agg #[.int .i64 s, .int .i64 v, .int .i64 k, .int .i64 x, .slice a zs.length c], .int .i64 1] w fun r w' => r = .returned (.int .i64 (1 + zs.length)) ∧ w'.ownsRow base 5 1 (.slice a zs.length c) zs.length ((markL 1 zs.length).map (.int .u8)) ∧ Mk a (w.alloc (.cells #[.int .i64 s, .int .i64 v, .int .i64 k, .int .i64 x, .slice a zs.length c] 27)) w' := by
  go_enter Try.func15, Try.ntmps15
  go_wp2_with (go_at_call 23; refine (markByteS_any base a c 1 zs _ (own_below hown ((Below.refl _ _).alloc (Nat.le_refl _) _)) hl (by omega) (by omega)).mono ?_; rintro r u1 ⟨rfl, ho1, hm1⟩)
  go_ret
  exact ⟨rfl, ho1, hm1⟩

end Go.Proofs.Ytbacpnopklkadaa
