/- Contracts of the laws' own functions over events: copied into memory of their own, marked. -/
import Derived.Test.YtngibnmcagogaaaDoorToEvent
import Derived.Test.YtngibnmcagogaaaDoorMarkI
namespace Go.Proofs.YtngibnmcagogaaaDoor
open Go.ChangeShapes Go.WideShapes Go.ChangeAt Go.RowKit
set_option maxRecDepth 100000
set_option linter.unusedVariables false
set_option linter.unusedSimpArgs false

theorem toEventO_any (s v k x : Int) (a : Option Addr) (c : Nat) (zs : List Int) (w : World) (ha : Has w .u8 a zs.length zs) (hl : zs.length ≤ 1048576) :
    Calls Tryd.prog 53 #[.agg #[.int .i64 s, .int .i64 v, .int .i64 k, .int .i64 x, .slice a zs.length c]] w fun r w' => ∃ g, r = .returned (.agg #[.int .i64 s, .int .i64 v, .int .i64 k, .int .i64 x, .slice (some ⟨g, 0, none⟩) zs.length zs.length]) ∧ w'.ownsRow (w.heap.size + 1) 5 1 (.slice (some ⟨g, 0, none⟩) zs.length zs.length) zs.length (zs.map (.int .u8)) ∧ w.heap.size < g ∧ g < w'.heap.size ∧ Below w.heap.size w w' := by
  refine (toEvent_any s v k x a c zs w ha hl).mono ?_
  rintro r w' ⟨rfl, ho, hb⟩
  exact ⟨w.heap.size + 1 + 1 + 1, rfl, own_mono ho (by omega), by omega, own_lt ho _ rfl, hb⟩

end Go.Proofs.YtngibnmcagogaaaDoor
