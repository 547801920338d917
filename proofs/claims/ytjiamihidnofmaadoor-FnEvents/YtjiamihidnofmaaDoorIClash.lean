/- Contracts of the program's chapter 2: whether two pieces clash. -/
import Derived.Test.YtjiamihidnofmaaDoorClash
import Derived.Test.YtjiamihidnofmaaDoorISum
import Derived.Deep.RegionHeld3
import Derived.Deep.DeepCutAuto
namespace Go.Proofs.YtjiamihidnofmaaDoor
open Go.ChangeShapes Go.WideShapes Go.ChangeAt Go.RowKit
set_option maxRecDepth 100000
set_option linter.unusedVariables false
set_option linter.unusedSimpArgs false

theorem bytesEqual_any (a b : Option Addr) (ca cb : Nat) (zs ys : List Int) (w : World) (ha : Has w .u8 a zs.length zs) (hb : Has w .u8 b ys.length ys) :
    Calls Tryd.prog 68 #[.slice a zs.length ca, .slice b ys.length cb] w fun r w' => r = .returned (.bool (decide (zs = ys))) ∧ w' = w := by
  have s1 := ha.str ca
  have s2 := hb.str cb
  have hst := str_beq ha.2.1 hb.2.1
  have HS : Hid (_) := hst
  clear hst
  go_enter Tryd.func68, Tryd.ntmps68
  go_wp2
  go_ret
  exact ⟨ret_bool HS.out, rfl⟩

theorem Has.drew {w : World} {k : IntKind} {a : Option Addr} {len : Nat} {zs : List Int} (h : Has w k a len zs) : Has w.drew k a len zs := h.below (Below.refl _ _).drew (Nat.le_refl _)

theorem bsize {W w1 : World} (hb : Below W.heap.size W w1) : (∀ x : Nat, x < W.heap.size → ¬ x = w1.heap.size) ∧ (∀ x : Nat, x < W.heap.size → ¬ w1.heap.size = x) ∧ (∀ x : Nat, x < W.heap.size → x < w1.heap.size) := by
  have := hb.size
  exact ⟨fun x h => by omega, fun x h => by omega, fun x h => by omega⟩

end Go.Proofs.YtjiamihidnofmaaDoor
