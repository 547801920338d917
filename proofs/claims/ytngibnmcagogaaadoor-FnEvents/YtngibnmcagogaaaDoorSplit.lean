/- Contracts: the fault of a list of leaves. Contracts: the split of a size. -/
import Derived.Test.YtngibnmcagogaaaDoorInts
import Derived.Test.YtngibnmcagogaaaDoorIn
import Derived.Test.YtngibnmcagogaaaDoorGrowD
namespace Go.Proofs.YtngibnmcagogaaaDoor
open Go.ChangeShapes Go.WideShapes Go.ChangeAt Go.RowKit
set_option linter.unusedVariables false
set_option linter.unusedSimpArgs false

/-- Whether all numbers of a list are sums. -/
def allS (zs : List Int) : Bool := zs.all fun z => decide (0 ≤ z ∧ z ≤ 65520)
theorem allS_take {zs : List Int} (h : allS zs = true) (k : Nat) : allS (zs.take k) = true := by
  unfold allS at *; rw [List.all_eq_true] at *; exact fun x hx => h x (List.mem_of_mem_take hx)
theorem allS_drop {zs : List Int} (h : allS zs = true) (k : Nat) : allS (zs.drop k) = true := by
  unfold allS at *; rw [List.all_eq_true] at *; exact fun x hx => h x (List.mem_of_mem_drop hx)
theorem allS_get {zs : List Int} (h : allS zs = true) (k : Nat) (hk : k < zs.length) : 0 ≤ zs[k] ∧ zs[k] ≤ 65520 := by
  unfold allS at h; rw [List.all_eq_true] at h; exact of_decide_eq_true (h _ (List.getElem_mem hk))
theorem allS_snoc (zs : List Int) (k : Nat) (hk : k < zs.length) : allS (zs.take (k + 1)) = (allS (zs.take k) && decide (0 ≤ zs[k] ∧ zs[k] ≤ 65520)) := by
  unfold allS; rw [List.take_succ_eq_append_getElem hk, List.all_append]; simp
/-- The fault of a list of leaves. -/
def lvF (zs : List Int) : Int := if 24 < zs.length then 2 else if allS zs = true then 0 else 3
/-- The fault of a list of sums, however many. -/
def suF (zs : List Int) : Int := if allS zs = true then 0 else 3

theorem isSumF_any (v : Int) (w : World) : Calls Tryd.prog 64 #[.int .i64 v] w fun r w' => r = .returned (.bool (decide (0 ≤ v ∧ v ≤ 65520))) ∧ w' = w := by
  by_cases h : 0 ≤ v
  · go_enter Tryd.func64, Tryd.ntmps64
    go_wp2
    go_ret
    exact ⟨ret_bool (by simp [h]), rfl⟩
  · go_enter Tryd.func64, Tryd.ntmps64
    go_wp2
    go_ret
    exact ⟨ret_bool (by simp; omega), rfl⟩

theorem allS_false {zs : List Int} {k : Nat} (hk : k < zs.length) (h : decide (0 ≤ zs[k] ∧ zs[k] ≤ 65520) = false) : allS zs = false := by
  rw [Bool.eq_false_iff]; intro e; have := allS_get e k hk; simp at h; omega

end Go.Proofs.YtngibnmcagogaaaDoor

namespace Go.Proofs.YtngibnmcagogaaaDoor
open Go.ChangeShapes Go.WideShapes Go.ChangeAt Go.RowKit
set_option linter.unusedVariables false
set_option linter.unusedSimpArgs false

end Go.Proofs.YtngibnmcagogaaaDoor
