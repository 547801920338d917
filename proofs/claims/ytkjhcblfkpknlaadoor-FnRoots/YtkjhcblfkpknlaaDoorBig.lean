/- Contracts: whether a code is too long. -/
import Derived.Test.YtkjhcblfkpknlaaDoorFrame
namespace Go.Proofs.YtkjhcblfkpknlaaDoor
open Go.ChangeShapes Go.WideShapes Go.ChangeAt Go.RowKit
set_option maxRecDepth 100000
set_option linter.unusedVariables false
set_option linter.unusedSimpArgs false

theorem lwBig_yes (w : World) (a : Option Addr) (len cap : Nat) (h : 1048576 < len) : Calls Tryd.prog 13 #[.slice a len cap] w fun r w' => r = .returned (.bool true) ∧ w' = w := by
  have h' : (1048576 : Int) < (len : Int) := by omega
  go_enter Tryd.func13, Tryd.ntmps13
  go_wp2
  go_ret
  exact ⟨ret_bool (by simp <;> omega), rfl⟩
theorem lwBig_no (w : World) (a : Option Addr) (len cap : Nat) (h : len ≤ 1048576) : Calls Tryd.prog 13 #[.slice a len cap] w fun r w' => r = .returned (.bool false) ∧ w' = w := by
  have h' : (len : Int) ≤ 1048576 := by omega
  go_enter Tryd.func13, Tryd.ntmps13
  go_wp2
  go_ret
  exact ⟨ret_bool (by simp <;> omega), rfl⟩

end Go.Proofs.YtkjhcblfkpknlaaDoor
