/- Contracts: the split of a size. -/
import Derived.Test.YtjiamihidnofmabDoorSplitD
import Derived.Test.YtjiamihidnofmabDoorIn
namespace Go.Proofs.YtjiamihidnofmabDoor
open Go.ChangeShapes Go.WideShapes Go.ChangeAt Go.RowKit
set_option linter.unusedVariables false
set_option linter.unusedSimpArgs false

theorem split_any (n : Int) (w : World) (h0 : 0 ≤ n) (h : n ≤ 32) :
    Calls Tryd.prog 25 #[.int .i64 n] w fun r w' => r = .returned (.int .i64 (splN n)) ∧ w' = w := by
  go_enter Tryd.func25, Tryd.ntmps25
  go_wp2
  go_loop [3] (fun t => ∃ k : Int, IsPow k ∧ (k = 1 ∨ k < n) ∧ t = .int .i64 k) (fun t => (32 - intOf t).toNat)
  case atStart => exact ⟨1, .inl rfl, .inl rfl, rfl⟩
  case round =>
    obtain ⟨k, hp, hk, rfl⟩ := hrel
    have hb : 1 ≤ k ∧ k ≤ 16 := by unfold IsPow at hp; omega
    obtain ⟨hb1, hb2⟩ := hb
    have HK : Hid (k = 1 ∨ k < n) := hk
    have HP : Hid (IsPow k) := hp
    clear hk hp
    by_cases hlt : 2 * k < n
    · go_wp2
      go_round
      case rel => exact ⟨2 * k, splN_step HP.out h hlt, .inr hlt, rfl⟩
      case measure => simp [intOf]; omega
    · go_wp2
      go_ret
      exact ⟨ret_int (splN_end HP.out HK.out h (by omega)), rfl⟩

end Go.Proofs.YtjiamihidnofmabDoor
