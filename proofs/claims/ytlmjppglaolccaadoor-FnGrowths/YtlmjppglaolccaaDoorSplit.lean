/- Contracts: the split of a size. -/
import Derived.Test.YtlmjppglaolccaaDoorSplitD
import Derived.Test.YtlmjppglaolccaaDoorIn
namespace Go.Proofs.YtlmjppglaolccaaDoor
open Go.ChangeShapes Go.WideShapes Go.ChangeAt Go.RowKit
set_option linter.unusedVariables false
set_option linter.unusedSimpArgs false

theorem split_any (n : Int) (w : World) (h0 : 0 ≤ n) (h : n ≤ 32) :
    Calls Tryd.prog 61 #[.int .i64 n] w fun r w' => r = .returned (.int .i64 (splN n)) ∧ w' = w := by
  go_enter Tryd.func61, Tryd.ntmps61
  go_wp2
  go_loop [3] (fun t => ∃ k : Int, IsPow k ∧ (k = 1 ∨ k < n) ∧ t = .int .i64 k) (fun t => (32 - intOf t).toNat)
  case atStart => exact ⟨1, .inl rfl, .inl rfl, rfl⟩
  case round =>
    obtain ⟨k, hp, hk, rfl⟩ := hrel
    have hb : 1 ≤ k ∧ k ≤ 16 := by unfold IsPow at hp; omega
    obtain ⟨hb1, hb2⟩ := hb
    have HK : Hid (k = 1 ∨ k < n) := hk
    have HP : Hid (IsPow k) := hp
    clear hk hp
    by_cases hlt : 2 * k < n
    · go_wp2
      go_round
      case rel => exact ⟨2 * k, splN_step HP.out h hlt, .inr hlt, rfl⟩
      case measure => simp [intOf]; omega
    · go_wp2
      go_ret
      exact ⟨ret_int (splN_end HP.out HK.out h (by omega)), rfl⟩

theorem implSplit_any (n : Int) (w : World) :
    Calls Tryd.prog 75 #[.int .i64 n] w fun r w' => r = .returned (.agg #[.int .i64 (if 2 ≤ n ∧ n ≤ 24 then 0 else 3), .int .i64 (if 2 ≤ n ∧ n ≤ 24 then splN n else 0)]) ∧ Below w.heap.size w w' := by
  by_cases hin : 2 ≤ n ∧ n ≤ 24
  · rw [if_pos hin, if_pos hin]
    obtain ⟨h2, h24⟩ := hin
    have h2' : ¬ n < 2 := by omega
    have h24' : ¬ 24 < n := by omega
    go_enter Tryd.func75, Tryd.ntmps75
    go_wp2
    go_loop [3] (fun t => ∃ k : Int, IsPow k ∧ (k = 1 ∨ k < n) ∧ t = .int .i64 k) (fun t => (32 - intOf t).toNat)
    case atStart => exact ⟨1, .inl rfl, .inl rfl, rfl⟩
    case round =>
      obtain ⟨k, hp, hk, rfl⟩ := hrel
      have hb : 1 ≤ k ∧ k ≤ 16 := by unfold IsPow at hp; omega
      obtain ⟨hb1, hb2⟩ := hb
      have HK : Hid (k = 1 ∨ k < n) := hk
      have HP : Hid (IsPow k) := hp
      clear hk hp
      by_cases hlt : 2 * k < n
      · go_wp2
        go_round
        case rel => exact ⟨2 * k, splN_step HP.out (by omega) hlt, .inr hlt, by first | rfl | go_num⟩
        case measure => simp [intOf]; omega
      · go_wp2
        have e := splN_end HP.out HK.out (by omega) (by omega)
        rw [← e]
        exact bodyPost_ret (v := .agg #[.int .i64 0, .int .i64 k]) (by simp [results, Tryd.results75, go_sem]) rfl ⟨rfl, by repeat (first | exact Below.refl _ _ | refine Below.alloc ?_ (by simp) _ | refine Below.setCell ?_ (by simp) _)⟩
  · rw [if_neg hin, if_neg hin]
    by_cases h2 : n < 2
    all_goals
      (try have h24 : 24 < n := by omega)
      clear hin
      go_enter Tryd.func75, Tryd.ntmps75
      go_wp2
      exact bodyPost_ret (v := .agg #[.int .i64 3, .int .i64 0]) (by simp [results, Tryd.results75, go_sem]) rfl ⟨rfl, by repeat (first | exact Below.refl _ _ | refine Below.alloc ?_ (by simp) _ | refine Below.setCell ?_ (by simp) _)⟩

end Go.Proofs.YtlmjppglaolccaaDoor
