/- Contracts of the model's chapter 3: a number as eight bytes. -/
import Derived.Test.YtngibnmcagogaaaDoorSource
import Derived.Test.YtngibnmcagogaaaDoorISums
namespace Go.Proofs.YtngibnmcagogaaaDoor
open Go.ChangeShapes Go.WideShapes Go.ChangeAt Go.RowKit
set_option maxRecDepth 100000
set_option linter.unusedVariables false
set_option linter.unusedSimpArgs false

/-- The first j of the eight bytes of a number, the highest first. -/
def putL (n : Int) (j : Nat) : List Int := (List.range j).map fun (i : Nat) => (n / 2 ^ (56 - 8 * i)) % 256
theorem putL_len (n : Int) (j : Nat) : (putL n j).length = j := by simp [putL]
theorem putL_wf (n : Int) (j : Nat) : ∀ y ∈ putL n j, (Lit.int .u8 y).wf = true := by
  intro y hy
  simp [putL] at hy
  obtain ⟨i, _, rfl⟩ := hy
  exact wf_u8 (by omega) (by omega)
theorem putL_succ (n : Int) (j : Nat) : putL n (j + 1) = putL n j ++ [(n / 2 ^ (56 - 8 * j)) % 256] := by simp [putL, List.range_succ]

set_option maxHeartbeats 2000000 in
theorem l3Put_any (n : Int) (w : World) (n0 : -9223372036854775808 ≤ n) (n1 : n ≤ 9223372036854775807) :
    Calls Tryd.prog 93 #[.int .i64 n] w fun r w' => ∃ a' c', r = .returned (.slice a' 8 c') ∧ w'.ownsRow w.heap.size 5 1 (.slice a' 8 c') 8 ((putL n 8).map (.int .u8)) ∧ Below w.heap.size w w' := by
  obtain ⟨i0, hi, hz0, hz1, hz2⟩ := info_parts info8
  have hown0 : (w.alloc (.cells #[] 5)).ownsRow w.heap.size 5 1 (.slice (some ⟨w.heap.size, 0, none⟩) 0 0) 0 ((putL n 0).map (.int .u8)) := World.ownsRow_lit w #[] 0 (Nat.le_refl _) (Nat.zero_le _) rfl
  have hb0 := (Below.refl w.heap.size w).alloc (Nat.le_refl _) (.cells #[] 5)
  go_enter Tryd.func93, Tryd.ntmps93
  go_wp2
  go_loopw [3, 4] (fun v i wr => ∃ (j : Nat), j ≤ 8 ∧ i = .int .i64 (56 - 8 * (j : Int)) ∧ wr.ownsRow w.heap.size 5 1 v j ((putL n j).map (.int .u8)) ∧ Below w.heap.size w wr) (fun _ i _ => (intOf i + 8).toNat)
  case atStart => exact ⟨0, by omega, by simp, hown0, hb0⟩
  case round =>
    clear hown0 hb0
    obtain ⟨j, hj8, rfl, hown, hbel⟩ := hrel
    by_cases hj : j < 8
    · have hj' : (0 : Int) ≤ 56 - 8 * (j : Int) := by omega
      have hzW := hbel.size
      go_wp2_with (at_builtin; refine wpList_append_own _ rfl _ _ 22 rfl w.heap.size 5 i0 (.int .u8 0) 1 1 Tryd.underlying22 hi hz0 hz1 hz2 rfl (by decide) _ _ _ rfl (hown.alloc _) ⟨wr.heap.size, 0, none⟩ 1 1 [.int .u8 (n / 2 ^ (56 - 8 * j) % 256)] rfl rfl (one_new _ _ _) (by intro u hu; simp at hu; subst hu; rfl) (by unfold maxLen; omega) (by omega) (by simp; omega) ?_; intro v' w3 hown3 hgrow _h4)
      have hbel3 : Below w.heap.size w w3 := (hbel.alloc (by omega) _).trans ((Below.refl _ _).grown hgrow (by simp; omega) (fun k hk => (hown.lt k hk).1))
      have hown3' : w3.ownsRow w.heap.size 5 1 v' (j + 1) ((putL n (j + 1)).map (.int .u8)) := by rw [putL_succ, List.map_append]; exact hown3
      clear hgrow hown hown3 hbel
      go_wp2
      go_roundw
      case rel => exact ⟨j + 1, by omega, by go_num, hown3', hbel3⟩
      case measure => simp [intOf]; omega
    · obtain rfl : j = 8 := by omega
      go_wp2
      go_ret
      obtain ⟨a', c', rfl⟩ := own_row_shape hown
      exact ⟨a', c', rfl, hown, hbel⟩

end Go.Proofs.YtngibnmcagogaaaDoor
