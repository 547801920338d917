/- Contracts of the model's chapter 2: the bytes of leaves and nodes, the sums of nodes and slots. -/
import Derived.Test.YtjjddjohckcmbaaDoorISums
namespace Go.Proofs.YtjjddjohckcmbaaDoor
open Go.ChangeShapes Go.WideShapes Go.ChangeAt Go.RowKit
set_option maxRecDepth 100000
set_option linter.unusedVariables false
set_option linter.unusedSimpArgs false

set_option maxHeartbeats 1000000 in
theorem l2Slot_any (k v : Int) (w : World) (k0 : 0 ≤ k) (k1 : k ≤ 63) (v0 : 0 ≤ v) (v1 : v ≤ 65535) :
    Calls Tryd.prog 97 #[.int .i64 k, .int .i64 v] w fun r w' => ∃ a' c', r = .returned (.slice a' (slotL k v).length c') ∧ w'.ownsRow w.heap.size 5 1 (.slice a' (slotL k v).length c') (slotL k v).length ((slotL k v).map (.int .u8)) ∧ Below w.heap.size w w' := by
  obtain ⟨i0, hi, hz0, hz1, hz2⟩ := info_parts info8
  have hown0 : (w.alloc (.cells #[.int .u8 2, .int .u8 k] 5)).ownsRow w.heap.size 5 1 (.slice (some ⟨w.heap.size, 0, none⟩) 2 2) 2 [.int .u8 2, .int .u8 k] := World.ownsRow_lit w #[.int .u8 2, .int .u8 k] 2 (Nat.le_refl _) (by unfold maxLen; omega) rfl
  go_enter Tryd.func97, Tryd.ntmps97
  go_wp2_with fail
  refine (l2Two_any v _ v0 v1).mono ?_
  rintro r u1 ⟨rfl, rfl⟩
  go_wp2_with (at_builtin; refine wpList_append_own _ rfl _ _ 22 rfl w.heap.size 5 i0 (.int .u8 0) 1 1 Tryd.underlying22 hi hz0 hz1 hz2 rfl (by decide) _ _ _ rfl (hown0.alloc _) ⟨w.heap.size + 1, 0, none⟩ 2 2 [.int .u8 (v / 256), .int .u8 (v % 256)] rfl (by simp) (by simpa using two_new (w.alloc (.cells #[.int .u8 2, .int .u8 k] 5)) (.int .u8 (v / 256)) (.int .u8 (v % 256)) 5) (by intro u hu; simp at hu; rcases hu with rfl | rfl <;> rfl) (by unfold maxLen; omega) (by omega) (by simp; omega) ?_; intro v1 w1 hown1 hgrow1 _h1)
  go_ret
  have hb1 := (((Below.refl w.heap.size w).alloc (Nat.le_refl _) _).alloc (by simp) _).trans ((Below.refl _ _).grown hgrow1 (by simp; omega) (fun k hk => (hown0.lt k hk).1))
  have hown4 : w1.ownsRow w.heap.size 5 1 v1 (slotL k v).length ((slotL k v).map (.int .u8)) := by simpa [slotL] using hown1
  obtain ⟨a', c', rfl⟩ := own_row_shape hown4
  exact ⟨a', c', rfl, hown4, hb1⟩

end Go.Proofs.YtjjddjohckcmbaaDoor
