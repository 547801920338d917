/- Plain facts for the law on roots. -/
import Derived.Test.YtkjhcblfkpknlaaDoorGrowC
import Derived.Test.YtkjhcblfkpknlaaDoorLvl
namespace Go.Proofs.YtkjhcblfkpknlaaDoor
open Go.ChangeShapes Go.WideShapes Go.ChangeAt Go.RowKit
set_option linter.unusedVariables false
set_option linter.unusedSimpArgs false

theorem fldR0 (x y : Int) (w : World) : (Instr.field 33 (.agg #[.int .i64 x, .int .i64 y]) 0).run Tryd.prog w = .ok (.int .i64 x) w := by kernel_rfl
theorem lvF_takeR {ys : List Int} (h : lvF ys = 0) (m : Nat) : lvF (ys.take m) = 0 := by
  obtain ⟨h1, h2⟩ := lvF_zero h
  unfold lvF
  rw [if_neg (by simp; omega), if_pos (allS_take h2 m)]
theorem lvF_drop {ys : List Int} (h : lvF ys = 0) (m : Nat) : lvF (ys.drop m) = 0 := by
  obtain ⟨h1, h2⟩ := lvF_zero h
  unfold lvF
  rw [if_neg (by simp; omega), if_pos (allS_drop h2 m)]
theorem rtV_ok {ys : List Int} (h : lvF ys = 0) : rtV ys = rtM nS 11 ys := by unfold rtV; rw [if_pos h]
theorem rtV_parts {ys : List Int} (h : lvF ys = 0) (h2 : 2 ≤ ys.length) (m : Nat) (hm : splN (ys.length : Int) = m) : nodeV (rtV (ys.take m)) (rtV (ys.drop m)) = rtV ys := by
  obtain ⟨h1, h3⟩ := lvF_zero h
  rw [rtV_ok h, rtV_ok (lvF_takeR h m), rtV_ok (lvF_drop h m), rtM_gt nS 11 h2, hm, nodeV_nS ⟨rtM_bd _ _ (Nat.le_refl _) (allS_take h3 m), rtM_bd _ _ (Nat.le_refl _) (allS_drop h3 m)⟩]
  rfl
theorem rtV_nil {ys : List Int} (h : lvF ys = 0) (h0 : ys.length = 0) : rtV ys = 11 := by
  rw [rtV_ok h, rtM_le nS 11 (by omega), List.eq_nil_of_length_eq_zero h0]; rfl
theorem rtV_one {ys : List Int} (h : lvF ys = 0) (h0 : ys.length = 1) : rtV ys = ys.getD 0 0 := by
  rw [rtV_ok h, rtM_le nS 11 (by omega)]
  cases ys with
  | nil => simp at h0
  | cons y ys => rfl

end Go.Proofs.YtkjhcblfkpknlaaDoor
