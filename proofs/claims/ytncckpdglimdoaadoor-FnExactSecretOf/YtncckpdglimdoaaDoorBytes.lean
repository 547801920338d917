/- Contracts: slices of bytes copied and held against each other by the laws. -/
import Derived.Test.YtncckpdglimdoaaDoorInts
namespace Go.Proofs.YtncckpdglimdoaaDoor
open Go.ChangeShapes Go.WideShapes Go.ChangeAt Go.RowKit
set_option linter.unusedVariables false
set_option linter.unusedSimpArgs false

theorem info8 : (Tryd.prog.info? 5).map (fun i => (i.zero, i.size, i.bytes)) = some (some (.int .u8 0), 1, 1) := by kernel_rfl

/-- The first k numbers, and nothing yet behind them. -/
def partB (zs : List Int) (k : Nat) : List Value := (zs.take k ++ List.replicate (zs.length - k) 0).map (.int .u8)
theorem partB_zero (zs : List Int) : (madeCells (Value.int .u8 0).cells (zs.length * 1)).toList = partB zs 0 := by
  unfold partB madeCells
  simp [Value.cells]
  rw [List.eq_replicate_iff]
  exact ⟨by simp, fun b hb => by simp [Nat.mod_one] at hb; exact hb.2.symm⟩
theorem partB_all (zs : List Int) : partB zs zs.length = zs.map (.int .u8) := by unfold partB; simp
theorem partB_set (zs : List Int) (k : Nat) (h : k < zs.length) : (partB zs k).set k (.int .u8 zs[k]) = partB zs (k + 1) := by
  unfold partB
  have hr : zs.length - k = (zs.length - (k + 1)) + 1 := by omega
  rw [hr, List.replicate_succ, ← List.map_set]
  congr 1
  rw [List.set_append_right _ _ (by simp; omega)]
  have hl : k - (zs.take k).length = 0 := by simp; omega
  rw [hl, List.set_cons_zero, List.take_succ_eq_append_getElem h, List.append_assoc]
  rfl
theorem partB_cell (zs : List Int) (k : Nat) (h : k < zs.length) : (partB zs k)[k]? = some (.int .u8 0) := by
  unfold partB
  have hl : (zs.take k).length = k := by simp; omega
  rw [List.getElem?_map, List.getElem?_append_right (by omega), hl]
  simp [List.getElem?_replicate]
  omega

end Go.Proofs.YtncckpdglimdoaaDoor
