/- Contracts: slices of int64 copied and held against each other by the laws. -/
import Derived.Test.YtngibnmcagogaaaDoorFrame
namespace Go.Proofs.YtngibnmcagogaaaDoor
open Go.ChangeShapes Go.WideShapes Go.ChangeAt Go.RowKit
set_option linter.unusedVariables false
set_option linter.unusedSimpArgs false

/-- A slice of integers that is only read: its elements. -/
def Has (w : World) (k : IntKind) (a : Option Addr) (len : Nat) (zs : List Int) : Prop :=
  zs.length = len ∧ (∀ n ∈ zs, (Lit.int k n).wf = true) ∧ (len = 0 ∨ ∃ b off, a = some ⟨b, off, none⟩ ∧ b < w.heap.size ∧ ∀ i, i < len → w.cell? ⟨b, off + i, none⟩ = some (.int k (zs.getD i 0)))

theorem Has.of_row {w : World} {k : IntKind} {a : Option Addr} {len cap : Nat} {zs : List Int} (h : IsRow k w a len cap zs) : Has w k a len (zs.take len) := by
  rcases h with ⟨rfl, rfl, rfl, rfl⟩ | ⟨x, rfl, hl, hm, hz, hcell, hwz⟩
  · exact ⟨rfl, by simp, .inl rfl⟩
  · refine ⟨by simp; omega, fun n hn => hwz n (List.mem_of_mem_take hn), ?_⟩
    by_cases h0 : len = 0
    · exact .inl h0
    · obtain ⟨b, off, spot⟩ := x
      have hc := hcell 0 (by omega)
      have hspot : spot = none := by simpa [Addr.add] using World.cell?_spot hc
      subst hspot
      refine .inr ⟨b, off, rfl, block_lt_of_cell hc, fun i hi => ?_⟩
      have := hcell i (by omega)
      by_cases hi0 : i = 0
      · subst hi0; simpa [Addr.add, List.getD, List.getElem?_take, hi] using this
      · simpa [Addr.add, List.getD, List.getElem?_take, hi, hi0] using this
theorem Has.below {w w' : World} {k : IntKind} {a : Option Addr} {len : Nat} {zs : List Int} (h : Has w k a len zs) {B : Nat} (hb : Below B w w') (hB : w.heap.size ≤ B) : Has w' k a len zs := by
  refine ⟨h.1, h.2.1, ?_⟩
  rcases h.2.2 with h0 | ⟨b, off, ha, hlt, hc⟩
  · exact .inl h0
  · exact .inr ⟨b, off, ha, Nat.lt_of_lt_of_le hlt hb.size, fun i hi => (hb.cell (p := ⟨b, off + i, none⟩) (Nat.lt_of_lt_of_le hlt hB)).trans (hc i hi)⟩
theorem Has.alloc {w : World} {k : IntKind} {a : Option Addr} {len : Nat} {zs : List Int} (h : Has w k a len zs) (O : Obj) : Has (w.alloc O) k a len zs := h.below ((Below.refl _ _).alloc (Nat.le_refl _) O) (Nat.le_refl _)
theorem Has.of_own {w : World} {base e : Nat} {g n cap : Nat} {zs : List Int} {k : IntKind} (h : w.ownsRow base e 1 (.slice (some ⟨g, 0, none⟩) n cap) n (zs.map (.int k))) (hg : g < w.heap.size) (hw : ∀ n ∈ zs, (Lit.int k n).wf = true) : Has w k (some ⟨g, 0, none⟩) n zs := by
  have hl := h.1
  simp at hl
  refine ⟨hl, hw, .inr ⟨g, 0, rfl, hg, fun i hi => ?_⟩⟩
  rw [Nat.zero_add, h.cellAt i (by omega)]
  simp [List.getD, List.getElem?_eq_getElem (show i < zs.length by omega)]

theorem info64 : (Tryd.prog.info? 2).map (fun i => (i.zero, i.size, i.bytes)) = some (some (.int .i64 0), 1, 8) := by kernel_rfl

/-- The first k numbers, and nothing yet behind them. -/
def part (zs : List Int) (k : Nat) : List Value := (zs.take k ++ List.replicate (zs.length - k) 0).map (.int .i64)
theorem part_zero (zs : List Int) : (madeCells (Value.int .i64 0).cells (zs.length * 1)).toList = part zs 0 := by
  unfold part madeCells
  simp [Value.cells]
  rw [List.eq_replicate_iff]
  exact ⟨by simp, fun b hb => by simp [Nat.mod_one] at hb; exact hb.2.symm⟩
theorem part_all (zs : List Int) : part zs zs.length = zs.map (.int .i64) := by unfold part; simp
theorem part_set (zs : List Int) (k : Nat) (h : k < zs.length) : (part zs k).set k (.int .i64 zs[k]) = part zs (k + 1) := by
  unfold part
  have hr : zs.length - k = (zs.length - (k + 1)) + 1 := by omega
  rw [hr, List.replicate_succ, ← List.map_set]
  congr 1
  rw [List.set_append_right _ _ (by simp; omega)]
  have hl : k - (zs.take k).length = 0 := by simp; omega
  rw [hl, List.set_cons_zero, List.take_succ_eq_append_getElem h, List.append_assoc]
  rfl
theorem part_cell (zs : List Int) (k : Nat) (h : k < zs.length) : (part zs k)[k]? = some (.int .i64 0) := by
  unfold part
  have hl : (zs.take k).length = k := by simp; omega
  rw [List.getElem?_map, List.getElem?_append_right (by omega), hl]
  simp [List.getElem?_replicate]
  omega

end Go.Proofs.YtngibnmcagogaaaDoor
