/- Contracts: slices of bytes copied and held against each other by the laws. -/
import Derived.Test.YtjjddjohckcmbaaDoorInts
namespace Go.Proofs.YtjjddjohckcmbaaDoor
open Go.ChangeShapes Go.WideShapes Go.ChangeAt Go.RowKit
set_option linter.unusedVariables false
set_option linter.unusedSimpArgs false

theorem info8 : (Tryd.prog.info? 5).map (fun i => (i.zero, i.size, i.bytes)) = some (some (.int .u8 0), 1, 1) := by kernel_rfl

/-- The first k numbers, and nothing yet behind them. -/
def partB (zs : List Int) (k : Nat) : List Value := (zs.take k ++ List.replicate (zs.length - k) 0).map (.int .u8)
theorem partB_zero (zs : List Int) : (madeCells (Value.int .u8 0).cells (zs.length * 1)).toList = partB zs 0 := by
  unfold partB madeCells
  simp [Value.cells]
  rw [List.eq_replicate_iff]
  exact ⟨by simp, fun b hb => by simp [Nat.mod_one] at hb; exact hb.2.symm⟩
theorem partB_all (zs : List Int) : partB zs zs.length = zs.map (.int .u8) := by unfold partB; simp
theorem partB_set (zs : List Int) (k : Nat) (h : k < zs.length) : (partB zs k).set k (.int .u8 zs[k]) = partB zs (k + 1) := by
  unfold partB
  have hr : zs.length - k = (zs.length - (k + 1)) + 1 := by omega
  rw [hr, List.replicate_succ, ← List.map_set]
  congr 1
  rw [List.set_append_right _ _ (by simp; omega)]
  have hl : k - (zs.take k).length = 0 := by simp; omega
  rw [hl, List.set_cons_zero, List.take_succ_eq_append_getElem h, List.append_assoc]
  rfl
theorem partB_cell (zs : List Int) (k : Nat) (h : k < zs.length) : (partB zs k)[k]? = some (.int .u8 0) := by
  unfold partB
  have hl : (zs.take k).length = k := by simp; omega
  rw [List.getElem?_map, List.getElem?_append_right (by omega), hl]
  simp [List.getElem?_replicate]
  omega

set_option maxHeartbeats 1000000 in
theorem eqBytes_any (a b : Option Addr) (ca cb : Nat) (zs : List Int) (w : World) (ha : Has w .u8 a zs.length zs) (hb : Has w .u8 b zs.length zs) (hlen : zs.length ≤ 1048576) :
    Calls Tryd.prog 104 #[.slice a zs.length ca, .slice b zs.length cb] w fun r w' => r = .returned (.bool true) ∧ Below w.heap.size w w' := by
  obtain ⟨_, _, ha⟩ := ha
  obtain ⟨_, _, hb⟩ := hb
  rcases ha with h0 | ⟨b1, o1, rfl, _, hc1⟩
  · obtain rfl : zs = [] := List.eq_nil_of_length_eq_zero h0
    clear h0 hb
    simp only [List.length_nil] at *
    go_enter Tryd.func104, Tryd.ntmps104
    go_wp2
    refine wp_loop_rounds 1 ?_
    rw [rounds_succ]
    go_wp2
    go_ret
    exact ⟨rfl, Below.refl _ _⟩
  · rcases hb with h0 | ⟨b2, o2, rfl, _, hc2⟩
    · obtain rfl : zs = [] := List.eq_nil_of_length_eq_zero h0
      clear h0 hc1
      simp only [List.length_nil] at *
      go_enter Tryd.func104, Tryd.ntmps104
      go_wp2
      refine wp_loop_rounds 1 ?_
      rw [rounds_succ]
      go_wp2
      go_ret
      exact ⟨rfl, Below.refl _ _⟩
    · go_enter Tryd.func104, Tryd.ntmps104
      go_wp2
      go_loopw [5] (fun i wr => ∃ k n : Nat, k ≤ zs.length ∧ i = .int .i64 k ∧ wr = w.drewN n) (fun i _ => zs.length - (intOf i).toNat)
      case atStart => exact ⟨0, 0, Nat.zero_le _, rfl, rfl⟩
      case round =>
        obtain ⟨k, n, hk, rfl, rfl⟩ := hrel
        by_cases hlt : k < zs.length
        · have e1 : w.cell? ⟨b1, o1 + k, none⟩ = some (.int .u8 zs[k]) := by rw [hc1 k hlt]; simp [List.getD, hlt]
          have e2 : w.cell? ⟨b2, o2 + k, none⟩ = some (.int .u8 zs[k]) := by rw [hc2 k hlt]; simp [List.getD, hlt]
          have e3 : (zs[k] != zs[k]) = false := by simp
          have hlt' : (k : Int) < (zs.length : Int) := by omega
          go_wp2
          go_quiet (fail)
          go_wp2
          go_roundw
          case rel => exact ⟨k + 1, _, by omega, by go_num, rfl⟩
          case measure => simp [intOf]; omega
        · go_wp2
          go_ret
          exact ⟨rfl, below_drewN (Below.refl _ _) _⟩

end Go.Proofs.YtjjddjohckcmbaaDoor
