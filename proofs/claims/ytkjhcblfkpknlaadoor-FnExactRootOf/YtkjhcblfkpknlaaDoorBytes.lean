/- Contracts: slices of bytes copied and held against each other by the laws. -/
import Derived.Test.YtkjhcblfkpknlaaDoorInts
namespace Go.Proofs.YtkjhcblfkpknlaaDoor
open Go.ChangeShapes Go.WideShapes Go.ChangeAt Go.RowKit
set_option linter.unusedVariables false
set_option linter.unusedSimpArgs false

theorem info8 : (Tryd.prog.info? 5).map (fun i => (i.zero, i.size, i.bytes)) = some (some (.int .u8 0), 1, 1) := by kernel_rfl

/-- The first k numbers, and nothing yet behind them. -/
def partB (zs : List Int) (k : Nat) : List Value := (zs.take k ++ List.replicate (zs.length - k) 0).map (.int .u8)
theorem partB_zero (zs : List Int) : (madeCells (Value.int .u8 0).cells (zs.length * 1)).toList = partB zs 0 := by
  unfold partB madeCells
  simp [Value.cells]
  rw [List.eq_replicate_iff]
  exact ⟨by simp, fun b hb => by simp [Nat.mod_one] at hb; exact hb.2.symm⟩
theorem partB_all (zs : List Int) : partB zs zs.length = zs.map (.int .u8) := by unfold partB; simp
theorem partB_set (zs : List Int) (k : Nat) (h : k < zs.length) : (partB zs k).set k (.int .u8 zs[k]) = partB zs (k + 1) := by
  unfold partB
  have hr : zs.length - k = (zs.length - (k + 1)) + 1 := by omega
  rw [hr, List.replicate_succ, ← List.map_set]
  congr 1
  rw [List.set_append_right _ _ (by simp; omega)]
  have hl : k - (zs.take k).length = 0 := by simp; omega
  rw [hl, List.set_cons_zero, List.take_succ_eq_append_getElem h, List.append_assoc]
  rfl
theorem partB_cell (zs : List Int) (k : Nat) (h : k < zs.length) : (partB zs k)[k]? = some (.int .u8 0) := by
  unfold partB
  have hl : (zs.take k).length = k := by simp; omega
  rw [List.getElem?_map, List.getElem?_append_right (by omega), hl]
  simp [List.getElem?_replicate]
  omega

set_option maxHeartbeats 1000000 in
theorem toBytes_any (a : Option Addr) (len cap : Nat) (zs : List Int) (w : World) (h : Has w .u8 a len zs) (hlen : len ≤ 1048576) :
    Calls Tryd.prog 41 #[.slice a len cap] w fun r w' => r = .returned (.slice (some ⟨w.heap.size, 0, none⟩) len len) ∧ w'.ownsRow w.heap.size 5 1 (.slice (some ⟨w.heap.size, 0, none⟩) len len) len (zs.map (.int .u8)) ∧ Below w.heap.size w w' := by
  obtain ⟨i0, hi, hz0, hz1, hz2⟩ := info_parts info8
  obtain ⟨rfl, hwf, hc⟩ := h
  have hpz := partB_zero zs
  have hpa := partB_all zs
  have PZ : Hid (_) := hpz
  have PA : Hid (_) := hpa
  clear hpz hpa
  rcases hc with h0 | ⟨b, off, rfl, hb, hcell⟩
  · obtain rfl : zs = [] := List.eq_nil_of_length_eq_zero h0
    have e : partB [] 0 = ([] : List Int).map (.int .u8) := partB_all []
    have EE : Hid (_) := e
    clear h0 e
    simp only [List.length_nil] at *
    go_enter Tryd.func41, Tryd.ntmps41
    go_wp2_with (at_make; refine wpList_make_full _ rfl _ _ 22 rfl w.heap.size 5 i0 (.int .u8 0) 1 Tryd.underlying22 hi hz0 hz1 _ _ _ _ 0 rfl rfl rfl rfl (by rw [hz2]; omega) (by unfold maxLen; omega) (Nat.le_refl _) ?_; intro w1 hown hgrow)
    have hbel : Below w.heap.size w w1 := (Below.refl _ _).grown hgrow (Nat.le_refl _) (by intro k hk; cases hk)
    clear hgrow
    refine wp_loop_rounds 1 ?_
    rw [rounds_succ]
    go_wp2
    go_ret
    refine ⟨rfl, ?_, hbel⟩
    rw [PZ.out, EE.out] at hown
    exact hown
  · go_enter Tryd.func41, Tryd.ntmps41
    go_wp2_with (at_make; refine wpList_make_full _ rfl _ _ 22 rfl w.heap.size 5 i0 (.int .u8 0) 1 Tryd.underlying22 hi hz0 hz1 _ _ _ _ zs.length rfl rfl rfl rfl (by rw [hz2]; omega) (by unfold maxLen; omega) (Nat.le_refl _) ?_; intro w1 hown hgrow)
    rw [PZ.out] at hown
    have hbel : Below w.heap.size w w1 := (Below.refl _ _).grown hgrow (Nat.le_refl _) (by intro k hk; cases hk)
    clear hgrow
    go_loopw [4] (fun i wr => ∃ k : Nat, k ≤ zs.length ∧ i = .int .i64 k ∧ wr.ownsRow w.heap.size 5 1 (.slice (some ⟨w.heap.size, 0, none⟩) zs.length zs.length) zs.length (partB zs k) ∧ Below w.heap.size w wr) (fun i _ => zs.length - (intOf i).toNat)
    case atStart => exact ⟨0, Nat.zero_le _, rfl, hown, hbel⟩
    case round =>
      clear hown hbel
      obtain ⟨k, hk, rfl, hown, hbel⟩ := hrel
      by_cases hlt : k < zs.length
      · have hx : wr.cell? ⟨b, off + k, none⟩ = some (.int .u8 zs[k]) := (hbel.cell (p := ⟨b, off + k, none⟩) hb).trans (by rw [hcell k hlt]; simp [List.getD, hlt])
        have hy : wr.cell? ⟨w.heap.size, k, none⟩ = some (.int .u8 0) := (hown.cellAt k (by omega)).trans (partB_cell zs k hlt)
        have hf := hown.frozenAt k
        have hst := hown.stored k (.int .u8 zs[k])
        rw [partB_set zs k hlt] at hst
        have HST : Hid (_ ∧ _) := hst
        clear hst hown
        go_wp2
        go_roundw
        case rel => exact ⟨k + 1, by omega, by go_num, HST.out.1, hbel.setCell (Nat.le_refl _) _⟩
        case measure => simp [intOf]; omega
      · have hkk : k = zs.length := by omega
        have HK : Hid (k = zs.length) := hkk
        clear hkk
        go_wp2
        go_ret
        refine ⟨rfl, ?_, hbel⟩
        rw [HK.out, PA.out] at hown
        exact hown

set_option maxHeartbeats 1000000 in
theorem eqBytes_any (a b : Option Addr) (ca cb : Nat) (zs : List Int) (w : World) (ha : Has w .u8 a zs.length zs) (hb : Has w .u8 b zs.length zs) (hlen : zs.length ≤ 1048576) :
    Calls Tryd.prog 42 #[.slice a zs.length ca, .slice b zs.length cb] w fun r w' => r = .returned (.bool true) ∧ Below w.heap.size w w' := by
  obtain ⟨_, _, ha⟩ := ha
  obtain ⟨_, _, hb⟩ := hb
  rcases ha with h0 | ⟨b1, o1, rfl, _, hc1⟩
  · obtain rfl : zs = [] := List.eq_nil_of_length_eq_zero h0
    clear h0 hb
    simp only [List.length_nil] at *
    go_enter Tryd.func42, Tryd.ntmps42
    go_wp2
    refine wp_loop_rounds 1 ?_
    rw [rounds_succ]
    go_wp2
    go_ret
    exact ⟨rfl, Below.refl _ _⟩
  · rcases hb with h0 | ⟨b2, o2, rfl, _, hc2⟩
    · obtain rfl : zs = [] := List.eq_nil_of_length_eq_zero h0
      clear h0 hc1
      simp only [List.length_nil] at *
      go_enter Tryd.func42, Tryd.ntmps42
      go_wp2
      refine wp_loop_rounds 1 ?_
      rw [rounds_succ]
      go_wp2
      go_ret
      exact ⟨rfl, Below.refl _ _⟩
    · go_enter Tryd.func42, Tryd.ntmps42
      go_wp2
      go_loopw [5] (fun i wr => ∃ k n : Nat, k ≤ zs.length ∧ i = .int .i64 k ∧ wr = w.drewN n) (fun i _ => zs.length - (intOf i).toNat)
      case atStart => exact ⟨0, 0, Nat.zero_le _, rfl, rfl⟩
      case round =>
        obtain ⟨k, n, hk, rfl, rfl⟩ := hrel
        by_cases hlt : k < zs.length
        · have e1 : w.cell? ⟨b1, o1 + k, none⟩ = some (.int .u8 zs[k]) := by rw [hc1 k hlt]; simp [List.getD, hlt]
          have e2 : w.cell? ⟨b2, o2 + k, none⟩ = some (.int .u8 zs[k]) := by rw [hc2 k hlt]; simp [List.getD, hlt]
          have e3 : (zs[k] != zs[k]) = false := by simp
          have hlt' : (k : Int) < (zs.length : Int) := by omega
          go_wp2
          go_quiet (fail)
          go_wp2
          go_roundw
          case rel => exact ⟨k + 1, _, by omega, by go_num, rfl⟩
          case measure => simp [intOf]; omega
        · go_wp2
          go_ret
          exact ⟨rfl, below_drewN (Below.refl _ _) _⟩

theorem toBytes_has (a : Option Addr) (cap : Nat) (zs : List Int) (w : World) (h : Has w .u8 a zs.length zs) (hlen : zs.length ≤ 1048576) :
    Calls Tryd.prog 41 #[.slice a zs.length cap] w fun r w' => r = .returned (.slice (some ⟨w.heap.size, 0, none⟩) zs.length zs.length) ∧ Below w.heap.size w w' ∧ Has w' .u8 (some ⟨w.heap.size, 0, none⟩) zs.length zs ∧ w.heap.size < w'.heap.size := by
  refine (toBytes_any a zs.length cap zs w h hlen).mono ?_
  rintro r w' ⟨hr, hown, hb⟩
  have hlt : w.heap.size < w'.heap.size := by
    rcases hown.2 with ⟨h1, _⟩ | ⟨g, cap', cur, h1, _, hg, _⟩
    · simp at h1
    · simp at h1
      obtain ⟨rfl, rfl⟩ := h1
      exact (Array.getElem?_eq_some_iff.1 hg).1
  exact ⟨hr, hb, Has.of_own hown hlt h.2.1, hlt⟩

end Go.Proofs.YtkjhcblfkpknlaaDoor
