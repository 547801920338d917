/- Contracts: the fault of pieces, the model's and the program's. -/
import Derived.Test.YtklhkhlmhddmcaaDoorPcsC
namespace Go.Proofs.YtklhkhlmhddmcaaDoor
open Go.ChangeShapes Go.WideShapes Go.ChangeAt Go.RowKit
set_option linter.unusedVariables false
set_option linter.unusedSimpArgs false

set_option maxHeartbeats 1000000 in
theorem implPiecesFault_any (a : Option Addr) (c : Nat) (rs : List Pc) (w : World) (h : HasP w a rs) (hl : rs.length ≤ 1048576) (hz : ∀ r ∈ rs, r.zs.length ≤ 1048576) :
    Calls Tryd.prog 18 #[.slice a rs.length c] w fun r w' => r = .returned (.int .i64 (pcF rs)) ∧ Below w.heap.size w w' := by
  have HF : Hid (pcF rs = if 24 < rs.length then 2 else if rs.all (fun r => decide (r.zs.length ≤ 250)) = true then 0 else 2) := rfl
  generalize pcF rs = cc at *
  by_cases h24 : 24 < rs.length
  · have h24' : (24 : Int) < (rs.length : Int) := by omega
    go_enter Tryd.func18, Tryd.ntmps18
    go_wp2
    go_ret
    exact ⟨ret_int (by rw [HF.out, if_pos h24]), Below.refl _ _⟩
  · have h24' : ¬ (24 : Int) < (rs.length : Int) := by omega
    rcases h.1 with h0 | ⟨b1, o1, rfl, hlt1, hc1⟩
    · obtain rfl : rs = [] := List.eq_nil_of_length_eq_zero h0
      have HF2 : Hid (cc = 0) := HF.out
      simp only [List.length_nil] at *
      go_enter Tryd.func18, Tryd.ntmps18
      go_wp2
      refine wp_loop_rounds 1 ?_
      rw [rounds_succ]
      go_wp2
      go_ret
      exact ⟨ret_int HF2.out.symm, Below.refl _ _⟩
    · go_enter Tryd.func18, Tryd.ntmps18
      go_wp2
      go_loopw [10] (fun i wr => ∃ k n : Nat, k ≤ rs.length ∧ (rs.take k).all (fun r => decide (r.zs.length ≤ 250)) = true ∧ i = .int .i64 k ∧ wr = w.drewN n) (fun i _ => rs.length - (intOf i).toNat)
      case atStart => exact ⟨0, 0, Nat.zero_le _, by simp, rfl, rfl⟩
      case round =>
        obtain ⟨k, n, hk, hall, rfl, rfl⟩ := hrel
        have HA : Hid ((rs.take k).all (fun r => decide (r.zs.length ≤ 250)) = true) := hall
        clear hall
        by_cases hlt : k < rs.length
        · have hlt' : (k : Int) < (rs.length : Int) := by omega
          have e1 := hc1 k hlt
          have hzk := hz rs[k] (List.getElem_mem hlt)
          have HS : Hid ((rs.take (k + 1)).all (fun r => decide (r.zs.length ≤ 250)) = ((rs.take k).all (fun r => decide (r.zs.length ≤ 250)) && decide (rs[k].zs.length ≤ 250))) := all_take_succ hlt _
          by_cases hb : 250 < rs[k].zs.length
          · have hb' : (250 : Int) < (rs[k].zs.length : Int) := by omega
            have HN : Hid (rs.all (fun r => decide (r.zs.length ≤ 250)) = false) := by
              show _ = _
              rw [List.all_eq_false]
              exact ⟨rs[k], List.getElem_mem hlt, by simp; omega⟩
            go_wp2
            go_ret
            refine ⟨ret_int ?_, below_drewN (Below.refl _ _) _⟩
            rw [HF.out, if_neg h24, HN.out]
            rfl
          · have hb' : ¬ (250 : Int) < (rs[k].zs.length : Int) := by omega
            go_wp2
            go_roundw
            case rel => exact ⟨k + 1, _, by omega, by rw [HS.out, HA.out]; simp; omega, by go_num, rfl⟩
            case measure => simp [intOf]; omega
        · go_wp2
          go_ret
          refine ⟨ret_int ?_, below_drewN (Below.refl _ _) _⟩
          have := HA.out
          rw [List.take_of_length_le (by omega)] at this
          rw [HF.out, if_neg h24, this]
          rfl

theorem specPiecesFault_any (a : Option Addr) (c : Nat) (rs : List Pc) (w : World) (h : HasP w a rs) (hl : rs.length ≤ 1048576) (hz : ∀ r ∈ rs, r.zs.length ≤ 1048576) :
    Calls Tryd.prog 19 #[.slice a rs.length c] w fun r w' => r = .returned (.int .i64 (pcF rs)) ∧ Below w.heap.size w w' := by
  go_enter Tryd.func19, Tryd.ntmps19
  go_wp2_with fail
  refine (l6Fault_any a c rs _ h hl hz).mono ?_
  rintro r u ⟨rfl, hb1⟩
  go_wp2
  go_ret
  exact ⟨rfl, hb1⟩

end Go.Proofs.YtklhkhlmhddmcaaDoor
