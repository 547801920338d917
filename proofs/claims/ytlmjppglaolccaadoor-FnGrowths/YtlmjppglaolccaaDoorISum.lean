/- Contracts of the program's chapter 2: the sum of a piece. -/
import Derived.Test.YtlmjppglaolccaaDoorSum
namespace Go.Proofs.YtlmjppglaolccaaDoor
open Go.ChangeShapes Go.WideShapes Go.ChangeAt Go.RowKit
set_option linter.unusedVariables false
set_option linter.unusedSimpArgs false

/-- The code and the value of a sum. -/
def sumC (zs : List Int) : Int := if 300 < zs.length then 2 else 0
def sumV (zs : List Int) : Int := if 300 < zs.length then 0 else sumL zs

set_option maxHeartbeats 1000000 in
theorem implSumOf_any (a : Option Addr) (cap : Nat) (zs : List Int) (w : World) (h : Has w .u8 a zs.length zs) (hl : zs.length ≤ 2097152) :
    Calls Tryd.prog 63 #[.slice a zs.length cap] w fun r w' => r = .returned (.agg #[.int .i64 (sumC zs), .int .i64 (sumV zs)]) ∧ Below w.heap.size w w' := by
  have h' := h.alloc (.cells #[.int .i64 0, .int .i64 0] 41)
  unfold sumC sumV
  by_cases hb : 300 < zs.length
  · rw [if_pos hb, if_pos hb]
    have hb' : (300 : Int) < (zs.length : Int) := by omega
    go_enter Tryd.func63, Tryd.ntmps63
    go_wp2
    refine bodyPost_ret (v := .agg #[.int .i64 2, .int .i64 0]) (by simp [results, Tryd.results63, go_sem]) rfl ⟨rfl, ?_⟩
    repeat (first | exact Below.refl _ _ | refine Below.alloc ?_ (by (try simp) <;> omega) _ | refine Below.setCell ?_ (by (try simp) <;> omega) _)
  · rw [if_neg hb, if_neg hb]
    have hb' : (zs.length : Int) ≤ 300 := by omega
    have hall : sumL (zs.take zs.length) = sumL zs := by rw [List.take_length]
    have HA : Hid (_) := hall
    clear hall
    obtain ⟨_, hwf, hc⟩ := h'
    rcases hc with h0 | ⟨b, off, rfl, hbb, hcell⟩
    · obtain rfl : zs = [] := List.eq_nil_of_length_eq_zero h0
      clear h0
      simp only [List.length_nil]
      go_enter Tryd.func63, Tryd.ntmps63
      go_wp2
      refine wp_loop_rounds 1 ?_
      rw [rounds_succ]
      go_wp2
      refine bodyPost_ret (v := .agg #[.int .i64 0, .int .i64 11]) (by simp [results, Tryd.results63, go_sem]) rfl ⟨rfl, ?_⟩
      repeat (first | exact Below.refl _ _ | refine Below.alloc ?_ (by (try simp) <;> omega) _ | refine Below.setCell ?_ (by (try simp) <;> omega) _)
    · go_enter Tryd.func63, Tryd.ntmps63
      go_wp2
      go_loop [3, 12] (fun n i => ∃ k : Nat, k ≤ zs.length ∧ i = .int .i64 k ∧ n = .int .i64 (sumL (zs.take k))) (fun _ i => zs.length - (intOf i).toNat)
      case atStart => exact ⟨0, Nat.zero_le _, rfl, rfl⟩
      case round =>
        obtain ⟨k, hk, rfl, rfl⟩ := hrel
        have hs := sum_bd (zs.take k)
        by_cases hlt : k < zs.length
        · have hx : (w.alloc (.cells #[.int .i64 0, .int .i64 0] 41)).cell? ⟨b, off + k, none⟩ = some (.int .u8 zs[k]) := by rw [hcell k hlt]; simp [List.getD, hlt]
          have hxb := bounds_u8 (hwf zs[k] (List.getElem_mem hlt))
          have HS : Hid (_) := sum_succ zs k hlt
          have hlt' : (k : Int) < (zs.length : Int) := by omega
          generalize zs[k] = x at hx hxb HS
          generalize sumL (zs.take k) = n at hs HS
          clear hcell hwf
          go_wp2
          go_round
          case rel => exact ⟨k + 1, by omega, by go_num, by rw [HS.out]⟩
          case measure => simp [intOf]; omega
        · have hkk : k = zs.length := by omega
          have HK : Hid (k = zs.length) := hkk
          clear hkk
          go_wp2
          refine bodyPost_ret (v := .agg #[.int .i64 0, .int .i64 (sumL zs)]) (by simp [results, Tryd.results63, go_sem]; rw [HK.out, HA.out]) rfl ⟨rfl, ?_⟩
          repeat (first | exact Below.refl _ _ | refine Below.alloc ?_ (by (try simp) <;> omega) _ | refine Below.setCell ?_ (by (try simp) <;> omega) _)

end Go.Proofs.YtlmjppglaolccaaDoor
