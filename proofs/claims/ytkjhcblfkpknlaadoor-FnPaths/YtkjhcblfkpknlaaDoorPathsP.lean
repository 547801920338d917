/- For the law on paths: a leaf climbs by its path to the root; numbers held against each other. -/
import Derived.Test.YtkjhcblfkpknlaaDoorGrowC
import Derived.Test.YtkjhcblfkpknlaaDoorLvl
import Derived.Test.YtkjhcblfkpknlaaDoorInts
namespace Go.Proofs.YtkjhcblfkpknlaaDoor
open Go.ChangeShapes Go.WideShapes Go.ChangeAt Go.RowKit
set_option linter.unusedVariables false
set_option linter.unusedSimpArgs false

theorem clM_pt (n : Nat) : ∀ (zs : List Int) (a : Int), zs.length ≤ n → 1 ≤ zs.length → zs.length ≤ 32 → 0 ≤ a → a < zs.length → (ptM nS 11 zs a).length = stN a zs.length ∧ clM nS (zs.getD a.toNat 0) a zs.length (ptM nS 11 zs a) = rtM nS 11 zs := by
  induction n with
  | zero => intro zs a h h1; omega
  | succ n ih =>
    intro zs a hn h1 h32 ha0 ha1
    by_cases ho : zs.length = 1
    · obtain rfl : a = 0 := by omega
      rw [ptM_le nS 11 0 (by omega), stN_le _ _ (by omega), clM_le _ _ _ _ _ (by omega), rtM_le nS 11 (by omega)]
      refine ⟨rfl, ?_⟩
      cases zs with
      | nil => simp at h1
      | cons y ys => rfl
    · have hs : (2 : Int) ≤ zs.length := by omega
      obtain ⟨q1, q2, q3⟩ := splN_bd hs (by omega)
      obtain ⟨m, hm⟩ : ∃ m : Nat, splN (zs.length : Int) = m := ⟨(splN (zs.length : Int)).toNat, by omega⟩
      have tl : (zs.take m).length = m := by simp; omega
      have dl : (zs.drop m).length = zs.length - m := by simp
      by_cases h0 : a < splN zs.length
      · obtain ⟨e1, e2⟩ := ih (zs.take m) a (by omega) (by omega) (by omega) ha0 (by omega)
        rw [tl] at e1 e2
        rw [ptM_lo nS 11 (by omega) h0, stN_lo hs h0, clM_lo nS _ hs h0, rtM_gt nS 11 (xs := zs) (by omega), hm]
        rw [show ((m : Int)).toNat = m from rfl, List.dropLast_concat, List.getLastD_concat]
        refine ⟨by rw [List.length_append, e1]; rfl, ?_⟩
        rw [← e2, getD_take' zs a.toNat m (by omega)]
      · obtain ⟨e1, e2⟩ := ih (zs.drop m) (a - m) (by omega) (by omega) (by omega) (by omega) (by omega)
        rw [dl] at e1 e2
        have e3 : ((zs.length - m : Nat) : Int) = zs.length - m := by omega
        rw [e3] at e1 e2
        rw [ptM_hi nS 11 (by omega) h0, stN_hi hs h0, clM_hi nS _ hs h0, rtM_gt nS 11 (xs := zs) (by omega), hm]
        rw [show ((m : Int)).toNat = m from rfl, List.dropLast_concat, List.getLastD_concat]
        refine ⟨by rw [List.length_append, e1]; rfl, ?_⟩
        rw [← e2, getD_drop' zs (a - m).toNat m, show m + (a - (m : Int)).toNat = a.toNat by omega]
theorem climb_pt {zs : List Int} {a : Int} (h : lvF zs = 0) (h0 : 0 ≤ a) (h1 : a < zs.length) : clC (zs.getD a.toNat 0) a zs.length (ptL zs a) = 0 ∧ clV (zs.getD a.toNat 0) a zs.length (ptL zs a) = rtV zs ∧ (ptL zs a).length ≤ 6 := by
  obtain ⟨h24, hall⟩ := lvF_zero h
  obtain ⟨e1, e2⟩ := clM_pt _ zs a (Nat.le_refl _) (by omega) (by omega) h0 h1
  have hP : ptL zs a = ptM nS 11 zs a := by unfold ptL; rw [if_pos ⟨h, h0, h1⟩]
  have hb := stN_bd _ a zs.length (Nat.le_refl _) (by omega) h0 h1
  have hg := allS_get hall a.toNat (by omega)
  have hlf : 0 ≤ zs.getD a.toNat 0 ∧ zs.getD a.toNat 0 ≤ 65520 := by
    rw [List.getD_eq_getElem?_getD, List.getElem?_eq_getElem (by omega)]; exact hg
  have hpa := ptM_all _ zs a (Nat.le_refl _) hall
  have hC : clC (zs.getD a.toNat 0) a zs.length (ptM nS 11 zs a) = 0 := by
    unfold clC
    rw [if_pos ⟨hlf, ⟨by omega, by omega⟩, h0, h1⟩, if_neg (by omega), if_pos hpa, if_pos e1]
  rw [hP]
  refine ⟨hC, ?_, by omega⟩
  unfold clV rtV
  rw [if_pos hC, if_pos h, e2]

theorem lwNums_any (a b : Option Addr) (ca cb : Nat) (zs : List Int) (w : World) (ha : Has w .i64 a zs.length zs) (hb : Has w .i64 b zs.length zs) (hlen : zs.length ≤ 1048576) :
    Calls Tryd.prog 26 #[.slice a zs.length ca, .slice b zs.length cb] w fun r w' => r = .returned (.bool true) ∧ Below w.heap.size w w' := by
  have hll : ((zs.length : Int) != (zs.length : Int)) = false := by simp
  obtain ⟨_, _, ha⟩ := ha
  obtain ⟨_, _, hb⟩ := hb
  rcases ha with h0 | ⟨b1, o1, rfl, _, hc1⟩
  · obtain rfl : zs = [] := List.eq_nil_of_length_eq_zero h0
    clear h0 hb
    simp only [List.length_nil] at *
    go_enter Tryd.func26, Tryd.ntmps26
    go_wp2
    refine wp_loop_rounds 1 ?_
    rw [rounds_succ]
    go_wp2
    go_ret
    exact ⟨rfl, Below.refl _ _⟩
  · rcases hb with h0 | ⟨b2, o2, rfl, _, hc2⟩
    · obtain rfl : zs = [] := List.eq_nil_of_length_eq_zero h0
      clear h0 hc1
      simp only [List.length_nil] at *
      go_enter Tryd.func26, Tryd.ntmps26
      go_wp2
      refine wp_loop_rounds 1 ?_
      rw [rounds_succ]
      go_wp2
      go_ret
      exact ⟨rfl, Below.refl _ _⟩
    · go_enter Tryd.func26, Tryd.ntmps26
      go_wp2
      go_loopw [5] (fun i wr => ∃ k n : Nat, k ≤ zs.length ∧ i = .int .i64 k ∧ wr = w.drewN n) (fun i _ => zs.length - (intOf i).toNat)
      case atStart => exact ⟨0, 0, Nat.zero_le _, rfl, rfl⟩
      case round =>
        obtain ⟨k, n, hk, rfl, rfl⟩ := hrel
        by_cases hlt : k < zs.length
        · have e1 : w.cell? ⟨b1, o1 + k, none⟩ = some (.int .i64 zs[k]) := by rw [hc1 k hlt]; simp [List.getD, hlt]
          have e2 : w.cell? ⟨b2, o2 + k, none⟩ = some (.int .i64 zs[k]) := by rw [hc2 k hlt]; simp [List.getD, hlt]
          have e3 : (zs[k] != zs[k]) = false := by simp
          have hlt' : (k : Int) < (zs.length : Int) := by omega
          go_wp2
          go_quiet (fail)
          go_wp2
          go_roundw
          case rel => exact ⟨k + 1, _, by omega, by go_num, rfl⟩
          case measure => simp [intOf]; omega
        · go_wp2
          go_ret
          exact ⟨rfl, below_drewN (Below.refl _ _) _⟩

theorem fldR0 (x y : Int) (w : World) : (Instr.field 33 (.agg #[.int .i64 x, .int .i64 y]) 0).run Tryd.prog w = .ok (.int .i64 x) w := by kernel_rfl

theorem fldS0 (y : Int) (a : Option Addr) (n c : Nat) (w : World) : (Instr.field 28 (.agg #[.int .i64 y, .slice a n c]) 0).run Tryd.prog w = .ok (.int .i64 y) w := by kernel_rfl

theorem fldS1 (y : Int) (a : Option Addr) (n c : Nat) (w : World) : (Instr.field 28 (.agg #[.int .i64 y, .slice a n c]) 1).run Tryd.prog w = .ok (.slice a n c) w := by kernel_rfl

end Go.Proofs.YtkjhcblfkpknlaaDoor
