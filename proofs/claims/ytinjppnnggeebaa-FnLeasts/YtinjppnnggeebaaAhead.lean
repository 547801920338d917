/- Contracts: IsAhead and SameMeasures of the program and of the model. -/
import Derived.Test.YtinjppnnggeebaaCanon
namespace Go.Proofs.Ytinjppnnggeebaa
open Go.ChangeShapes Go.WideShapes Go.ChangeAt Go.RowKit
set_option linter.unusedVariables false

set_option maxHeartbeats 1000000 in
theorem place_impl (x : Int) (w : World) (h0 : -9223372036854775808 ≤ x) (h1 : x ≤ 9223372036854775807) :
    Calls Try.prog 37 #[.int .i64 x] w fun r w' => r = .returned (.int .u64 (place x)) ∧ Below w.heap.size w w' := by
  have hs := sz_bd h0 h1
  have hx : sz x = if x < 0 then x + 9223372036854775808 else x := rfl
  have hcb := canon_bd h0 h1
  by_cases a : canon x < 0
  · have hc : canon x = x ∧ x < 0 ∧ place x = -1 - x := by
      unfold canon at a; unfold canon place
      split at a
      · omega
      · rename_i n; rw [if_neg n, if_neg n, if_pos a]; exact ⟨rfl, a, rfl⟩
    obtain ⟨hc, hn, hp⟩ := hc
    rw [hp]
    have e0 : IntKind.u64.wrap x = x + 18446744073709551616 := by rw [IntKind.wrap_u64]; omega
    have e1 : bits .and .u64 (x + 18446744073709551616) 9223372036854775808 = 9223372036854775808 := by rw [and_hi (by omega) (by omega), if_neg (by omega)]
    have e2 : bits .xor .u64 IntKind.u64.max (x + 18446744073709551616) = -1 - x := by
      have := not_u64 (u := x + 18446744073709551616) (by omega) (by omega)
      have hm : IntKind.u64.max = 18446744073709551615 := by decide
      rw [hm, this]; omega
    clear hx hs hp hcb a
    go_enter Try.func37, Try.ntmps37
    go_wp2_with (go_at_call 14; refine (canon_impl _ _ h0 h1).mono ?_; rintro r w1 ⟨rfl, hb1⟩)
    go_ret
    exact ⟨rfl, hb1⟩
  · have hc : place x = canon x + 9223372036854775808 := by
      unfold canon at a; unfold canon place
      split at a
      · rename_i n; rw [if_pos n, if_pos n]; rfl
      · rename_i n; rw [if_neg n, if_neg n, if_neg (by omega)]
    rw [hc]
    clear hx hs hc
    have e1 : bits .and .u64 (canon x) 9223372036854775808 = 0 := by rw [and_hi (by omega) (by omega), if_pos (by omega)]
    have e2 : bits .or .u64 (canon x) 9223372036854775808 = canon x + 9223372036854775808 := or_hi (by omega) (by omega)
    have e3 : IntKind.u64.wrap (canon x) = canon x := by rw [IntKind.wrap_u64]; omega
    clear hcb a
    go_enter Try.func37, Try.ntmps37
    go_wp2_with (go_at_call 14; refine (canon_impl _ _ h0 h1).mono ?_; rintro r w1 ⟨rfl, hb1⟩)
    go_ret
    exact ⟨rfl, hb1⟩

set_option maxHeartbeats 1000000 in
theorem ahead_impl (a b : Int) (w : World) (a0 : -9223372036854775808 ≤ a) (a1 : a ≤ 9223372036854775807) (b0 : -9223372036854775808 ≤ b) (b1 : b ≤ 9223372036854775807) :
    Calls Try.prog 19 #[.int .i64 a, .int .i64 b] w fun r w' => r = .returned (.bool (aheadB a b)) ∧ Below w.heap.size w w' := by
  unfold aheadB
  go_enter Try.func19, Try.ntmps19
  go_wp2_with (first | (go_at_call 37; have _t := a0; refine (place_impl a _ a0 a1).mono ?_; rintro r w1 ⟨rfl, hb1⟩; clear a0 _t) | (go_at_call 37; refine (place_impl b _ b0 b1).mono ?_; rintro r w2 ⟨rfl, hb2⟩))
  go_ret
  exact ⟨rfl, hb1.trans (hb2.mono hb1.size)⟩

theorem key_any (x : Int) (w : World) (h0 : -9223372036854775808 ≤ x) (h1 : x ≤ 9223372036854775807) :
    Calls Try.prog 49 #[.int .i64 x] w fun r w' => r = .returned (.int .i64 (if x < 0 then -9223372036854775809 - x else x)) ∧ w' = w := by
  by_cases a : x < 0
  · rw [if_pos a]
    have hx : sz x = x + 9223372036854775808 := by unfold sz; rw [if_pos a]
    go_enter Try.func49, Try.ntmps49
    go_wp2_with (go_at_call 48; refine (size_any _ _ h0 h1).mono ?_; rintro r w1 ⟨rfl, rfl⟩)
    go_ret
    exact ⟨ret_int (by omega), rfl⟩
  · rw [if_neg a]
    have a' : 0 ≤ x := by omega
    go_enter Try.func49, Try.ntmps49
    go_wp2
    go_ret
    exact ⟨rfl, rfl⟩

theorem ahead_nan {a b : Int} (a0 : -9223372036854775808 ≤ a) (a1 : a ≤ 9223372036854775807) (b0 : -9223372036854775808 ≤ b) (b1 : b ≤ 9223372036854775807) (h : nanB a = true ∨ nanB b = true) : aheadB a b = !nanB a := by
  have ha := sz_bd a0 a1
  have hb := sz_bd b0 b1
  have hx : sz a = if a < 0 then a + 9223372036854775808 else a := rfl
  have hy : sz b = if b < 0 then b + 9223372036854775808 else b := rfl
  unfold aheadB place
  unfold nanB at h ⊢
  rw [Bool.eq_iff_iff]
  simp at h ⊢
  split at hx <;> split at hy <;> split <;> split <;> omega
theorem ahead_not {a b : Int} (a0 : -9223372036854775808 ≤ a) (a1 : a ≤ 9223372036854775807) (b0 : -9223372036854775808 ≤ b) (b1 : b ≤ 9223372036854775807) (h : nanB a = false) (h2 : nanB b = false) : aheadB a b = decide ((if a < 0 then -9223372036854775809 - a else a) < (if b < 0 then -9223372036854775809 - b else b)) := by
  have hx : sz a = if a < 0 then a + 9223372036854775808 else a := rfl
  have hy : sz b = if b < 0 then b + 9223372036854775808 else b := rfl
  unfold aheadB place
  unfold nanB at h h2
  rw [Bool.eq_iff_iff]
  simp at h h2 ⊢
  split at hx <;> split at hy <;> split <;> split <;> omega

set_option maxHeartbeats 1000000 in
theorem ahead_spec1 (a b : Int) (w : World) (a0 : -9223372036854775808 ≤ a) (a1 : a ≤ 9223372036854775807) (b0 : -9223372036854775808 ≤ b) (b1 : b ≤ 9223372036854775807) :
    Calls Try.prog 38 #[.int .i64 a, .int .i64 b] w fun r w' => r = .returned (.bool (aheadB a b)) ∧ w' = w := by
  by_cases ha : nanB a = true
  · rw [ahead_nan a0 a1 b0 b1 (Or.inl ha), ha]
    go_enter Try.func38, Try.ntmps38
    go_wp2_with (go_at_call 47; refine (nan_any a _ a0 a1).mono ?_; rintro r w1 ⟨rfl, rfl⟩)
    go_ret
    exact ⟨rfl, rfl⟩
  · have ha' : nanB a = false := by simpa using ha
    by_cases hb : nanB b = true
    · rw [ahead_nan a0 a1 b0 b1 (Or.inr hb), ha']
      clear ha
      go_enter Try.func38, Try.ntmps38
      go_wp2_with (go_at_call 47; refine (nan_any _ _ (by assumption) (by assumption)).mono ?_; rintro r w1 ⟨rfl, rfl⟩)
      go_ret
      exact ⟨rfl, rfl⟩
    · have hb' : nanB b = false := by simpa using hb
      rw [ahead_not a0 a1 b0 b1 ha' hb']
      clear ha hb
      go_enter Try.func38, Try.ntmps38
      go_wp2_with (first | (go_at_call 47; refine (nan_any _ _ (by assumption) (by assumption)).mono ?_; rintro r w1 ⟨rfl, rfl⟩) | (go_at_call 49; refine (key_any _ _ (by assumption) (by assumption)).mono ?_; rintro r w1 ⟨rfl, rfl⟩))
      all_goals (go_ret; exact ⟨rfl, rfl⟩)

theorem ahead_spec (a b : Int) (w : World) (a0 : -9223372036854775808 ≤ a) (a1 : a ≤ 9223372036854775807) (b0 : -9223372036854775808 ≤ b) (b1 : b ≤ 9223372036854775807) :
    Calls Try.prog 20 #[.int .i64 a, .int .i64 b] w fun r w' => r = .returned (.bool (aheadB a b)) ∧ w' = w := by
  go_enter Try.func20, Try.ntmps20
  go_wp2_with (go_at_call 38; refine (ahead_spec1 a b _ a0 a1 b0 b1).mono ?_; rintro r w1 ⟨rfl, rfl⟩)
  go_ret
  exact ⟨rfl, rfl⟩

set_option maxHeartbeats 1000000 in
theorem same_impl (a b : Int) (w : World) (a0 : -9223372036854775808 ≤ a) (a1 : a ≤ 9223372036854775807) (b0 : -9223372036854775808 ≤ b) (b1 : b ≤ 9223372036854775807) :
    Calls Try.prog 16 #[.int .i64 a, .int .i64 b] w fun r w' => r = .returned (.bool (sameB a b)) ∧ Below w.heap.size w w' := by
  go_enter Try.func16, Try.ntmps16
  go_wp2_with (first | (go_at_call 8; have _t := a0; refine (parts_impl a _ a0 a1).mono ?_; rintro r w1 ⟨rfl, hb1⟩; clear a0 _t) | (go_at_call 8; refine (parts_impl b _ b0 b1).mono ?_; rintro r w2 ⟨rfl, hb2⟩))
  all_goals
    go_ret
    refine ⟨ret_bool ?_, hb1.trans (hb2.mono hb1.size)⟩
    go_light
    unfold sameB
    simp [*]

set_option maxHeartbeats 1000000 in
theorem same_spec (a b : Int) (w : World) (a0 : -9223372036854775808 ≤ a) (a1 : a ≤ 9223372036854775807) (b0 : -9223372036854775808 ≤ b) (b1 : b ≤ 9223372036854775807) :
    Calls Try.prog 21 #[.int .i64 a, .int .i64 b] w fun r w' => r = .returned (.bool (sameB a b)) ∧ Below w.heap.size w w' := by
  go_enter Try.func21, Try.ntmps21
  go_wp2_with (first | (go_at_call 35; have _t := a0; refine (parts_spec a _ a0 a1).mono ?_; rintro r w1 ⟨rfl, hb1⟩; clear a0 _t) | (go_at_call 35; refine (parts_spec b _ b0 b1).mono ?_; rintro r w2 ⟨rfl, hb2⟩))
  all_goals
    go_ret
    refine ⟨ret_bool ?_, hb1.trans (hb2.mono hb1.size)⟩
    go_light
    unfold sameB
    simp [*]
end Go.Proofs.Ytinjppnnggeebaa
