/- Contracts: PartsOf of the program and of the model give the same parts. -/
import Derived.Test.YtngibnmcagogaaaDoorFrame
import Derived.Test.YtngibnmcagogaaaDoorNums
namespace Go.Proofs.YtngibnmcagogaaaDoor
open Go.ChangeShapes Go.WideShapes Go.ChangeAt Go.RowKit
set_option maxRecDepth 100000
set_option linter.unusedVariables false
set_option linter.unusedSimpArgs false

theorem size_any (x : Int) (w : World) (h0 : -9223372036854775808 ≤ x) (h1 : x ≤ 9223372036854775807) :
    Calls Tryd.prog 104 #[.int .i64 x] w fun e w' => e = .returned (.int .i64 (sz x)) ∧ w' = w := by
  have e1 : bits .and .i64 x 9223372036854775807 = sz x := and_size h0 h1
  go_enter Tryd.func104, Tryd.ntmps104
  go_wp2
  go_ret
  exact ⟨rfl, rfl⟩

theorem nan_any (x : Int) (w : World) (h0 : -9223372036854775808 ≤ x) (h1 : x ≤ 9223372036854775807) :
    Calls Tryd.prog 103 #[.int .i64 x] w fun e w' => e = .returned (.bool (nanB x)) ∧ w' = w := by
  go_enter Tryd.func103, Tryd.ntmps103
  go_wp2_with (go_at_call 104; refine (size_any _ _ h0 h1).mono ?_; rintro e w' ⟨rfl, rfl⟩)
  go_ret
  exact ⟨rfl, rfl⟩

/-- What the parts are, sort by sort. -/
theorem parts_nan {x : Int} (h : 9218868437227405312 < sz x) : kd x = 3 ∧ mn x = false ∧ ex x = 0 ∧ mt x = 0 := by
  unfold kd mn ex mt; rw [if_pos h, if_pos h, if_pos (by omega), if_pos (by omega)]; exact ⟨rfl, rfl, rfl, rfl⟩
theorem parts_zero {x : Int} (h : sz x = 0) : kd x = 1 ∧ mn x = decide (x < 0) ∧ ex x = 0 ∧ mt x = 0 := by
  unfold kd mn ex mt; rw [if_neg (by omega), if_pos h, if_neg (by omega), if_pos (by omega), if_pos (by omega)]; exact ⟨rfl, rfl, rfl, rfl⟩
theorem parts_inf {x : Int} (h : sz x = 9218868437227405312) : kd x = 2 ∧ mn x = decide (x < 0) ∧ ex x = 0 ∧ mt x = 0 := by
  unfold kd mn ex mt; rw [if_neg (by omega), if_neg (by omega), if_pos h, if_neg (by omega), if_pos (by omega), if_pos (by omega)]; exact ⟨rfl, rfl, rfl, rfl⟩
theorem parts_low {x : Int} (h0 : sz x ≠ 0) (h : sz x < 4503599627370496) : kd x = 0 ∧ mn x = decide (x < 0) ∧ ex x = -1074 ∧ mt x = sz x := by
  unfold kd mn ex mt; rw [if_neg (by omega), if_neg h0, if_neg (by omega), if_neg (by omega), if_neg (by omega), if_pos h, if_neg (by omega), if_pos h]; exact ⟨rfl, rfl, rfl, rfl⟩
theorem parts_high {x : Int} (h0 : 4503599627370496 ≤ sz x) (h : sz x < 9218868437227405312) : kd x = 0 ∧ mn x = decide (x < 0) ∧ ex x = sz x / 4503599627370496 - 1075 ∧ mt x = 4503599627370496 + sz x % 4503599627370496 := by
  unfold kd mn ex mt; rw [if_neg (by omega), if_neg (by omega), if_neg (by omega), if_neg (by omega), if_neg (by omega), if_neg (by omega), if_neg (by omega), if_neg (by omega)]; exact ⟨rfl, rfl, rfl, rfl⟩

set_option maxHeartbeats 1000000 in
theorem parts_impl (x : Int) (w : World) (h0 : -9223372036854775808 ≤ x) (h1 : x ≤ 9223372036854775807) :
    Calls Tryd.prog 98 #[.int .i64 x] w fun e w' => e = .returned (.agg #[.int .i64 (kd x), .bool (mn x), .int .i64 (ex x), .int .i64 (mt x)]) ∧ Below w.heap.size w w' := by
  have hs := sz_bd h0 h1
  have hx : sz x = if x < 0 then x + 9223372036854775808 else x := rfl
  have hu : IntKind.u64.wrap x = if x < 0 then x + 18446744073709551616 else x := by rw [IntKind.wrap_u64]; split <;> omega
  have hM : (bits .and .u64 (IntKind.u64.wrap x) 9223372036854775808 != 0) = decide (x < 0) := by
    rw [and_hi (by rw [hu]; split <;> omega) (by rw [hu]; split <;> omega), hu]
    by_cases c : x < 0 <;> simp [c] <;> omega
  have hF : bits .and .u64 (IntKind.u64.wrap x) 4503599627370495 = sz x % 4503599627370496 := by
    rw [and_frac (by rw [hu]; split <;> omega) (by rw [hu]; split <;> omega), hu, hx]
    by_cases c : x < 0 <;> simp [c] <;> omega
  have hE : bits .and .u64 (IntKind.u64.wrap x / 4503599627370496) 2047 = sz x / 4503599627370496 := by
    have a : 0 ≤ IntKind.u64.wrap x := by rw [hu]; split <;> omega
    have b : IntKind.u64.wrap x < 18446744073709551616 := by rw [hu]; split <;> omega
    rw [and_top (by omega) (by omega), hu, hx]
    by_cases c : x < 0 <;> simp [c] <;> omega
  clear hx hu
  generalize hsz : sz x = s at *
  by_cases a : 9218868437227405312 < s
  · obtain ⟨q1, q2, q3, q4⟩ := parts_nan (x := x) (by omega)
    rw [q1, q2, q3, q4]
    have c1 : s / 4503599627370496 = 2047 := by omega
    have c2 : (s % 4503599627370496 != 0) = true := by simp; omega
    rw [c1] at hE
    clear q1 q2 q3 q4
    go_enter Tryd.func98, Tryd.ntmps98
    go_wp2
    exact bodyPost_ret (v := .agg #[.int .i64 3, .bool false, .int .i64 0, .int .i64 0]) (by simp [results, Tryd.results98, go_sem]) rfl ⟨rfl, (Below.refl _ _).alloc (Nat.le_refl _) _⟩
  · by_cases b : s = 0
    · obtain ⟨q1, q2, q3, q4⟩ := parts_zero (x := x) (by omega)
      rw [q1, q2, q3, q4]
      subst b
      have c1 : (0 : Int) / 4503599627370496 = 0 := by decide
      have c2 : (0 : Int) % 4503599627370496 = 0 := by decide
      rw [c1] at hE
      rw [c2] at hF
      clear q1 q2 q3 q4 c1 c2
      go_enter Tryd.func98, Tryd.ntmps98
      go_wp2
      exact bodyPost_ret (v := .agg #[.int .i64 1, .bool (decide (x < 0)), .int .i64 0, .int .i64 0]) (by simp [results, Tryd.results98, go_sem]) rfl ⟨rfl, (Below.refl _ _).alloc (Nat.le_refl _) _⟩
    · by_cases c : s = 9218868437227405312
      · obtain ⟨q1, q2, q3, q4⟩ := parts_inf (x := x) (by omega)
        rw [q1, q2, q3, q4]
        subst c
        have c1 : (9218868437227405312 : Int) / 4503599627370496 = 2047 := by decide
        have c2 : (9218868437227405312 : Int) % 4503599627370496 = 0 := by decide
        rw [c1] at hE
        rw [c2] at hF
        clear q1 q2 q3 q4 c1 c2
        go_enter Tryd.func98, Tryd.ntmps98
        go_wp2
        exact bodyPost_ret (v := .agg #[.int .i64 2, .bool (decide (x < 0)), .int .i64 0, .int .i64 0]) (by simp [results, Tryd.results98, go_sem]) rfl ⟨rfl, (Below.refl _ _).alloc (Nat.le_refl _) _⟩
      · by_cases d : s < 4503599627370496
        · obtain ⟨q1, q2, q3, q4⟩ := parts_low (x := x) (by omega) (by omega)
          rw [q1, q2, q3, q4, hsz]
          have c1 : s / 4503599627370496 = 0 := by omega
          have c2 : s % 4503599627370496 = s := by omega
          rw [c1] at hE
          rw [c2] at hF
          have c3 : (s == 0) = false := by simp; omega
          clear q1 q2 q3 q4 c1 c2
          go_enter Tryd.func98, Tryd.ntmps98
          go_wp2
          exact bodyPost_ret (v := .agg #[.int .i64 0, .bool (decide (x < 0)), .int .i64 (-1074), .int .i64 s]) (by simp [results, Tryd.results98, go_sem]) rfl ⟨rfl, (Below.refl _ _).alloc (Nat.le_refl _) _⟩
        · obtain ⟨q1, q2, q3, q4⟩ := parts_high (x := x) (by omega) (by omega)
          rw [q1, q2, q3, q4, hsz]
          have c1 : 1 ≤ s / 4503599627370496 ∧ s / 4503599627370496 ≤ 2046 := by omega
          have c2 : 0 ≤ s % 4503599627370496 ∧ s % 4503599627370496 < 4503599627370496 := by omega
          generalize s / 4503599627370496 = E at *
          generalize s % 4503599627370496 = F at *
          have c3 := or_lead c2.1 c2.2
          have c4 : (E == 0) = false := by simp; omega
          have c5 : (E == 2047) = false := by simp; omega
          clear q1 q2 q3 q4
          go_enter Tryd.func98, Tryd.ntmps98
          go_wp2
          exact bodyPost_ret (v := .agg #[.int .i64 0, .bool (decide (x < 0)), .int .i64 (E - 1075), .int .i64 (4503599627370496 + F)]) (by simp [results, Tryd.results98, go_sem]) rfl ⟨rfl, (Below.refl _ _).alloc (Nat.le_refl _) _⟩

set_option maxHeartbeats 1000000 in
theorem parts_spec (x : Int) (w : World) (h0 : -9223372036854775808 ≤ x) (h1 : x ≤ 9223372036854775807) :
    Calls Tryd.prog 99 #[.int .i64 x] w fun e w' => e = .returned (.agg #[.int .i64 (kd x), .bool (mn x), .int .i64 (ex x), .int .i64 (mt x)]) ∧ Below w.heap.size w w' := by
  have hs := sz_bd h0 h1
  by_cases a : 9218868437227405312 < sz x
  · obtain ⟨q1, q2, q3, q4⟩ := parts_nan a
    have hn : nanB x = true := by simp [nanB, a]
    rw [q1, q2, q3, q4]
    clear q1 q2 q3 q4
    go_enter Tryd.func99, Tryd.ntmps99
    go_wp2_with (go_at_call 103; refine (nan_any _ _ h0 h1).mono ?_; rintro e w' ⟨rfl, rfl⟩)
    exact bodyPost_ret (v := .agg #[.int .i64 3, .bool false, .int .i64 0, .int .i64 0]) (by simp [results, Tryd.results99, go_sem]) rfl ⟨rfl, ((Below.refl _ _).alloc (Nat.le_refl _) _)⟩
  · go_enter Tryd.func99, Tryd.ntmps99
    have hn : nanB x = false := by simp [nanB]; omega
    go_wp2_with (first | (go_at_call 103; refine (nan_any _ _ h0 h1).mono ?_; rintro e w' ⟨rfl, rfl⟩) | (go_at_call 104; refine (size_any _ _ h0 h1).mono ?_; rintro e w' ⟨rfl, rfl⟩))
    · rename_i a1
      have z : sz x = 0 := by simpa using a1
      obtain ⟨q1, q2, q3, q4⟩ := parts_zero z
      refine bodyPost_ret (v := .agg #[.int .i64 1, .bool (decide (x < 0)), .int .i64 0, .int .i64 0]) (by simp [results, Tryd.results99, go_sem]) rfl ⟨?_, by repeat (first | exact Below.refl _ _ | refine Below.alloc ?_ (by simp) _ | refine Below.setCell ?_ (by simp) _)⟩
      rw [q1, q2, q3, q4]
    · rename_i a1 a2
      have z : sz x = 9218868437227405312 := by simp at a2; omega
      obtain ⟨q1, q2, q3, q4⟩ := parts_inf z
      refine bodyPost_ret (v := .agg #[.int .i64 2, .bool (decide (x < 0)), .int .i64 0, .int .i64 0]) (by simp [results, Tryd.results99, go_sem]) rfl ⟨?_, by repeat (first | exact Below.refl _ _ | refine Below.alloc ?_ (by simp) _ | refine Below.setCell ?_ (by simp) _)⟩
      rw [q1, q2, q3, q4]
    · rename_i a1 a2 a3
      simp at a1 a2 a3
      obtain ⟨q1, q2, q3, q4⟩ := parts_low (x := x) a1 (by omega)
      have c2 : sz x % 4503599627370496 = sz x := by omega
      refine bodyPost_ret (v := .agg #[.int .i64 0, .bool (decide (x < 0)), .int .i64 (-1074), .int .i64 (sz x % 4503599627370496)]) (by simp [results, Tryd.results99, go_sem]) rfl ⟨?_, by repeat (first | exact Below.refl _ _ | refine Below.alloc ?_ (by simp) _ | refine Below.setCell ?_ (by simp) _)⟩
      rw [q1, q2, q3, q4, c2]
    · rename_i a1 a2 a3
      simp at a1 a2 a3
      obtain ⟨q1, q2, q3, q4⟩ := parts_high (x := x) (by omega) (by omega)
      refine bodyPost_ret (v := .agg #[.int .i64 0, .bool (decide (x < 0)), .int .i64 (sz x / 4503599627370496 - 1075), .int .i64 (4503599627370496 + sz x % 4503599627370496)]) (by simp [results, Tryd.results99, go_sem]) rfl ⟨?_, by repeat (first | exact Below.refl _ _ | refine Below.alloc ?_ (by simp) _ | refine Below.setCell ?_ (by simp) _)⟩
      rw [q1, q2, q3, q4]
end Go.Proofs.YtngibnmcagogaaaDoor
