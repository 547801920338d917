/- Contracts: the model's StepsOf. -/
import Derived.Test.YtlmjppglaolccaaDoorGrowD
import Derived.Test.YtlmjppglaolccaaDoorSplit
namespace Go.Proofs.YtlmjppglaolccaaDoor
open Go.ChangeShapes Go.WideShapes Go.ChangeAt Go.RowKit
set_option linter.unusedVariables false
set_option linter.unusedSimpArgs false

set_option maxHeartbeats 1000000 in
theorem l5Steps_any (a0 s0 : Int) (w : World) (h1 : 1 ≤ a0) (h2 : a0 ≤ s0) (h3 : s0 ≤ 32) :
    Calls Tryd.prog 45 #[.int .i64 a0, .int .i64 s0] w fun r w' => r = .returned (.int .i64 (gsN a0 s0 true)) ∧ w' = w := by
  have hN : gsN a0 s0 true ≤ 6 := gsN_bd 5 a0 s0 true (by omega) h1 h2 (by have : (2 : Int) ^ 5 = 32 := by decide
                                                                           omega)
  go_enter Tryd.func45, Tryd.ntmps45
  go_wp2
  go_loop [0, 1, 5, 6] (fun x y z b => ∃ (a s : Int) (n : Nat) (wh : Bool), 1 ≤ a ∧ a ≤ s ∧ s ≤ 32 ∧ n + gsN a s wh = gsN a0 s0 true ∧ x = .int .i64 a ∧ y = .int .i64 s ∧ z = .int .i64 n ∧ b = .bool wh) (fun _ y _ _ => (intOf y).toNat)
  case atStart => exact ⟨a0, s0, 0, true, h1, h2, h3, by omega, rfl, rfl, rfl, rfl⟩
  case round =>
    obtain ⟨a, s, n, wh, g1, g2, g3, hn, rfl, rfl, rfl, rfl⟩ := hrel
    have hn2 : n ≤ 6 := by omega
    have HN : Hid (n + gsN a s wh = gsN a0 s0 true) := hn
    clear hn hN h1 h2 h3
    by_cases hs : a = s
    · have HL : Hid (gsN a s wh = if wh then 0 else 1) := gsN_eq wh hs
      have hd : (a != s) = false := by simpa using hs
      cases wh
      · go_wp2
        go_ret
        refine ⟨ret_int ?_, rfl⟩
        have := HN.out
        rw [HL.out] at this
        simp at this
        omega
      · go_wp2
        go_ret
        refine ⟨ret_int ?_, rfl⟩
        have := HN.out
        rw [HL.out] at this
        simp at this
        omega
    · have hd : (a != s) = true := by simpa using hs
      have hb := splN_bd (n := s) (by omega) g3
      obtain ⟨q1, q2, q3⟩ := hb
      by_cases ha : a ≤ splN s
      · have HL : Hid (gsN a s wh = gsN a (splN s) wh + 1) := gsN_lo (s := a) (t := s) wh (by omega) ha
        go_wp2_with (go_at_call 61; refine (split_any s _ (by omega) (by omega)).mono ?_; rintro r u2 ⟨rfl, rfl⟩)
        go_round
        case rel => exact ⟨a, splN s, n + 1, wh, g1, ha, by omega, by have := HN.out; rw [HL.out] at this; omega, rfl, rfl, by go_num, rfl⟩
        case measure => simp [intOf]; omega
      · have HL : Hid (gsN a s wh = gsN (a - splN s) (s - splN s) false + 1) := gsN_hi (s := a) (t := s) wh (by omega) ha (by omega)
        go_wp2_with (go_at_call 61; refine (split_any s _ (by omega) (by omega)).mono ?_; rintro r u2 ⟨rfl, rfl⟩)
        go_round
        case rel => exact ⟨a - splN s, s - splN s, n + 1, false, by omega, by omega, by omega, by have := HN.out; rw [HL.out] at this; omega, rfl, rfl, by go_num, rfl⟩
        case measure => simp [intOf]; omega

theorem l5Sizes_any (s t : Int) (w : World) :
    Calls Tryd.prog 42 #[.int .i64 s, .int .i64 t] w fun r w' => r = .returned (.bool (decide ((1 ≤ t ∧ t ≤ 24) ∧ 1 ≤ s ∧ s ≤ t))) ∧ w' = w := by
  by_cases h1 : 1 ≤ t ∧ t ≤ 24
  · have d1 : decide (1 ≤ t ∧ t ≤ 24) = true := by simpa using h1
    have e : decide ((1 ≤ t ∧ t ≤ 24) ∧ 1 ≤ s ∧ s ≤ t) = decide (1 ≤ s ∧ s ≤ t) := by simp [h1]
    rw [e]
    clear e
    go_enter Tryd.func42, Tryd.ntmps42
    go_wp2_with fail
    refine (in_any _ _ _ _).mono ?_
    rintro r u ⟨rfl, rfl⟩
    rw [d1]
    go_wp2_with fail
    refine (in_any _ _ _ _).mono ?_
    rintro r u ⟨rfl, rfl⟩
    go_wp2
    go_ret
    refine ⟨?_, rfl⟩
    simp
  · have d1 : decide (1 ≤ t ∧ t ≤ 24) = false := by simpa using h1
    have e : decide ((1 ≤ t ∧ t ≤ 24) ∧ 1 ≤ s ∧ s ≤ t) = false := by simp; omega
    rw [e]
    clear e
    go_enter Tryd.func42, Tryd.ntmps42
    go_wp2_with fail
    refine (in_any _ _ _ _).mono ?_
    rintro r u ⟨rfl, rfl⟩
    rw [d1]
    go_wp2
    go_ret
    exact ⟨rfl, rfl⟩

set_option maxHeartbeats 1000000 in
theorem specStepsOf_any (s t : Int) (w : World) :
    Calls Tryd.prog 18 #[.int .i64 s, .int .i64 t] w fun r w' => r = .returned (.agg #[.int .i64 (spC s t), .int .i64 (spV s t)]) ∧ Below w.heap.size w w' := by
  by_cases h : (1 ≤ t ∧ t ≤ 24) ∧ 1 ≤ s ∧ s ≤ t
  · have d1 : decide ((1 ≤ t ∧ t ≤ 24) ∧ 1 ≤ s ∧ s ≤ t) = true := by simpa using h
    have e1 : spC s t = 0 := by unfold spC; rw [if_pos h]
    have e2 : spV s t = (gsN s t true : Nat) := by unfold spV; rw [if_pos h]
    rw [e1, e2]
    clear e1 e2
    obtain ⟨⟨g1, g2⟩, g3, g4⟩ := h
    go_enter Tryd.func18, Tryd.ntmps18
    go_wp2_with (first | (go_at_call 42; refine (l5Sizes_any s t _).mono ?_; rintro e u ⟨rfl, rfl⟩; rw [d1]) | (go_at_call 45; refine (l5Steps_any s t _ (by omega) (by omega) (by omega)).mono ?_; rintro e u ⟨rfl, rfl⟩))
    refine bodyPost_ret (v := .agg #[.int .i64 0, .int .i64 (gsN s t true : Nat)]) (by simp [results, Tryd.results18, go_sem]) rfl ⟨rfl, ?_⟩
    repeat (first | exact Below.refl _ _ | (refine Below.alloc ?_ (by (try simp) <;> omega) _) | (refine Below.setCell ?_ (by (try simp) <;> omega) _))
  · have d1 : decide ((1 ≤ t ∧ t ≤ 24) ∧ 1 ≤ s ∧ s ≤ t) = false := by simpa using h
    have e1 : spC s t = 3 := by unfold spC; rw [if_neg h]
    have e2 : spV s t = 0 := by unfold spV; rw [if_neg h]
    rw [e1, e2]
    clear e1 e2 h
    go_enter Tryd.func18, Tryd.ntmps18
    go_wp2_with (first | (go_at_call 42; refine (l5Sizes_any s t _).mono ?_; rintro e u ⟨rfl, rfl⟩; rw [d1]) | fail)
    refine bodyPost_ret (v := .agg #[.int .i64 3, .int .i64 0]) (by simp [results, Tryd.results18, go_sem]) rfl ⟨rfl, ?_⟩
    repeat (first | exact Below.refl _ _ | (refine Below.alloc ?_ (by (try simp) <;> omega) _) | (refine Below.setCell ?_ (by (try simp) <;> omega) _))

end Go.Proofs.YtlmjppglaolccaaDoor
