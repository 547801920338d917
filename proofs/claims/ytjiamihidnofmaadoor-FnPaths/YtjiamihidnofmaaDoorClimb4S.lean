/- Contracts: the model's ClimbPath. -/
import Derived.Test.YtjiamihidnofmaaDoorClimb4
namespace Go.Proofs.YtjiamihidnofmaaDoor
open Go.ChangeShapes Go.WideShapes Go.ChangeAt Go.RowKit
set_option linter.unusedVariables false
set_option linter.unusedSimpArgs false

/-- The code of a climb. -/
def clC (l a s : Int) (p : List Int) : Int := if (0 ≤ l ∧ l ≤ 65520) ∧ (1 ≤ s ∧ s ≤ 24) ∧ 0 ≤ a ∧ a < s then (if 6 < p.length then 2 else if allS p = true then (if p.length = stN a s then 0 else 8) else 3) else 3
/-- What a climb comes to. -/
def clV (l a s : Int) (p : List Int) : Int := if clC l a s p = 0 then clM nS l a s p else 0
theorem clC_bad {l a s : Int} {p : List Int} (h : ¬ ((0 ≤ l ∧ l ≤ 65520) ∧ (1 ≤ s ∧ s ≤ 24) ∧ 0 ≤ a ∧ a < s)) : clC l a s p = 3 := by unfold clC; rw [if_neg h]
theorem clC_many {l a s : Int} {p : List Int} (h : (0 ≤ l ∧ l ≤ 65520) ∧ (1 ≤ s ∧ s ≤ 24) ∧ 0 ≤ a ∧ a < s) (h6 : 6 < p.length) : clC l a s p = 2 := by unfold clC; rw [if_pos h, if_pos h6]
theorem clC_sum {l a s : Int} {p : List Int} (h : (0 ≤ l ∧ l ≤ 65520) ∧ (1 ≤ s ∧ s ≤ 24) ∧ 0 ≤ a ∧ a < s) (h6 : ¬ 6 < p.length) (ha : allS p = false) : clC l a s p = 3 := by unfold clC; rw [if_pos h, if_neg h6, ha]; rfl
theorem clC_len {l a s : Int} {p : List Int} (h : (0 ≤ l ∧ l ≤ 65520) ∧ (1 ≤ s ∧ s ≤ 24) ∧ 0 ≤ a ∧ a < s) (h6 : ¬ 6 < p.length) (ha : allS p = true) : clC l a s p = if p.length = stN a s then 0 else 8 := by unfold clC; rw [if_pos h, if_neg h6, ha]; rfl
theorem clV_of {l a s : Int} {p : List Int} (h : clC l a s p ≠ 0) : clV l a s p = 0 := by unfold clV; rw [if_neg h]

set_option maxHeartbeats 2000000 in
theorem l4Asked_any (l a s : Int) (x : Option Addr) (c : Nat) (p : List Int) (w : World) (hp : Has w .i64 x p.length p) (hl : p.length ≤ 1048576) (hs : -9223372036854775808 ≤ s ∧ s ≤ 9223372036854775807) :
    Calls Tryd.prog 81 #[.int .i64 l, .int .i64 a, .int .i64 s, .slice x p.length c] w fun r w' => r = .returned (.int .i64 (clC l a s p)) ∧ w' = w := by
  by_cases h1 : 0 ≤ l ∧ l ≤ 65520
  · have d1 : decide (0 ≤ l ∧ l ≤ 65520) = true := by simpa using h1
    by_cases h2 : 1 ≤ s ∧ s ≤ 24
    · have d2 : decide (1 ≤ s ∧ s ≤ 24) = true := by simpa using h2
      by_cases h3 : 0 ≤ a ∧ a < s
      · have d3 : decide (0 ≤ a ∧ a ≤ s - 1) = true := by simp; omega
        have hall : (0 ≤ l ∧ l ≤ 65520) ∧ (1 ≤ s ∧ s ≤ 24) ∧ 0 ≤ a ∧ a < s := ⟨h1, h2, h3⟩
        by_cases h6 : 6 < p.length
        · have h6' : (6 : Int) < (p.length : Int) := by omega
          rw [clC_many hall h6]
          clear hall
          go_enter Tryd.func81, Tryd.ntmps81
          go_wp2_with (first | (go_at_call 105; refine (l2Is_any l _).mono ?_; rintro r u ⟨rfl, rfl⟩; rw [d1]) | (go_at_call 85; refine (in_any _ _ _ _).mono ?_; rintro r u ⟨rfl, rfl⟩; first | rw [d2] | rw [d3]))
          go_ret
          exact ⟨rfl, rfl⟩
        · have h6' : ¬ (6 : Int) < (p.length : Int) := by omega
          cases ha : allS p
          · rw [clC_sum hall h6 ha]
            clear hall
            go_enter Tryd.func81, Tryd.ntmps81
            go_wp2_with (first | (go_at_call 105; refine (l2Is_any l _).mono ?_; rintro r u ⟨rfl, rfl⟩; rw [d1]) | (go_at_call 85; refine (in_any _ _ _ _).mono ?_; rintro r u ⟨rfl, rfl⟩; first | rw [d2] | rw [d3]) | (go_at_call 106; refine (l1All_any _ _ p _ hp hl).mono ?_; rintro r u ⟨rfl, rfl⟩; rw [ha]))
            go_ret
            exact ⟨rfl, rfl⟩
          · rw [clC_len hall h6 ha]
            have hN : (stN a s) ≤ 5 := stN_bd _ a s (Nat.le_refl _) (by omega) (by omega) (by omega)
            clear hall
            by_cases hst : p.length = stN a s
            · rw [if_pos hst]
              have hst' : ((p.length : Int) != (stN a s : Int)) = false := by simp [hst]
              clear hst
              go_enter Tryd.func81, Tryd.ntmps81
              go_wp2_with (first | (go_at_call 105; refine (l2Is_any l _).mono ?_; rintro r u ⟨rfl, rfl⟩; rw [d1]) | (go_at_call 85; refine (in_any _ _ _ _).mono ?_; rintro r u ⟨rfl, rfl⟩; first | rw [d2] | rw [d3]) | (go_at_call 106; refine (l1All_any _ _ p _ hp hl).mono ?_; rintro r u ⟨rfl, rfl⟩; rw [ha]) | (go_at_call 107; refine (l4Steps_any a s _ (by omega) (by omega) (by omega)).mono ?_; rintro r u ⟨rfl, rfl⟩))
              go_ret
              exact ⟨rfl, rfl⟩
            · rw [if_neg hst]
              have hst' : ((p.length : Int) != (stN a s : Int)) = true := by simp; omega
              clear hst
              go_enter Tryd.func81, Tryd.ntmps81
              go_wp2_with (first | (go_at_call 105; refine (l2Is_any l _).mono ?_; rintro r u ⟨rfl, rfl⟩; rw [d1]) | (go_at_call 85; refine (in_any _ _ _ _).mono ?_; rintro r u ⟨rfl, rfl⟩; first | rw [d2] | rw [d3]) | (go_at_call 106; refine (l1All_any _ _ p _ hp hl).mono ?_; rintro r u ⟨rfl, rfl⟩; rw [ha]) | (go_at_call 107; refine (l4Steps_any a s _ (by omega) (by omega) (by omega)).mono ?_; rintro r u ⟨rfl, rfl⟩))
              go_ret
              exact ⟨rfl, rfl⟩
      · have d3 : decide (0 ≤ a ∧ a ≤ s - 1) = false := by simp; omega
        rw [clC_bad (fun h => h3 h.2.2)]
        clear h3
        go_enter Tryd.func81, Tryd.ntmps81
        go_wp2_with (first | (go_at_call 105; refine (l2Is_any l _).mono ?_; rintro r u ⟨rfl, rfl⟩; rw [d1]) | (go_at_call 85; refine (in_any _ _ _ _).mono ?_; rintro r u ⟨rfl, rfl⟩; first | rw [d2] | rw [d3]))
        go_ret
        exact ⟨rfl, rfl⟩
    · have d2 : decide (1 ≤ s ∧ s ≤ 24) = false := by simpa using h2
      rw [clC_bad (fun h => h2 h.2.1)]
      clear h2
      go_enter Tryd.func81, Tryd.ntmps81
      go_wp2_with (first | (go_at_call 105; refine (l2Is_any l _).mono ?_; rintro r u ⟨rfl, rfl⟩; rw [d1]) | (go_at_call 85; refine (in_any _ _ _ _).mono ?_; rintro r u ⟨rfl, rfl⟩; rw [d2]))
      go_ret
      exact ⟨rfl, rfl⟩
  · have d1 : decide (0 ≤ l ∧ l ≤ 65520) = false := by simpa using h1
    rw [clC_bad (fun h => h1 h.1)]
    clear h1
    go_enter Tryd.func81, Tryd.ntmps81
    go_wp2_with (go_at_call 105; refine (l2Is_any l _).mono ?_; rintro r u ⟨rfl, rfl⟩; rw [d1])
    go_ret
    exact ⟨rfl, rfl⟩

theorem clC_zero {l a s : Int} {p : List Int} (h : clC l a s p = 0) : ((0 ≤ l ∧ l ≤ 65520) ∧ (1 ≤ s ∧ s ≤ 24) ∧ 0 ≤ a ∧ a < s) ∧ allS p = true ∧ p.length = stN a s := by
  unfold clC at h
  split at h
  · split at h
    · omega
    · split at h
      · split at h
        · exact ⟨‹_›, ‹_›, ‹_›⟩
        · omega
      · omega
  · omega

set_option maxHeartbeats 2000000 in
theorem specClimb_any (l a s : Int) (x : Option Addr) (c : Nat) (p : List Int) (w : World) (hp : Has w .i64 x p.length p) (hl : p.length ≤ 1048576) (hc : p.length ≤ c) (hm : c ≤ maxLen) (hs : -9223372036854775808 ≤ s ∧ s ≤ 9223372036854775807) :
    Calls Tryd.prog 30 #[.int .i64 l, .int .i64 a, .int .i64 s, .slice x p.length c] w fun r w' => r = .returned (.agg #[.int .i64 (clC l a s p), .int .i64 (clV l a s p)]) ∧ Below w.heap.size w w' := by
  by_cases h0 : clC l a s p = 0
  · have hV : clV l a s p = clM nS l a s p := by unfold clV; rw [if_pos h0]
    obtain ⟨⟨g1, g2, g3⟩, ga, gl⟩ := clC_zero h0
    have H0 : Hid (clC l a s p = 0) := h0
    rw [hV, h0]
    clear hV h0
    have GL : Hid (p.length = stN a s) := gl
    clear gl
    go_enter Tryd.func30, Tryd.ntmps30
    go_wp2_with fail
    refine (l4Asked_any l a s x c p _ (hp.alloc _) hl hs).mono ?_
    rintro r u ⟨rfl, rfl⟩
    rw [H0.out]
    go_wp2_with fail
    refine (l4Climb_any _ l a s x c p _ (Nat.le_refl _) g1.1 g1.2 g3.1 g3.2 (by omega) GL.out ga (hp.alloc _) hc hm).mono ?_
    rintro r u ⟨rfl, hb1⟩
    obtain ⟨hc1, hf1⟩ := bcell hb1
    have hz1 := hb1.size
    simp at hz1
    go_wp2
    refine bodyPost_ret (v := .agg #[.int .i64 0, .int .i64 (clM nS l a s p)]) (by simp [results, Tryd.results30, go_sem, hc1]) rfl ⟨rfl, ?_⟩
    repeat (first | exact Below.refl _ _ | (refine Below.alloc ?_ (by (try simp) <;> omega) _) | (refine Below.setCell ?_ (by (try simp) <;> omega) _) | (refine Below.trans ?_ (hb1.mono (by (try simp) <;> omega))))
  · rw [clV_of h0]
    have h0' : (clC l a s p != 0) = true := by simpa using h0
    generalize hcc : clC l a s p = cc at *
    have HC : Hid (clC l a s p = cc) := hcc
    clear hcc
    go_enter Tryd.func30, Tryd.ntmps30
    go_wp2_with fail
    refine (l4Asked_any l a s x c p _ (hp.alloc _) hl hs).mono ?_
    rintro r u ⟨rfl, rfl⟩
    rw [HC.out]
    go_wp2
    refine bodyPost_ret (v := .agg #[.int .i64 cc, .int .i64 0]) (by simp [results, Tryd.results30, go_sem]) rfl ⟨rfl, ?_⟩
    repeat (first | exact Below.refl _ _ | (refine Below.alloc ?_ (by (try simp) <;> omega) _) | (refine Below.setCell ?_ (by (try simp) <;> omega) _))

end Go.Proofs.YtjiamihidnofmaaDoor
