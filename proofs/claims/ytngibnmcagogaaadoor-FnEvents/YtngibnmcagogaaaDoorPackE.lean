/- Contracts of the model's chapter 3: PackEvent. -/
import Derived.Test.YtngibnmcagogaaaDoorPack
namespace Go.Proofs.YtngibnmcagogaaaDoor
open Go.ChangeShapes Go.WideShapes Go.ChangeAt Go.RowKit
set_option maxRecDepth 100000
set_option linter.unusedVariables false
set_option linter.unusedSimpArgs false

/-- The bytes of an event, or none where it has a fault. -/
def packB (s v k x : Int) (zs : List Int) : List Int := if evF s v k x zs.length = 0 then packL s v k x zs else []
theorem evF_zero {s v k x : Int} {n : Nat} (h : evF s v k x n = 0) : (0 ≤ s ∧ s ≤ 63) ∧ (0 ≤ v ∧ v ≤ 999) ∧ (0 ≤ k ∧ k ≤ 9) ∧ n ≤ 12 ∧ x = canon x := by
  unfold evF at h
  split at h
  · simp at h
  · split at h
    · simp at h
    · split at h
      · simp at h
      · rename_i h1 h2 h3
        have h1' := Classical.not_not.1 h1
        exact ⟨h1'.1, h1'.2.1, h1'.2.2, by omega, Classical.not_not.1 h2⟩
theorem packB_wf {s v k x : Int} {zs : List Int} (hz : ∀ n ∈ zs, (Lit.int .u8 n).wf = true) : ∀ n ∈ packB s v k x zs, (Lit.int .u8 n).wf = true := by
  unfold packB
  split
  · rename_i h
    obtain ⟨hs, hv, hk, hn, _⟩ := evF_zero h
    intro n hn'
    unfold packL at hn'
    simp only [List.mem_append, List.mem_cons, List.not_mem_nil, or_false] at hn'
    rcases hn' with (((h | h) | h) | h) | h
    · rcases h with rfl | rfl | rfl <;> exact wf_u8 (by omega) (by omega)
    · subst h; exact wf_u8 (by omega) (by omega)
    · exact putL_wf x 8 n h
    · subst h; exact wf_u8 (by omega) (by omega)
    · exact hz n h
  · simp
theorem packB_len {s v k x : Int} {zs : List Int} : (packB s v k x zs).length ≤ 25 := by
  unfold packB
  split
  · rename_i h
    have := (evF_zero h).2.2.2.1
    rw [packL_len]; omega
  · simp

set_option maxHeartbeats 2000000 in
theorem specPackEvent_any (s v k x : Int) (a : Option Addr) (c : Nat) (zs : List Int) (w : World) (hz : Has w .u8 a zs.length zs) (x0 : -9223372036854775808 ≤ x) (x1 : x ≤ 9223372036854775807) (hn : zs.length ≤ 9223372036854775807) :
    Calls Tryd.prog 47 #[.agg #[.int .i64 s, .int .i64 v, .int .i64 k, .int .i64 x, .slice a zs.length c]] w fun r w' => ∃ a' c', r = .returned (.agg #[.int .i64 (evF s v k x zs.length), .slice a' (packB s v k x zs).length c']) ∧ w'.ownsRow w.heap.size 5 1 (.slice a' (packB s v k x zs).length c') (packB s v k x zs).length ((packB s v k x zs).map (.int .u8)) ∧ Below w.heap.size w w' := by
  have E0 := (EvAt.new w s v k x a zs.length c 46).below ((Below.refl _ _).alloc (Nat.le_refl _) (.cells #[.int .i64 0, .slice none 0 0] 30))
  by_cases hf : evF s v k x zs.length = 0
  · obtain ⟨hs, hv, hk, hn', hcx⟩ := evF_zero hf
    clear hcx
    have hp : packB s v k x zs = packL s v k x zs := by unfold packB; rw [if_pos hf]
    rw [hp, packL_len]
    go_enter Tryd.func47, Tryd.ntmps47
    go_wp2_with fail
    refine (l3Fault_any _ s v k x a zs.length c _ E0 x0 x1 hn).mono ?_
    rintro r u1 ⟨rfl, hb1⟩
    rw [hf]
    have hz1 := hb1.size
    have E1 := E0.below hb1
    have Z1 := ((hz.alloc _).alloc _).below hb1 (Nat.le_refl _)
    obtain ⟨hc1, hf1⟩ := bcell hb1
    go_wp2_with fail
    refine (l3Pack_any _ s v k x a c zs _ E1 Z1 hs.1 hs.2 hv.1 hv.2 hk.1 hk.2 x0 x1 hn').mono ?_
    rintro r u2 ⟨a', c', rfl, O2, hb2⟩
    have hz2 := hb2.size
    simp at hz1
    clear E1 Z1 E0
    have hB := hb1.trans (hb2.mono hb1.size)
    clear hc1 hf1
    obtain ⟨hc2, hf2⟩ := bcell hB
    go_wp2
    refine bodyPost_ret (v := .agg #[.int .i64 0, .slice a' (13 + zs.length) c']) (by simp [results, Tryd.results47, go_sem, hc2]) rfl ⟨_, _, by rw [hf], ?_, ?_⟩
    · exact own_mono (own_set (own_set O2 (by omega) _) (by omega) _) (by omega)
    · refine Below.setCell (Below.setCell ?_ (by simp) _) (by simp) _
      exact (((Below.refl _ _).alloc (Nat.le_refl _) _).alloc (by simp) _).trans (hB.mono (by (try simp) <;> omega))
  · have hp : packB s v k x zs = [] := by unfold packB; rw [if_neg hf]
    rw [hp]
    have hf' : (evF s v k x zs.length != 0) = true := by simpa using hf
    go_enter Tryd.func47, Tryd.ntmps47
    go_wp2_with fail
    refine (l3Fault_any _ s v k x a zs.length c _ E0 x0 x1 hn).mono ?_
    rintro r u1 ⟨rfl, hb1⟩
    have hz1 := hb1.size
    simp at hz1
    obtain ⟨hc1, hf1⟩ := bcell hb1
    go_wp2
    refine bodyPost_ret (v := .agg #[.int .i64 (evF s v k x zs.length), .slice none 0 0]) (by simp [results, Tryd.results47, go_sem, hc1]) rfl ⟨none, 0, rfl, nil_own _ _ _, ?_⟩
    refine Below.setCell (Below.setCell ?_ (by simp) _) (by simp) _
    exact (((Below.refl _ _).alloc (Nat.le_refl _) _).alloc (by simp) _).trans (hb1.mono (by (try simp) <;> omega))

end Go.Proofs.YtngibnmcagogaaaDoor
