/- Contracts: BitsOf, PartsFault and CanonOf of the program and of the model. -/
import Derived.Test.YtinjppnnggeebahFptr
namespace Go.Proofs.Ytinjppnnggeebah
open Go.ChangeShapes Go.WideShapes Go.ChangeAt Go.RowKit
set_option linter.unusedVariables false

/-- Right parts, sort by sort. -/
theorem right_cases {k : Int} {m : Bool} {e t : Int} (h : faultOf k m e t = 0) :
    (k = 3 ∧ m = false ∧ e = 0 ∧ t = 0) ∨ (k = 2 ∧ e = 0 ∧ t = 0) ∨ (k = 1 ∧ e = 0 ∧ t = 0) ∨ (k = 0 ∧ e = -1074 ∧ 1 ≤ t ∧ t < 4503599627370496) ∨ (k = 0 ∧ -1074 ≤ e ∧ e ≤ 971 ∧ 4503599627370496 ≤ t ∧ t ≤ 9007199254740991) := by
  unfold faultOf at h
  split at h
  · omega
  · split at h
    · omega
    · cases m <;> simp at * <;> omega

set_option maxHeartbeats 1000000 in
theorem body_impl (k : Int) (m : Bool) (e t : Int) (w : World) (h : faultOf k m e t = 0) :
    Calls Try.prog 22 #[.agg #[.int .i64 k, .bool m, .int .i64 e, .int .i64 t]] w fun r w' => r = .returned (.int .u64 (bodyOf k e t)) ∧ Below w.heap.size w w' := by
  rcases right_cases h with ⟨rfl, rfl, rfl, rfl⟩ | ⟨rfl, rfl, rfl⟩ | ⟨rfl, rfl, rfl⟩ | ⟨rfl, rfl, h2, h3⟩ | ⟨rfl, h2, h3, h4, h5⟩
  · clear h
    go_enter Try.func22, Try.ntmps22
    go_wp2
    go_ret
    exact ⟨rfl, ((Below.refl _ _).alloc (Nat.le_refl _) _)⟩
  · clear h
    go_enter Try.func22, Try.ntmps22
    go_wp2
    go_ret
    exact ⟨rfl, ((Below.refl _ _).alloc (Nat.le_refl _) _)⟩
  · clear h
    go_enter Try.func22, Try.ntmps22
    go_wp2
    go_ret
    exact ⟨rfl, ((Below.refl _ _).alloc (Nat.le_refl _) _)⟩
  · have hb : bodyOf 0 (-1074) t = t := by unfold bodyOf; simp [h3]
    rw [hb]
    clear h hb
    go_enter Try.func22, Try.ntmps22
    go_wp2
    go_ret
    exact ⟨rfl, ((Below.refl _ _).alloc (Nat.le_refl _) _)⟩
  · have hb : bodyOf 0 e t = (e + 1074) * 4503599627370496 + t := by unfold bodyOf; rw [if_neg (by omega), if_neg (by omega), if_neg (by omega), if_neg (by omega)]
    have e1 : bits .and .u64 t 4503599627370495 = t - 4503599627370496 := by rw [and_frac (by omega) (by omega)]; omega
    have e2 : bits .or .u64 ((e + 1075) * 4503599627370496) (t - 4503599627370496) = (e + 1074) * 4503599627370496 + t := by
      rw [or_low (by omega) (by omega) (by omega) (by omega) (by omega)]; omega
    rw [hb]
    clear h hb
    go_enter Try.func22, Try.ntmps22
    go_wp2
    go_ret
    exact ⟨rfl, ((Below.refl _ _).alloc (Nat.le_refl _) _)⟩

end Go.Proofs.Ytinjppnnggeebah
