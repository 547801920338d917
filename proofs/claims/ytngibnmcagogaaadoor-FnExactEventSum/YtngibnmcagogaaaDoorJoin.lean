/- Contracts: BitsOf, PartsFault and CanonOf of the program and of the model. -/
import Derived.Test.YtngibnmcagogaaaDoorFptr
namespace Go.Proofs.YtngibnmcagogaaaDoor
open Go.ChangeShapes Go.WideShapes Go.ChangeAt Go.RowKit
set_option maxRecDepth 100000
set_option linter.unusedVariables false
set_option linter.unusedSimpArgs false

/-- Right parts, sort by sort. -/
theorem right_cases {k : Int} {m : Bool} {e t : Int} (h : faultOf k m e t = 0) :
    (k = 3 ∧ m = false ∧ e = 0 ∧ t = 0) ∨ (k = 2 ∧ e = 0 ∧ t = 0) ∨ (k = 1 ∧ e = 0 ∧ t = 0) ∨ (k = 0 ∧ e = -1074 ∧ 1 ≤ t ∧ t < 4503599627370496) ∨ (k = 0 ∧ -1074 ≤ e ∧ e ≤ 971 ∧ 4503599627370496 ≤ t ∧ t ≤ 9007199254740991) := by
  unfold faultOf at h
  split at h
  · omega
  · split at h
    · omega
    · cases m <;> simp at * <;> omega

set_option maxHeartbeats 1000000 in
theorem body_impl (k : Int) (m : Bool) (e t : Int) (w : World) (h : faultOf k m e t = 0) :
    Calls Tryd.prog 102 #[.agg #[.int .i64 k, .bool m, .int .i64 e, .int .i64 t]] w fun r w' => r = .returned (.int .u64 (bodyOf k e t)) ∧ Below w.heap.size w w' := by
  rcases right_cases h with ⟨rfl, rfl, rfl, rfl⟩ | ⟨rfl, rfl, rfl⟩ | ⟨rfl, rfl, rfl⟩ | ⟨rfl, rfl, h2, h3⟩ | ⟨rfl, h2, h3, h4, h5⟩
  · clear h
    go_enter Tryd.func102, Tryd.ntmps102
    go_wp2
    go_ret
    exact ⟨rfl, ((Below.refl _ _).alloc (Nat.le_refl _) _)⟩
  · clear h
    go_enter Tryd.func102, Tryd.ntmps102
    go_wp2
    go_ret
    exact ⟨rfl, ((Below.refl _ _).alloc (Nat.le_refl _) _)⟩
  · clear h
    go_enter Tryd.func102, Tryd.ntmps102
    go_wp2
    go_ret
    exact ⟨rfl, ((Below.refl _ _).alloc (Nat.le_refl _) _)⟩
  · have hb : bodyOf 0 (-1074) t = t := by unfold bodyOf; simp [h3]
    rw [hb]
    clear h hb
    go_enter Tryd.func102, Tryd.ntmps102
    go_wp2
    go_ret
    exact ⟨rfl, ((Below.refl _ _).alloc (Nat.le_refl _) _)⟩
  · have hb : bodyOf 0 e t = (e + 1074) * 4503599627370496 + t := by unfold bodyOf; rw [if_neg (by omega), if_neg (by omega), if_neg (by omega), if_neg (by omega)]
    have e1 : bits .and .u64 t 4503599627370495 = t - 4503599627370496 := by rw [and_frac (by omega) (by omega)]; omega
    have e2 : bits .or .u64 ((e + 1075) * 4503599627370496) (t - 4503599627370496) = (e + 1074) * 4503599627370496 + t := by
      rw [or_low (by omega) (by omega) (by omega) (by omega) (by omega)]; omega
    rw [hb]
    clear h hb
    go_enter Tryd.func102, Tryd.ntmps102
    go_wp2
    go_ret
    exact ⟨rfl, ((Below.refl _ _).alloc (Nat.le_refl _) _)⟩

set_option maxHeartbeats 1000000 in
theorem join_ptr (k : Int) (m : Bool) (e t : Int) (w : World) (b o : Nat) (h : faultOf k m e t = 0)
    (c0 : w.cell? ⟨b, o, none⟩ = some (.int .i64 k)) (c1 : w.cell? ⟨b, o + 1, none⟩ = some (.bool m)) (c2 : w.cell? ⟨b, o + 2, none⟩ = some (.int .i64 e)) (c3 : w.cell? ⟨b, o + 3, none⟩ = some (.int .i64 t)) :
    Calls Tryd.prog 100 #[.pointer (some ⟨b, o, none⟩)] w fun r w' => r = .returned (.int .i64 (joinOf k m e t)) ∧ ∃ n, w' = w.drewN n := by
  have hb := body_bd h
  have hr := right_cases h
  unfold joinOf
  have hd : bodyOf k e t = if k = 3 then 9221120237041090560 else if k = 2 then 9218868437227405312 else if k = 1 then 0 else if t < 4503599627370496 then t else (e + 1074) * 4503599627370496 + t := rfl
  generalize bodyOf k e t = B at *
  clear h
  rcases hr with ⟨rfl, rfl, rfl, rfl⟩ | ⟨rfl, rfl, rfl⟩ | ⟨rfl, rfl, rfl⟩ | ⟨rfl, rfl, h2, h3⟩ | ⟨rfl, h2, h3, h4, h5⟩
  · obtain rfl : B = 9221120237041090560 := by simpa using hd
    clear hd hb
    go_enter Tryd.func100, Tryd.ntmps100
    go_wp2
    go_ret
    exact ⟨rfl, 0, rfl⟩
  · obtain rfl : B = 9218868437227405312 := by simpa using hd
    clear hd hb
    cases m
    all_goals
      go_enter Tryd.func100, Tryd.ntmps100
      go_wp2
      go_ret
      exact ⟨rfl, 0, rfl⟩
  · obtain rfl : B = 0 := by simpa using hd
    clear hd hb
    cases m
    all_goals
      go_enter Tryd.func100, Tryd.ntmps100
      go_wp2
      go_ret
      exact ⟨rfl, 0, rfl⟩
  · obtain rfl : B = t := by simpa [h3] using hd
    clear hd hb
    cases m
    all_goals
      go_enter Tryd.func100, Tryd.ntmps100
      go_wp2
      go_ret
      exact ⟨ret_int (by first | rfl | omega | (simp; omega)), 0, rfl⟩
  · have h4' : ¬ t < 4503599627370496 := by omega
    obtain rfl : B = (e + 1074) * 4503599627370496 + t := by simpa [h4'] using hd
    clear hd hb
    cases m
    all_goals
      go_enter Tryd.func100, Tryd.ntmps100
      go_wp2
      go_quiet (fail)
      go_wp2
      go_ret
      exact ⟨ret_int (by first | rfl | omega | (simp; omega)), _, rfl⟩

end Go.Proofs.YtngibnmcagogaaaDoor
