/- Plain facts: measures stand in one order. -/
import Derived.Test.YtinjppnnggeebaaNums
namespace Go.Proofs.Ytinjppnnggeebaa

theorem canon_nan {x : Int} (h : 9218868437227405312 < sz x) : canon x = 9221120237041090560 := by unfold canon; rw [if_pos h]
theorem canon_num {x : Int} (h : ¬ 9218868437227405312 < sz x) : canon x = x := by unfold canon; rw [if_neg h]
theorem sz_canon : sz 9221120237041090560 = 9221120237041090560 := rfl
/-- Same parts and one canon are the same. -/
theorem same_canon {a b : Int} (a0 : -9223372036854775808 ≤ a) (a1 : a ≤ 9223372036854775807) (b0 : -9223372036854775808 ≤ b) (b1 : b ≤ 9223372036854775807) : sameB a b = true ↔ canon a = canon b := by
  constructor
  · intro h
    unfold sameB at h
    simp at h
    have ha := join_parts a0 a1
    have hb := join_parts b0 b1
    rw [← ha, ← hb, h.1, h.2.1, h.2.2.1, h.2.2.2]
  · intro h
    by_cases ha : 9218868437227405312 < sz a
    · by_cases hb : 9218868437227405312 < sz b
      · unfold sameB kd mn ex mt
        rw [if_pos ha, if_pos hb, if_pos ha, if_pos hb, if_pos (by omega), if_pos (by omega), if_pos (by omega), if_pos (by omega)]
        rfl
      · rw [canon_nan ha, canon_num hb] at h
        rw [← h, sz_canon] at hb
        omega
    · by_cases hb : 9218868437227405312 < sz b
      · rw [canon_num ha, canon_nan hb] at h
        rw [h, sz_canon] at ha
        omega
      · rw [canon_num ha, canon_num hb] at h
        subst h
        unfold sameB
        simp
/-- One place and one canon are the same. -/
theorem place_canon {a b : Int} (a0 : -9223372036854775808 ≤ a) (a1 : a ≤ 9223372036854775807) (b0 : -9223372036854775808 ≤ b) (b1 : b ≤ 9223372036854775807) : place a = place b ↔ canon a = canon b := by
  have ha := sz_bd a0 a1
  have hb := sz_bd b0 b1
  have hx : sz a = if a < 0 then a + 9223372036854775808 else a := rfl
  have hy : sz b = if b < 0 then b + 9223372036854775808 else b := rfl
  unfold place canon
  by_cases c1 : 9218868437227405312 < sz a <;> by_cases c2 : 9218868437227405312 < sz b <;> simp only [c1, c2, if_true, if_false] <;> split at hx <;> split at hy <;> (try split) <;> (try split) <;> omega
theorem same_place {a b : Int} (a0 : -9223372036854775808 ≤ a) (a1 : a ≤ 9223372036854775807) (b0 : -9223372036854775808 ≤ b) (b1 : b ≤ 9223372036854775807) : sameB a b = decide (place a = place b) := by
  rw [Bool.eq_iff_iff, same_canon a0 a1 b0 b1, decide_eq_true_iff, place_canon a0 a1 b0 b1]
theorem canon_canon (x : Int) : canon (canon x) = canon x := by
  by_cases h : 9218868437227405312 < sz x
  · rw [canon_nan h]; rfl
  · rw [canon_num h, canon_num h]
theorem same_self_canon {x : Int} (h0 : -9223372036854775808 ≤ x) (h1 : x ≤ 9223372036854775807) : sameB x (canon x) = true := by
  have hb := canon_bd h0 h1
  rw [same_canon h0 h1 hb.1 hb.2, canon_canon]

end Go.Proofs.Ytinjppnnggeebaa
