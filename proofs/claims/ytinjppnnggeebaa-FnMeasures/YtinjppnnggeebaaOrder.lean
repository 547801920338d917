/- Plain facts: measures stand in one order. -/
import Derived.Test.YtinjppnnggeebaaNums
namespace Go.Proofs.Ytinjppnnggeebaa

theorem canon_nan {x : Int} (h : 9218868437227405312 < sz x) : canon x = 9221120237041090560 := by unfold canon; rw [if_pos h]
theorem canon_num {x : Int} (h : ¬ 9218868437227405312 < sz x) : canon x = x := by unfold canon; rw [if_neg h]
theorem sz_canon : sz 9221120237041090560 = 9221120237041090560 := rfl
/-- Same parts and one canon are the same. -/
theorem same_canon {a b : Int} (a0 : -9223372036854775808 ≤ a) (a1 : a ≤ 9223372036854775807) (b0 : -9223372036854775808 ≤ b) (b1 : b ≤ 9223372036854775807) : sameB a b = true ↔ canon a = canon b := by
  constructor
  · intro h
    unfold sameB at h
    simp at h
    have ha := join_parts a0 a1
    have hb := join_parts b0 b1
    rw [← ha, ← hb, h.1, h.2.1, h.2.2.1, h.2.2.2]
  · intro h
    by_cases ha : 9218868437227405312 < sz a
    · by_cases hb : 9218868437227405312 < sz b
      · unfold sameB kd mn ex mt
        rw [if_pos ha, if_pos hb, if_pos ha, if_pos hb, if_pos (by omega), if_pos (by omega), if_pos (by omega), if_pos (by omega)]
        rfl
      · rw [canon_nan ha, canon_num hb] at h
        rw [← h, sz_canon] at hb
        omega
    · by_cases hb : 9218868437227405312 < sz b
      · rw [canon_num ha, canon_nan hb] at h
        rw [h, sz_canon] at ha
        omega
      · rw [canon_num ha, canon_num hb] at h
        subst h
        unfold sameB
        simp
/-- One place and one canon are the same. -/
theorem place_canon {a b : Int} (a0 : -9223372036854775808 ≤ a) (a1 : a ≤ 9223372036854775807) (b0 : -9223372036854775808 ≤ b) (b1 : b ≤ 9223372036854775807) : place a = place b ↔ canon a = canon b := by
  have ha := sz_bd a0 a1
  have hb := sz_bd b0 b1
  have hx : sz a = if a < 0 then a + 9223372036854775808 else a := rfl
  have hy : sz b = if b < 0 then b + 9223372036854775808 else b := rfl
  unfold place canon
  by_cases c1 : 9218868437227405312 < sz a <;> by_cases c2 : 9218868437227405312 < sz b <;> simp only [c1, c2, if_true, if_false] <;> split at hx <;> split at hy <;> (try split) <;> (try split) <;> omega
theorem same_place {a b : Int} (a0 : -9223372036854775808 ≤ a) (a1 : a ≤ 9223372036854775807) (b0 : -9223372036854775808 ≤ b) (b1 : b ≤ 9223372036854775807) : sameB a b = decide (place a = place b) := by
  rw [Bool.eq_iff_iff, same_canon a0 a1 b0 b1, decide_eq_true_iff, place_canon a0 a1 b0 b1]
theorem canon_canon (x : Int) : canon (canon x) = canon x := by
  by_cases h : 9218868437227405312 < sz x
  · rw [canon_nan h]; rfl
  · rw [canon_num h, canon_num h]
theorem same_self_canon {x : Int} (h0 : -9223372036854775808 ≤ x) (h1 : x ≤ 9223372036854775807) : sameB x (canon x) = true := by
  have hb := canon_bd h0 h1
  rw [same_canon h0 h1 hb.1 hb.2, canon_canon]

/-- The parts of the bits of right parts are these parts. -/
theorem parts_join {k : Int} {m : Bool} {e t : Int} (h : faultOf k m e t = 0) : kd (joinOf k m e t) = k ∧ mn (joinOf k m e t) = m ∧ ex (joinOf k m e t) = e ∧ mt (joinOf k m e t) = t := by
  unfold faultOf at h
  split at h
  · omega
  · split at h
    · omega
    · rename_i h1 h2
      have hk : k = 0 ∨ k = 1 ∨ k = 2 ∨ k = 3 := by omega
      rcases hk with rfl | rfl | rfl | rfl
      · have ht : ¬ t < 4503599627370496 ∨ (t < 4503599627370496 ∧ e = -1074) := by omega
        rcases ht with ht | ⟨ht, rfl⟩
        · have hj : bodyOf 0 e t = (e + 1074) * 4503599627370496 + t := by unfold bodyOf; rw [if_neg (by omega), if_neg (by omega), if_neg (by omega), if_neg ht]
          have hs : sz (joinOf 0 m e t) = (e + 1074) * 4503599627370496 + t := by unfold joinOf sz; rw [hj]; cases m <;> simp <;> omega
          have hn : decide (joinOf 0 m e t < 0) = m := by unfold joinOf; rw [hj]; cases m <;> simp <;> omega
          unfold kd mn ex mt
          rw [hs, hn]
          rw [if_neg (by omega), if_neg (by omega), if_neg (by omega), if_neg (by omega), if_neg (by omega), if_neg (by omega), if_neg (by omega), if_neg (by omega)]
          exact ⟨rfl, rfl, by omega, by omega⟩
        · have hj : bodyOf 0 (-1074) t = t := by unfold bodyOf; rw [if_neg (by omega), if_neg (by omega), if_neg (by omega), if_pos ht]
          have hs : sz (joinOf 0 m (-1074) t) = t := by unfold joinOf sz; rw [hj]; cases m <;> simp <;> omega
          have hn : decide (joinOf 0 m (-1074) t < 0) = m := by unfold joinOf; rw [hj]; cases m <;> simp <;> omega
          unfold kd mn ex mt
          rw [hs, hn]
          rw [if_neg (by omega), if_neg (by omega), if_neg (by omega), if_neg (by omega), if_neg (by omega), if_pos ht, if_neg (by omega), if_pos ht]
          exact ⟨rfl, rfl, rfl, rfl⟩
      · obtain ⟨rfl, rfl⟩ : e = 0 ∧ t = 0 := by omega
        cases m <;> decide
      · obtain ⟨rfl, rfl⟩ : e = 0 ∧ t = 0 := by omega
        cases m <;> decide
      · obtain ⟨rfl, rfl⟩ : e = 0 ∧ t = 0 := by omega
        cases m
        · decide
        · simp at h1
theorem join_bd {k : Int} {m : Bool} {e t : Int} (h : faultOf k m e t = 0) : -9223372036854775808 ≤ joinOf k m e t ∧ joinOf k m e t ≤ 9223372036854775807 := by
  have := body_bd h
  unfold joinOf
  split <;> omega

end Go.Proofs.Ytinjppnnggeebaa
