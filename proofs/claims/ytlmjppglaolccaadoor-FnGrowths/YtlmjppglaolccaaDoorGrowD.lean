/- Plain facts: the growth of a log's first leaves, split by split; how long it is, and what comes of it. -/
import Derived.Test.YtlmjppglaolccaaDoorRootD
namespace Go.Proofs.YtlmjppglaolccaaDoor
open Go.ChangeShapes Go.WideShapes Go.ChangeAt Go.RowKit
set_option linter.unusedVariables false
set_option linter.unusedSimpArgs false

/-- The growth of the first leaves of a log. -/
def grM (f : Int → Int → Int) (e : Int) (xs : List Int) (s : Int) (wh : Bool) : List Int :=
  if h : s = xs.length ∨ xs.length ≤ 1 then (if wh then [] else [rtM f e xs]) else if s ≤ splN xs.length then grM f e (xs.take (splN xs.length).toNat) s wh ++ [rtM f e (xs.drop (splN xs.length).toNat)] else grM f e (xs.drop (splN xs.length).toNat) (s - splN xs.length) false ++ [rtM f e (xs.take (splN xs.length).toNat)]
termination_by xs.length
decreasing_by
  · have h1 := splN_lt (n := xs.length) (by omega); simp; omega
  · have h1 := splN_pos xs.length; simp; omega
/-- How many that has. -/
def gsN (s t : Int) (wh : Bool) : Nat :=
  if h : s = t ∨ t ≤ 1 then (if wh then 0 else 1) else if s ≤ splN t then gsN s (splN t) wh + 1 else gsN (s - splN t) (t - splN t) false + 1
termination_by t.toNat
decreasing_by
  · have := splN_lt (n := t) (by omega); omega
  · have := splN_pos t; omega
/-- What comes of a growth: for the first leaves, and for all. -/
def grR (f : Int → Int → Int) (s t : Int) (wh : Bool) (root : Int) (path : List Int) : Int × Int :=
  if h : s = t ∨ t ≤ 1 then (if wh then (root, root) else (path.getD 0 0, path.getD 0 0)) else if s ≤ splN t then ((grR f s (splN t) wh root path.dropLast).1, f (grR f s (splN t) wh root path.dropLast).2 (path.getLastD 0)) else (f (path.getLastD 0) (grR f (s - splN t) (t - splN t) false root path.dropLast).1, f (path.getLastD 0) (grR f (s - splN t) (t - splN t) false root path.dropLast).2)
termination_by t.toNat
decreasing_by
  all_goals (have h1 := splN_lt (n := t) (by omega); have h2 := splN_pos t; omega)
theorem grM_eq (f : Int → Int → Int) (e : Int) {xs : List Int} {s : Int} (wh : Bool) (h : s = xs.length) : grM f e xs s wh = if wh then [] else [rtM f e xs] := by rw [grM, dif_pos (.inl h)]
theorem grM_lo (f : Int → Int → Int) (e : Int) {xs : List Int} {s : Int} (wh : Bool) (h : 2 ≤ xs.length) (hs : s ≤ splN xs.length) : grM f e xs s wh = grM f e (xs.take (splN xs.length).toNat) s wh ++ [rtM f e (xs.drop (splN xs.length).toNat)] := by
  have h1 := splN_lt (n := xs.length) (by omega)
  rw [grM, dif_neg (by omega), if_pos hs]
theorem grM_hi (f : Int → Int → Int) (e : Int) {xs : List Int} {s : Int} (wh : Bool) (h : 2 ≤ xs.length) (hs : ¬ s ≤ splN xs.length) (hl : s < xs.length) : grM f e xs s wh = grM f e (xs.drop (splN xs.length).toNat) (s - splN xs.length) false ++ [rtM f e (xs.take (splN xs.length).toNat)] := by rw [grM, dif_neg (by omega), if_neg hs]
theorem gsN_eq {s t : Int} (wh : Bool) (h : s = t) : gsN s t wh = if wh then 0 else 1 := by rw [gsN, dif_pos (.inl h)]
theorem gsN_lo {s t : Int} (wh : Bool) (h : 2 ≤ t) (hs : s ≤ splN t) : gsN s t wh = gsN s (splN t) wh + 1 := by
  have h1 := splN_lt (n := t) (by omega)
  rw [gsN, dif_neg (by omega), if_pos hs]
theorem gsN_hi {s t : Int} (wh : Bool) (h : 2 ≤ t) (hs : ¬ s ≤ splN t) (hl : s < t) : gsN s t wh = gsN (s - splN t) (t - splN t) false + 1 := by rw [gsN, dif_neg (by omega), if_neg hs]
theorem grR_eq (f : Int → Int → Int) {s t : Int} (wh : Bool) (r : Int) (p : List Int) (h : s = t) : grR f s t wh r p = if wh then (r, r) else (p.getD 0 0, p.getD 0 0) := by rw [grR, dif_pos (.inl h)]
theorem grR_lo (f : Int → Int → Int) {s t : Int} (wh : Bool) (r : Int) (p : List Int) (h : 2 ≤ t) (hs : s ≤ splN t) : grR f s t wh r p = ((grR f s (splN t) wh r p.dropLast).1, f (grR f s (splN t) wh r p.dropLast).2 (p.getLastD 0)) := by
  have h1 := splN_lt (n := t) (by omega)
  rw [grR, dif_neg (by omega), if_pos hs]
theorem grR_hi (f : Int → Int → Int) {s t : Int} (wh : Bool) (r : Int) (p : List Int) (h : 2 ≤ t) (hs : ¬ s ≤ splN t) (hl : s < t) : grR f s t wh r p = (f (p.getLastD 0) (grR f (s - splN t) (t - splN t) false r p.dropLast).1, f (p.getLastD 0) (grR f (s - splN t) (t - splN t) false r p.dropLast).2) := by rw [grR, dif_neg (by omega), if_neg hs]
/-- What lies behind the split of a log is split where the log is. -/
theorem splN_same {s t : Int} (h2 : 2 ≤ t) (h32 : t ≤ 32) (h : splN t < s) (hs : s ≤ t) : splN s = splN t := by unfold splN at *; omega
/-- A growth is as long as it should be, and leads to both roots. -/
theorem grM_main (f : Int → Int → Int) (e : Int) (n : Nat) : ∀ (xs : List Int) (s : Int) (wh : Bool) (r : Int), xs.length ≤ n → 1 ≤ xs.length → xs.length ≤ 32 → 1 ≤ s → s ≤ xs.length → (wh = true → r = rtM f e (xs.take s.toNat)) → (grM f e xs s wh).length = gsN s xs.length wh ∧ grR f s xs.length wh r (grM f e xs s wh) = (rtM f e (xs.take s.toNat), rtM f e xs) := by
  induction n with
  | zero => intro xs s wh r h h1; omega
  | succ n ih =>
    intro xs s wh r hn h1 h32 hs0 hs1 hr
    by_cases ho : s = xs.length
    · rw [grM_eq f e wh ho, gsN_eq wh ho, grR_eq f wh _ _ ho]
      have ht : xs.take s.toNat = xs := List.take_of_length_le (by omega)
      rw [ht] at hr ⊢
      cases wh
      · exact ⟨rfl, rfl⟩
      · rw [hr rfl]; exact ⟨rfl, rfl⟩
    · have hs : (2 : Int) ≤ xs.length := by omega
      obtain ⟨q1, q2, q3⟩ := splN_bd hs (by omega)
      obtain ⟨m, hm⟩ : ∃ m : Nat, splN (xs.length : Int) = m := ⟨(splN (xs.length : Int)).toNat, by omega⟩
      have tl : (xs.take m).length = m := by simp; omega
      have dl : (xs.drop m).length = xs.length - m := by simp
      by_cases h0 : s ≤ splN xs.length
      · have tt : (xs.take m).take s.toNat = xs.take s.toNat := by rw [List.take_take, Nat.min_eq_left (by omega)]
        obtain ⟨e1, e2⟩ := ih (xs.take m) s wh r (by omega) (by omega) (by omega) hs0 (by omega) (by rw [tt]; exact hr)
        rw [tl] at e1 e2
        rw [grM_lo f e wh (by omega) h0, gsN_lo wh hs h0, grR_lo f wh _ _ hs h0, rtM_gt f e (xs := xs) (by omega), hm]
        rw [show ((m : Int)).toNat = m from rfl, List.dropLast_concat, List.getLastD_concat, e2, tt]
        exact ⟨by rw [List.length_append, e1]; rfl, rfl⟩
      · have hl : s < xs.length := by omega
        have e3 : ((xs.length - m : Nat) : Int) = xs.length - m := by omega
        obtain ⟨e1, e2⟩ := ih (xs.drop m) (s - m) false r (by omega) (by omega) (by omega) (by omega) (by omega) (by simp)
        rw [dl, e3] at e1 e2
        have hsp := splN_same hs (by omega) (by omega) hs1
        have l1 : (xs.take s.toNat).length = s.toNat := by simp; omega
        have ho1 : rtM f e (xs.take s.toNat) = f (rtM f e (xs.take m)) (rtM f e ((xs.drop m).take (s - m).toNat)) := by
          have hn1 : ((s.toNat : Nat) : Int) = s := by omega
          rw [rtM_gt f e (xs := xs.take s.toNat) (by omega), l1, hn1, hsp, hm]
          rw [show ((m : Int)).toNat = m from rfl, List.take_take, Nat.min_eq_left (by omega), List.drop_take, show s.toNat - m = (s - (m : Int)).toNat by omega]
        rw [grM_hi f e wh (by omega) h0 hl, gsN_hi wh hs h0 hl, grR_hi f wh _ _ hs h0 hl, rtM_gt f e (xs := xs) (by omega), hm]
        rw [show ((m : Int)).toNat = m from rfl, List.dropLast_concat, List.getLastD_concat, e2, ho1]
        exact ⟨by rw [List.length_append, e1]; rfl, rfl⟩
/-- A growth has six at most. -/
theorem gsN_bd (j : Nat) : ∀ (s t : Int) (wh : Bool), j ≤ 5 → 1 ≤ s → s ≤ t → t ≤ 2 ^ j → gsN s t wh ≤ j + 1 := by
  induction j with
  | zero =>
    intro s t wh _ h1 h2 h3
    rw [gsN_eq wh (by simp at h3; omega)]
    cases wh <;> simp
  | succ j ih =>
    intro s t wh hj h1 h2 h3
    by_cases ho : s = t
    · rw [gsN_eq wh ho]; cases wh <;> simp
    · have hb : (2 : Int) ^ (j + 1) ≤ 32 := by
        have hj2 : j = 0 ∨ j = 1 ∨ j = 2 ∨ j = 3 ∨ j = 4 := by omega
        rcases hj2 with rfl | rfl | rfl | rfl | rfl <;> decide
      have hk : splN t ≤ 2 ^ j ∧ t - splN t ≤ 2 ^ j := by
        obtain ⟨q1, q2, q3⟩ := splN_bd (n := t) (by omega) (by omega)
        have hj2 : j = 0 ∨ j = 1 ∨ j = 2 ∨ j = 3 ∨ j = 4 := by omega
        rcases hj2 with rfl | rfl | rfl | rfl | rfl <;> simp at h3 ⊢ <;> unfold splN at * <;> omega
      by_cases h0 : s ≤ splN t
      · rw [gsN_lo wh (by omega) h0]
        have := ih s (splN t) wh (by omega) h1 h0 hk.1
        omega
      · rw [gsN_hi wh (by omega) h0 (by omega)]
        have := ih (s - splN t) (t - splN t) false (by omega) (by omega) (by omega) hk.2
        omega
/-- A growth that is not whole has one at least. -/
theorem gsN_pos (s t : Int) : 1 ≤ gsN s t false := by
  rw [gsN]
  split
  · simp
  · split <;> omega
/-- The code of StepsOf. -/
def spC (s t : Int) : Int := if (1 ≤ t ∧ t ≤ 24) ∧ 1 ≤ s ∧ s ≤ t then 0 else 3
/-- What StepsOf tells. -/
def spV (s t : Int) : Int := if (1 ≤ t ∧ t ≤ 24) ∧ 1 ≤ s ∧ s ≤ t then (gsN s t true : Nat) else 0

end Go.Proofs.YtlmjppglaolccaaDoor
