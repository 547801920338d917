/- Plain facts: the root of a log and the path of a leaf, split by split, are what comes of it level by level. -/
import Derived.Test.YtlmjppglaolccaaDoorClimbD
namespace Go.Proofs.YtlmjppglaolccaaDoor
open Go.ChangeShapes Go.WideShapes Go.ChangeAt Go.RowKit
set_option linter.unusedVariables false
set_option linter.unusedSimpArgs false

/-- The root of a log, split by split. -/
def rtM (f : Int → Int → Int) (e : Int) (xs : List Int) : Int :=
  if h : xs.length ≤ 1 then xs.headD e else f (rtM f e (xs.take (splN xs.length).toNat)) (rtM f e (xs.drop (splN xs.length).toNat))
termination_by xs.length
decreasing_by
  · have h1 := splN_lt (n := xs.length) (by omega); simp; omega
  · have h1 := splN_pos xs.length; simp; omega
/-- The path of a place, split by split. -/
def ptM (f : Int → Int → Int) (e : Int) (xs : List Int) (a : Int) : List Int :=
  if h : xs.length ≤ 1 then [] else if a < splN xs.length then ptM f e (xs.take (splN xs.length).toNat) a ++ [rtM f e (xs.drop (splN xs.length).toNat)] else ptM f e (xs.drop (splN xs.length).toNat) (a - splN xs.length) ++ [rtM f e (xs.take (splN xs.length).toNat)]
termination_by xs.length
decreasing_by
  · have h1 := splN_lt (n := xs.length) (by omega); simp; omega
  · have h1 := splN_pos xs.length; simp; omega
theorem rtM_le (f : Int → Int → Int) (e : Int) {xs : List Int} (h : xs.length ≤ 1) : rtM f e xs = xs.headD e := by rw [rtM, dif_pos h]
theorem rtM_gt (f : Int → Int → Int) (e : Int) {xs : List Int} (h : 2 ≤ xs.length) : rtM f e xs = f (rtM f e (xs.take (splN xs.length).toNat)) (rtM f e (xs.drop (splN xs.length).toNat)) := by rw [rtM, dif_neg (by omega)]
theorem ptM_le (f : Int → Int → Int) (e : Int) {xs : List Int} (a : Int) (h : xs.length ≤ 1) : ptM f e xs a = [] := by rw [ptM, dif_pos h]
theorem ptM_lo (f : Int → Int → Int) (e : Int) {xs : List Int} {a : Int} (h : 2 ≤ xs.length) (ha : a < splN xs.length) : ptM f e xs a = ptM f e (xs.take (splN xs.length).toNat) a ++ [rtM f e (xs.drop (splN xs.length).toNat)] := by rw [ptM, dif_neg (by omega), if_pos ha]
theorem ptM_hi (f : Int → Int → Int) (e : Int) {xs : List Int} {a : Int} (h : 2 ≤ xs.length) (ha : ¬ a < splN xs.length) : ptM f e xs a = ptM f e (xs.drop (splN xs.length).toNat) (a - splN xs.length) ++ [rtM f e (xs.take (splN xs.length).toNat)] := by rw [ptM, dif_neg (by omega), if_neg ha]
/-- One level up: each pair joined; one that is alone goes up as it is. -/
def upL (f : Int → Int → Int) : List Int → List Int
  | [] => []
  | [a] => [a]
  | a :: b :: xs => f a b :: upL f xs
theorem upL_len (f : Int → Int → Int) : ∀ xs : List Int, (upL f xs).length = (xs.length + 1) / 2
  | [] => rfl
  | [_] => by simp [upL]
  | _ :: _ :: xs => by simp only [upL, List.length_cons, upL_len f xs]; omega
theorem upL_app (f : Int → Int → Int) : ∀ (xs ys : List Int), xs.length % 2 = 0 → upL f (xs ++ ys) = upL f xs ++ upL f ys
  | [], _, _ => rfl
  | [_], _, h => by simp at h
  | a :: b :: xs, ys, h => by
    have := upL_app f xs ys (by simp at h; omega)
    simp only [List.cons_append, upL, this]
theorem upL_take (f : Int → Int → Int) (xs : List Int) (k : Nat) (hk : k % 2 = 0) (hl : k ≤ xs.length) : (upL f xs).take (k / 2) = upL f (xs.take k) := by
  have e := upL_app f (xs.take k) (xs.drop k) (by simp; omega)
  rw [List.take_append_drop] at e
  rw [e, List.take_append_of_le_length (by rw [upL_len]; simp; omega), List.take_of_length_le (by rw [upL_len]; simp; omega)]
theorem upL_drop (f : Int → Int → Int) (xs : List Int) (k : Nat) (hk : k % 2 = 0) (hl : k ≤ xs.length) : (upL f xs).drop (k / 2) = upL f (xs.drop k) := by
  have e := upL_app f (xs.take k) (xs.drop k) (by simp; omega)
  rw [List.take_append_drop] at e
  have hl2 : (upL f (xs.take k)).length = k / 2 := by rw [upL_len]; simp; omega
  rw [e, List.drop_append, hl2, Nat.sub_self, List.drop_zero, List.drop_of_length_le (by omega), List.nil_append]
theorem upL_spl {xs : List Int} (f : Int → Int → Int) (h : 3 ≤ xs.length) (h32 : xs.length ≤ 32) : (splN ((upL f xs).length : Int)).toNat = (splN (xs.length : Int)).toNat / 2 ∧ (splN (xs.length : Int)).toNat % 2 = 0 ∧ (splN (xs.length : Int)).toNat ≤ xs.length ∧ splN ((upL f xs).length : Int) = splN (xs.length : Int) / 2 := by
  obtain ⟨q1, q2, q3, q4, q5⟩ := half_split (s := (xs.length : Int)) (by omega) (by omega)
  rw [upL_len]
  have e : (((xs.length + 1) / 2 : Nat) : Int) = ((xs.length : Int) + 1) / 2 := by omega
  rw [e, ← q1]
  omega
/-- The root is that of the next level. -/
theorem rtM_up (f : Int → Int → Int) (e : Int) (n : Nat) : ∀ xs : List Int, xs.length ≤ n → 1 ≤ xs.length → xs.length ≤ 32 → rtM f e (upL f xs) = rtM f e xs := by
  induction n with
  | zero => intro xs h h1; omega
  | succ n ih =>
    intro xs hn h1 h32
    match xs, h1 with
    | [a], _ => rfl
    | [a, b], _ =>
      rw [rtM_gt f e (xs := [a, b]) (by simp), rtM_le f e (xs := upL f [a, b]) (by simp [upL])]
      have e2 : (splN (([a, b] : List Int).length : Int)).toNat = 1 := by simp [splN]
      rw [e2]
      simp [upL, rtM_le]
    | a :: b :: c :: ys, _ =>
      generalize hx : a :: b :: c :: ys = xs at *
      have h3 : 3 ≤ xs.length := by rw [← hx]; simp
      obtain ⟨q1, q2, q3, q4⟩ := upL_spl f h3 h32
      have hp := splN_pos (xs.length : Int)
      have hlt := splN_lt (n := (xs.length : Int)) (by omega)
      rw [rtM_gt f e (xs := upL f xs) (by rw [upL_len]; omega), rtM_gt f e (xs := xs) (by omega), q1, upL_take f xs _ q2 q3, upL_drop f xs _ q2 q3]
      rw [ih _ (by simp; omega) (by simp; omega) (by simp; omega), ih _ (by simp; omega) (by simp; omega) (by simp; omega)]
/-- The one that stands beside a place. -/
def bsAt (xs : List Int) (a : Int) : Int := if a % 2 = 0 then xs.getD (a.toNat + 1) 0 else xs.getD (a.toNat - 1) 0
theorem getD_take' (xs : List Int) (i k : Nat) (h : i < k) : (xs.take k).getD i 0 = xs.getD i 0 := by
  simp only [List.getD_eq_getElem?_getD, List.getElem?_take, if_pos h]
theorem getD_drop' (xs : List Int) (i k : Nat) : (xs.drop k).getD i 0 = xs.getD (k + i) 0 := by
  simp only [List.getD_eq_getElem?_getD, List.getElem?_drop]
/-- The path is the one beside, if there is one, and the path of the next level. -/
theorem ptM_up (f : Int → Int → Int) (e : Int) (n : Nat) : ∀ (xs : List Int) (a : Int), xs.length ≤ n → 1 ≤ xs.length → xs.length ≤ 32 → 0 ≤ a → a < xs.length → ptM f e xs a = (if alone a xs.length = true then [] else [bsAt xs a]) ++ ptM f e (upL f xs) (a / 2) := by
  induction n with
  | zero => intro xs a h h1; omega
  | succ n ih =>
    intro xs a hn h1 h32 ha0 ha
    match xs, h1 with
    | [x], _ =>
      simp at ha
      obtain rfl : a = 0 := by omega
      rw [ptM_le f e _ (by simp), ptM_le f e _ (by simp [upL])]
      rfl
    | [x, y], _ =>
      simp at ha
      have e2 : (splN (([x, y] : List Int).length : Int)) = 1 := by simp [splN]
      have e3 : (splN (([x, y] : List Int).length : Int)).toNat = 1 := by simp [splN]
      rw [ptM_le f e (xs := upL f [x, y]) _ (by simp [upL])]
      by_cases h0 : a = 0
      · subst h0
        rw [ptM_lo f e (by simp) (by rw [e2]; omega), e3, ptM_le f e _ (by simp)]
        simp [alone, bsAt, rtM_le]
      · obtain rfl : a = 1 := by omega
        rw [ptM_hi f e (by simp) (by rw [e2]; omega), e3, ptM_le f e _ (by simp)]
        simp [alone, bsAt, rtM_le]
    | x :: y :: z :: ys, _ =>
      generalize hx : x :: y :: z :: ys = xs at *
      have h3 : 3 ≤ xs.length := by rw [← hx]; simp
      obtain ⟨q1, q2, q3, q4⟩ := upL_spl f h3 h32
      have hp := splN_pos (xs.length : Int)
      have hlt := splN_lt (n := (xs.length : Int)) (by omega)
      have hl2 : 2 ≤ (upL f xs).length := by rw [upL_len]; omega
      have r1 := rtM_up f e _ (xs.drop (splN xs.length).toNat) (Nat.le_refl _) (by simp; omega) (by simp; omega)
      have r2 := rtM_up f e _ (xs.take (splN xs.length).toNat) (Nat.le_refl _) (by simp; omega) (by simp; omega)
      have tl : (xs.take (splN (xs.length : Int)).toNat).length = (splN (xs.length : Int)).toNat := by simp; omega
      have dl : (xs.drop (splN (xs.length : Int)).toNat).length = xs.length - (splN (xs.length : Int)).toNat := by simp
      by_cases h0 : a < splN xs.length
      · rw [ptM_lo f e (by omega) h0, ptM_lo f e (xs := upL f xs) hl2 (by omega), q1, upL_take f xs _ q2 q3, upL_drop f xs _ q2 q3, r1]
        rw [ih (xs.take (splN xs.length).toNat) a (by omega) (by omega) (by omega) ha0 (by omega), tl]
        have a1 : alone a xs.length = false := by simp [alone]; omega
        have a2 : alone a (((splN (xs.length : Int)).toNat : Nat) : Int) = false := by simp [alone]; omega
        have b1 : bsAt (xs.take (splN (xs.length : Int)).toNat) a = bsAt xs a := by
          unfold bsAt
          split
          · rw [getD_take' _ _ _ (by omega)]
          · rw [getD_take' _ _ _ (by omega)]
        rw [a1, a2, b1]
        simp
      · rw [ptM_hi f e (by omega) h0, ptM_hi f e (xs := upL f xs) hl2 (by omega), q1, upL_take f xs _ q2 q3, upL_drop f xs _ q2 q3, r2]
        rw [ih (xs.drop (splN xs.length).toNat) (a - splN xs.length) (by omega) (by omega) (by omega) (by omega) (by omega), dl, q4]
        have a1 : alone (a - splN (xs.length : Int)) ((xs.length - (splN (xs.length : Int)).toNat : Nat) : Int) = alone a xs.length := by simp only [alone]; rw [decide_eq_decide]; omega
        have b1 : bsAt (xs.drop (splN (xs.length : Int)).toNat) (a - splN (xs.length : Int)) = bsAt xs a := by
          unfold bsAt
          by_cases hpar : a % 2 = 0
          · rw [if_pos hpar, if_pos (by omega), getD_drop']
            congr 1
            omega
          · rw [if_neg hpar, if_neg (by omega), getD_drop']
            congr 1
            omega
        have e4 : a / 2 - splN (xs.length : Int) / 2 = (a - splN (xs.length : Int)) / 2 := by omega
        rw [a1, b1, e4]
        simp

end Go.Proofs.YtlmjppglaolccaaDoor
