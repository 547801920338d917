/- Plain facts: the greatest power of 2 below a size. Plain facts: a path is climbed from its last number, split by split, as it is from its first, level by level. Plain facts: the root of a log and the path of a leaf, split by split, are what comes of it level by level. Plain facts: the growth of a log's first leaves, split by split; how long it is, and what comes of it. -/
import Derived.Test.YtkjhcblfkpknlaaDoorFrame
namespace Go.Proofs.YtkjhcblfkpknlaaDoor
open Go.ChangeShapes Go.WideShapes Go.ChangeAt Go.RowKit
set_option linter.unusedVariables false
set_option linter.unusedSimpArgs false

/-- The greatest power of 2 below n (1 for all that is at most 2), for n up to 32. -/
def splN (n : Int) : Int := if n ≤ 2 then 1 else if n ≤ 4 then 2 else if n ≤ 8 then 4 else if n ≤ 16 then 8 else 16
/-- A power of 2 that the search may stand at. -/
def IsPow (k : Int) : Prop := k = 1 ∨ k = 2 ∨ k = 4 ∨ k = 8 ∨ k = 16
theorem splN_step {k n : Int} (h : IsPow k) (hn : n ≤ 32) (hlt : 2 * k < n) : IsPow (2 * k) := by unfold IsPow at *; omega
theorem splN_end {k n : Int} (h : IsPow k) (hk : k = 1 ∨ k < n) (hn : n ≤ 32) (hlt : ¬ 2 * k < n) : k = splN n := by
  unfold IsPow at h; unfold splN; omega
theorem splN_bd {n : Int} (h : 2 ≤ n) (hn : n ≤ 32) : 1 ≤ splN n ∧ splN n < n ∧ n ≤ 2 * splN n := by unfold splN; omega
theorem splN_pow (n : Int) : IsPow (splN n) := by unfold splN IsPow; omega

end Go.Proofs.YtkjhcblfkpknlaaDoor

namespace Go.Proofs.YtkjhcblfkpknlaaDoor
open Go.ChangeShapes Go.WideShapes Go.ChangeAt Go.RowKit
set_option linter.unusedVariables false
set_option linter.unusedSimpArgs false

theorem splN_pos (n : Int) : 1 ≤ splN n := by unfold splN; omega
theorem splN_lt {n : Int} (h : 2 ≤ n) : splN n < n := by unfold splN; omega
/-- How long the path of a place is. -/
def stN (at' size : Int) : Nat :=
  if h : size ≤ 1 then 0 else if at' < splN size then stN at' (splN size) + 1 else stN (at' - splN size) (size - splN size) + 1
termination_by size.toNat
decreasing_by
  · have := splN_lt (n := size) (by omega); omega
  · have := splN_pos size; omega
/-- What a leaf comes to with a path, from its last number on. -/
def clM (f : Int → Int → Int) (leaf at' size : Int) (path : List Int) : Int :=
  if h : size ≤ 1 then leaf else if at' < splN size then f (clM f leaf at' (splN size) path.dropLast) (path.getLastD 0) else f (path.getLastD 0) (clM f leaf (at' - splN size) (size - splN size) path.dropLast)
termination_by size.toNat
decreasing_by
  · have := splN_lt (n := size) (by omega); omega
  · have := splN_pos size; omega
/-- Whether a place of a level has none beside it. -/
def alone (at' size : Int) : Bool := decide (at' % 2 = 0 ∧ at' = size - 1)
/-- A pair, joined: the one that stands at a place, and the one beside it. -/
def joinAt (f : Int → Int → Int) (at' own other : Int) : Int := if at' % 2 = 0 then f own other else f other own
theorem splN_two : splN 2 = 1 := by decide
theorem splN_half {n : Int} (h : 3 ≤ n) (hn : n ≤ 32) : splN n = 2 * splN ((n + 1) / 2) := by unfold splN; omega
theorem stN_le (a s : Int) (h : s ≤ 1) : stN a s = 0 := by rw [stN, dif_pos h]
theorem stN_lo {a s : Int} (h : 2 ≤ s) (ha : a < splN s) : stN a s = stN a (splN s) + 1 := by rw [stN, dif_neg (by omega), if_pos ha]
theorem stN_hi {a s : Int} (h : 2 ≤ s) (ha : ¬ a < splN s) : stN a s = stN (a - splN s) (s - splN s) + 1 := by rw [stN, dif_neg (by omega), if_neg ha]
theorem clM_le (f) (l a s : Int) (p) (h : s ≤ 1) : clM f l a s p = l := by rw [clM, dif_pos h]
theorem clM_lo (f) {l a s : Int} (p) (h : 2 ≤ s) (ha : a < splN s) : clM f l a s p = f (clM f l a (splN s) p.dropLast) (p.getLastD 0) := by rw [clM, dif_neg (by omega), if_pos ha]
theorem clM_hi (f) {l a s : Int} (p) (h : 2 ≤ s) (ha : ¬ a < splN s) : clM f l a s p = f (p.getLastD 0) (clM f l (a - splN s) (s - splN s) p.dropLast) := by rw [clM, dif_neg (by omega), if_neg ha]
theorem half_split {s : Int} (h : 3 ≤ s) (hs : s ≤ 32) : splN s / 2 = splN ((s + 1) / 2) ∧ splN s % 2 = 0 ∧ 2 ≤ splN s ∧ splN s < s ∧ s ≤ 2 * splN s := by
  have h1 := splN_half h hs; have h2 := splN_pos ((s + 1) / 2); have h3 := splN_bd (n := s) (by omega) hs; omega
/-- One level up: how long the path is. -/
theorem stN_up (n : Nat) : ∀ (a s : Int), s.toNat ≤ n → 2 ≤ s → s ≤ 32 → 0 ≤ a → a < s → stN a s = stN (a / 2) ((s + 1) / 2) + (if alone a s then 0 else 1) := by
  induction n with
  | zero => intro a s h; omega
  | succ n ih =>
    intro a s hn h2 h32 ha has
    by_cases hs : s = 2
    · subst hs
      have e1 : stN (a / 2) ((2 + 1) / 2) = 0 := stN_le _ _ (by omega)
      rw [e1]
      have hal : alone a 2 = false := by simp [alone]; omega
      rw [hal]
      by_cases h0 : a < splN 2
      · rw [stN_lo (by omega) h0, splN_two, stN_le _ _ (by omega)]; rfl
      · rw [stN_hi (by omega) h0, splN_two, stN_le _ _ (by omega)]; rfl
    · obtain ⟨q1, q2, q3, q4, q5⟩ := half_split (s := s) (by omega) h32
      by_cases h0 : a < splN s
      · rw [stN_lo h2 h0, stN_lo (s := (s + 1) / 2) (by omega) (by omega)]
        rw [ih a (splN s) (by omega) (by omega) (by omega) ha h0]
        have e : (splN s + 1) / 2 = splN ((s + 1) / 2) := by omega
        rw [e]
        have a1 : alone a s = false := by simp [alone]; omega
        have a2 : alone a (splN s) = false := by simp [alone]; omega
        rw [a1, a2]
        simp
      · rw [stN_hi h2 h0, stN_hi (s := (s + 1) / 2) (by omega) (by omega)]
        have ea : a / 2 - splN ((s + 1) / 2) = (a - splN s) / 2 := by omega
        have es : (s + 1) / 2 - splN ((s + 1) / 2) = (s - splN s + 1) / 2 := by omega
        rw [ea, es]
        have al : alone a s = alone (a - splN s) (s - splN s) := by simp only [alone]; rw [decide_eq_decide]; omega
        rw [al]
        by_cases h1 : s - splN s = 1
        · rw [h1, stN_le _ _ (by omega), stN_le _ _ (by omega)]
          have : alone (a - splN s) 1 = true := by simp [alone]; omega
          rw [this]; rfl
        · rw [ih (a - splN s) (s - splN s) (by omega) (by omega) (by omega) (by omega) (by omega)]; omega
theorem dl_cons {p q : Int} (xs : List Int) : (p :: q :: xs).dropLast = p :: (q :: xs).dropLast := rfl
theorem gl_cons {p q : Int} (xs : List Int) : (p :: q :: xs).getLastD 0 = (q :: xs).getLastD 0 := rfl
theorem cons_of_len {xs : List Int} {n : Nat} (h : xs.length = n + 1) : ∃ q ys, xs = q :: ys := by
  cases xs with
  | nil => simp at h
  | cons q ys => exact ⟨q, ys, rfl⟩
/-- One level up where none stands beside. -/
theorem clM_alone (f : Int → Int → Int) (n : Nat) : ∀ (l a s : Int) (p : List Int), s.toNat ≤ n → 2 ≤ s → s ≤ 32 → 0 ≤ a → a < s → alone a s = true → clM f l a s p = clM f l (a / 2) ((s + 1) / 2) p := by
  induction n with
  | zero => intro l a s p h; omega
  | succ n ih =>
    intro l a s p hn h2 h32 ha has hal
    have hal' : a % 2 = 0 ∧ a = s - 1 := by simpa [alone] using hal
    obtain ⟨q1, q2, q3, q4, q5⟩ := half_split (s := s) (by omega) h32
    have h0 : ¬ a < splN s := by omega
    rw [clM_hi f p h2 h0, clM_hi f (s := (s + 1) / 2) p (by omega) (by omega)]
    have ea : a / 2 - splN ((s + 1) / 2) = (a - splN s) / 2 := by omega
    have es : (s + 1) / 2 - splN ((s + 1) / 2) = (s - splN s + 1) / 2 := by omega
    rw [ea, es]
    by_cases h1 : s - splN s = 1
    · rw [h1, clM_le _ _ _ _ _ (by omega), clM_le _ _ _ _ _ (by omega)]
    · rw [ih l (a - splN s) (s - splN s) p.dropLast (by omega) (by omega) (by omega) (by omega) (by omega) (by simp [alone]; omega)]
/-- One level up where one stands beside. -/
theorem clM_pair (f : Int → Int → Int) (n : Nat) : ∀ (l a s p0 : Int) (p : List Int), s.toNat ≤ n → 2 ≤ s → s ≤ 32 → 0 ≤ a → a < s → alone a s = false → p.length = stN (a / 2) ((s + 1) / 2) → clM f l a s (p0 :: p) = clM f (joinAt f a l p0) (a / 2) ((s + 1) / 2) p := by
  induction n with
  | zero => intro l a s p0 p h; omega
  | succ n ih =>
    intro l a s p0 p hn h2 h32 ha has hal hlen
    have hal' : ¬ (a % 2 = 0 ∧ a = s - 1) := by simpa [alone] using hal
    by_cases hs : s = 2
    · subst hs
      have e1 : stN (a / 2) ((2 + 1) / 2) = 0 := stN_le _ _ (by omega)
      rw [e1] at hlen
      obtain rfl : p = [] := List.eq_nil_of_length_eq_zero hlen
      rw [clM_le _ _ _ ((2 + 1) / 2) _ (by omega)]
      by_cases h0 : a < splN 2
      · rw [clM_lo f _ (by omega) h0, splN_two, clM_le _ _ _ _ _ (by omega)]
        rw [splN_two] at h0
        unfold joinAt; rw [if_pos (by omega)]; rfl
      · rw [clM_hi f _ (by omega) h0, splN_two, clM_le _ _ _ _ _ (by omega)]
        rw [splN_two] at h0
        unfold joinAt; rw [if_neg (by omega)]; rfl
    · obtain ⟨q1, q2, q3, q4, q5⟩ := half_split (s := s) (by omega) h32
      by_cases h0 : a < splN s
      · rw [stN_lo (s := (s + 1) / 2) (by omega) (by omega)] at hlen
        obtain ⟨q, ys, rfl⟩ := cons_of_len hlen
        rw [clM_lo f _ h2 h0, clM_lo f (s := (s + 1) / 2) _ (by omega) (by omega), dl_cons, gl_cons]
        have e : (splN s + 1) / 2 = splN ((s + 1) / 2) := by omega
        rw [ih l a (splN s) p0 _ (by omega) (by omega) (by omega) ha h0 (by simp [alone]; omega) (by rw [e]; simp at hlen ⊢; omega), e]
      · rw [stN_hi (s := (s + 1) / 2) (by omega) (by omega)] at hlen
        obtain ⟨q, ys, rfl⟩ := cons_of_len hlen
        rw [clM_hi f _ h2 h0, clM_hi f (s := (s + 1) / 2) _ (by omega) (by omega), dl_cons, gl_cons]
        have ea : a / 2 - splN ((s + 1) / 2) = (a - splN s) / 2 := by omega
        have es : (s + 1) / 2 - splN ((s + 1) / 2) = (s - splN s + 1) / 2 := by omega
        rw [ea, es] at hlen ⊢
        rw [ih l (a - splN s) (s - splN s) p0 _ (by omega) (by omega) (by omega) (by omega) (by omega) (by simp [alone]; omega) (by simp at hlen ⊢; omega)]
        have ej : joinAt f (a - splN s) l p0 = joinAt f a l p0 := by unfold joinAt; rw [show (a - splN s) % 2 = a % 2 by omega]
        rw [ej]
theorem stN_bd (n : Nat) : ∀ (a s : Int), s.toNat ≤ n → s ≤ 24 → 0 ≤ a → a < s → stN a s ≤ 5 := by
  intro a s _ hs ha has
  have key : ∀ (m : Nat) (a s : Int), s ≤ 2 ^ m → m ≤ 5 → stN a s ≤ m := by
    intro m
    induction m with
    | zero => intro a s h _; rw [stN_le _ _ (by simpa using h)]; omega
    | succ m ih =>
      intro a s h hm
      by_cases h1 : s ≤ 1
      · rw [stN_le _ _ h1]; omega
      · have hp : (2 : Int) ^ (m + 1) = 2 * 2 ^ m := by rw [Int.pow_succ]; omega
        have h32 : (2 : Int) ^ (m + 1) ≤ 32 := by
          have : m + 1 = 1 ∨ m + 1 = 2 ∨ m + 1 = 3 ∨ m + 1 = 4 ∨ m + 1 = 5 := by omega
          rcases this with e | e | e | e | e <;> rw [e] <;> decide
        have hk : splN s ≤ 2 ^ m := by
          have : m = 0 ∨ m = 1 ∨ m = 2 ∨ m = 3 ∨ m = 4 := by omega
          rcases this with e | e | e | e | e <;> subst e <;> simp at h ⊢ <;> unfold splN <;> omega
        have hb := splN_bd (n := s) (by omega) (by omega)
        by_cases h0 : a < splN s
        · rw [stN_lo (by omega) h0]; have := ih a (splN s) hk (by omega); omega
        · rw [stN_hi (by omega) h0]; have := ih (a - splN s) (s - splN s) (by omega) (by omega); omega
  exact key 5 a s (by simp; omega) (by omega)

end Go.Proofs.YtkjhcblfkpknlaaDoor

namespace Go.Proofs.YtkjhcblfkpknlaaDoor
open Go.ChangeShapes Go.WideShapes Go.ChangeAt Go.RowKit
set_option linter.unusedVariables false
set_option linter.unusedSimpArgs false

/-- The root of a log, split by split. -/
def rtM (f : Int → Int → Int) (e : Int) (xs : List Int) : Int :=
  if h : xs.length ≤ 1 then xs.headD e else f (rtM f e (xs.take (splN xs.length).toNat)) (rtM f e (xs.drop (splN xs.length).toNat))
termination_by xs.length
decreasing_by
  · have h1 := splN_lt (n := xs.length) (by omega); simp; omega
  · have h1 := splN_pos xs.length; simp; omega
/-- The path of a place, split by split. -/
def ptM (f : Int → Int → Int) (e : Int) (xs : List Int) (a : Int) : List Int :=
  if h : xs.length ≤ 1 then [] else if a < splN xs.length then ptM f e (xs.take (splN xs.length).toNat) a ++ [rtM f e (xs.drop (splN xs.length).toNat)] else ptM f e (xs.drop (splN xs.length).toNat) (a - splN xs.length) ++ [rtM f e (xs.take (splN xs.length).toNat)]
termination_by xs.length
decreasing_by
  · have h1 := splN_lt (n := xs.length) (by omega); simp; omega
  · have h1 := splN_pos xs.length; simp; omega
theorem rtM_le (f : Int → Int → Int) (e : Int) {xs : List Int} (h : xs.length ≤ 1) : rtM f e xs = xs.headD e := by rw [rtM, dif_pos h]
theorem rtM_gt (f : Int → Int → Int) (e : Int) {xs : List Int} (h : 2 ≤ xs.length) : rtM f e xs = f (rtM f e (xs.take (splN xs.length).toNat)) (rtM f e (xs.drop (splN xs.length).toNat)) := by rw [rtM, dif_neg (by omega)]
theorem ptM_le (f : Int → Int → Int) (e : Int) {xs : List Int} (a : Int) (h : xs.length ≤ 1) : ptM f e xs a = [] := by rw [ptM, dif_pos h]
theorem ptM_lo (f : Int → Int → Int) (e : Int) {xs : List Int} {a : Int} (h : 2 ≤ xs.length) (ha : a < splN xs.length) : ptM f e xs a = ptM f e (xs.take (splN xs.length).toNat) a ++ [rtM f e (xs.drop (splN xs.length).toNat)] := by rw [ptM, dif_neg (by omega), if_pos ha]
theorem ptM_hi (f : Int → Int → Int) (e : Int) {xs : List Int} {a : Int} (h : 2 ≤ xs.length) (ha : ¬ a < splN xs.length) : ptM f e xs a = ptM f e (xs.drop (splN xs.length).toNat) (a - splN xs.length) ++ [rtM f e (xs.take (splN xs.length).toNat)] := by rw [ptM, dif_neg (by omega), if_neg ha]
/-- One level up: each pair joined; one that is alone goes up as it is. -/
def upL (f : Int → Int → Int) : List Int → List Int
  | [] => []
  | [a] => [a]
  | a :: b :: xs => f a b :: upL f xs
theorem upL_len (f : Int → Int → Int) : ∀ xs : List Int, (upL f xs).length = (xs.length + 1) / 2
  | [] => rfl
  | [_] => by simp [upL]
  | _ :: _ :: xs => by simp only [upL, List.length_cons, upL_len f xs]; omega
theorem upL_app (f : Int → Int → Int) : ∀ (xs ys : List Int), xs.length % 2 = 0 → upL f (xs ++ ys) = upL f xs ++ upL f ys
  | [], _, _ => rfl
  | [_], _, h => by simp at h
  | a :: b :: xs, ys, h => by
    have := upL_app f xs ys (by simp at h; omega)
    simp only [List.cons_append, upL, this]
theorem upL_take (f : Int → Int → Int) (xs : List Int) (k : Nat) (hk : k % 2 = 0) (hl : k ≤ xs.length) : (upL f xs).take (k / 2) = upL f (xs.take k) := by
  have e := upL_app f (xs.take k) (xs.drop k) (by simp; omega)
  rw [List.take_append_drop] at e
  rw [e, List.take_append_of_le_length (by rw [upL_len]; simp; omega), List.take_of_length_le (by rw [upL_len]; simp; omega)]
theorem upL_drop (f : Int → Int → Int) (xs : List Int) (k : Nat) (hk : k % 2 = 0) (hl : k ≤ xs.length) : (upL f xs).drop (k / 2) = upL f (xs.drop k) := by
  have e := upL_app f (xs.take k) (xs.drop k) (by simp; omega)
  rw [List.take_append_drop] at e
  have hl2 : (upL f (xs.take k)).length = k / 2 := by rw [upL_len]; simp; omega
  rw [e, List.drop_append, hl2, Nat.sub_self, List.drop_zero, List.drop_of_length_le (by omega), List.nil_append]
theorem upL_spl {xs : List Int} (f : Int → Int → Int) (h : 3 ≤ xs.length) (h32 : xs.length ≤ 32) : (splN ((upL f xs).length : Int)).toNat = (splN (xs.length : Int)).toNat / 2 ∧ (splN (xs.length : Int)).toNat % 2 = 0 ∧ (splN (xs.length : Int)).toNat ≤ xs.length ∧ splN ((upL f xs).length : Int) = splN (xs.length : Int) / 2 := by
  obtain ⟨q1, q2, q3, q4, q5⟩ := half_split (s := (xs.length : Int)) (by omega) (by omega)
  rw [upL_len]
  have e : (((xs.length + 1) / 2 : Nat) : Int) = ((xs.length : Int) + 1) / 2 := by omega
  rw [e, ← q1]
  omega
/-- The root is that of the next level. -/
theorem rtM_up (f : Int → Int → Int) (e : Int) (n : Nat) : ∀ xs : List Int, xs.length ≤ n → 1 ≤ xs.length → xs.length ≤ 32 → rtM f e (upL f xs) = rtM f e xs := by
  induction n with
  | zero => intro xs h h1; omega
  | succ n ih =>
    intro xs hn h1 h32
    match xs, h1 with
    | [a], _ => rfl
    | [a, b], _ =>
      rw [rtM_gt f e (xs := [a, b]) (by simp), rtM_le f e (xs := upL f [a, b]) (by simp [upL])]
      have e2 : (splN (([a, b] : List Int).length : Int)).toNat = 1 := by simp [splN]
      rw [e2]
      simp [upL, rtM_le]
    | a :: b :: c :: ys, _ =>
      generalize hx : a :: b :: c :: ys = xs at *
      have h3 : 3 ≤ xs.length := by rw [← hx]; simp
      obtain ⟨q1, q2, q3, q4⟩ := upL_spl f h3 h32
      have hp := splN_pos (xs.length : Int)
      have hlt := splN_lt (n := (xs.length : Int)) (by omega)
      rw [rtM_gt f e (xs := upL f xs) (by rw [upL_len]; omega), rtM_gt f e (xs := xs) (by omega), q1, upL_take f xs _ q2 q3, upL_drop f xs _ q2 q3]
      rw [ih _ (by simp; omega) (by simp; omega) (by simp; omega), ih _ (by simp; omega) (by simp; omega) (by simp; omega)]
/-- The one that stands beside a place. -/
def bsAt (xs : List Int) (a : Int) : Int := if a % 2 = 0 then xs.getD (a.toNat + 1) 0 else xs.getD (a.toNat - 1) 0
theorem getD_take' (xs : List Int) (i k : Nat) (h : i < k) : (xs.take k).getD i 0 = xs.getD i 0 := by
  simp only [List.getD_eq_getElem?_getD, List.getElem?_take, if_pos h]
theorem getD_drop' (xs : List Int) (i k : Nat) : (xs.drop k).getD i 0 = xs.getD (k + i) 0 := by
  simp only [List.getD_eq_getElem?_getD, List.getElem?_drop]
/-- The path is the one beside, if there is one, and the path of the next level. -/
theorem ptM_up (f : Int → Int → Int) (e : Int) (n : Nat) : ∀ (xs : List Int) (a : Int), xs.length ≤ n → 1 ≤ xs.length → xs.length ≤ 32 → 0 ≤ a → a < xs.length → ptM f e xs a = (if alone a xs.length = true then [] else [bsAt xs a]) ++ ptM f e (upL f xs) (a / 2) := by
  induction n with
  | zero => intro xs a h h1; omega
  | succ n ih =>
    intro xs a hn h1 h32 ha0 ha
    match xs, h1 with
    | [x], _ =>
      simp at ha
      obtain rfl : a = 0 := by omega
      rw [ptM_le f e _ (by simp), ptM_le f e _ (by simp [upL])]
      rfl
    | [x, y], _ =>
      simp at ha
      have e2 : (splN (([x, y] : List Int).length : Int)) = 1 := by simp [splN]
      have e3 : (splN (([x, y] : List Int).length : Int)).toNat = 1 := by simp [splN]
      rw [ptM_le f e (xs := upL f [x, y]) _ (by simp [upL])]
      by_cases h0 : a = 0
      · subst h0
        rw [ptM_lo f e (by simp) (by rw [e2]; omega), e3, ptM_le f e _ (by simp)]
        simp [alone, bsAt, rtM_le]
      · obtain rfl : a = 1 := by omega
        rw [ptM_hi f e (by simp) (by rw [e2]; omega), e3, ptM_le f e _ (by simp)]
        simp [alone, bsAt, rtM_le]
    | x :: y :: z :: ys, _ =>
      generalize hx : x :: y :: z :: ys = xs at *
      have h3 : 3 ≤ xs.length := by rw [← hx]; simp
      obtain ⟨q1, q2, q3, q4⟩ := upL_spl f h3 h32
      have hp := splN_pos (xs.length : Int)
      have hlt := splN_lt (n := (xs.length : Int)) (by omega)
      have hl2 : 2 ≤ (upL f xs).length := by rw [upL_len]; omega
      have r1 := rtM_up f e _ (xs.drop (splN xs.length).toNat) (Nat.le_refl _) (by simp; omega) (by simp; omega)
      have r2 := rtM_up f e _ (xs.take (splN xs.length).toNat) (Nat.le_refl _) (by simp; omega) (by simp; omega)
      have tl : (xs.take (splN (xs.length : Int)).toNat).length = (splN (xs.length : Int)).toNat := by simp; omega
      have dl : (xs.drop (splN (xs.length : Int)).toNat).length = xs.length - (splN (xs.length : Int)).toNat := by simp
      by_cases h0 : a < splN xs.length
      · rw [ptM_lo f e (by omega) h0, ptM_lo f e (xs := upL f xs) hl2 (by omega), q1, upL_take f xs _ q2 q3, upL_drop f xs _ q2 q3, r1]
        rw [ih (xs.take (splN xs.length).toNat) a (by omega) (by omega) (by omega) ha0 (by omega), tl]
        have a1 : alone a xs.length = false := by simp [alone]; omega
        have a2 : alone a (((splN (xs.length : Int)).toNat : Nat) : Int) = false := by simp [alone]; omega
        have b1 : bsAt (xs.take (splN (xs.length : Int)).toNat) a = bsAt xs a := by
          unfold bsAt
          split
          · rw [getD_take' _ _ _ (by omega)]
          · rw [getD_take' _ _ _ (by omega)]
        rw [a1, a2, b1]
        simp
      · rw [ptM_hi f e (by omega) h0, ptM_hi f e (xs := upL f xs) hl2 (by omega), q1, upL_take f xs _ q2 q3, upL_drop f xs _ q2 q3, r2]
        rw [ih (xs.drop (splN xs.length).toNat) (a - splN xs.length) (by omega) (by omega) (by omega) (by omega) (by omega), dl, q4]
        have a1 : alone (a - splN (xs.length : Int)) ((xs.length - (splN (xs.length : Int)).toNat : Nat) : Int) = alone a xs.length := by simp only [alone]; rw [decide_eq_decide]; omega
        have b1 : bsAt (xs.drop (splN (xs.length : Int)).toNat) (a - splN (xs.length : Int)) = bsAt xs a := by
          unfold bsAt
          by_cases hpar : a % 2 = 0
          · rw [if_pos hpar, if_pos (by omega), getD_drop']
            congr 1
            omega
          · rw [if_neg hpar, if_neg (by omega), getD_drop']
            congr 1
            omega
        have e4 : a / 2 - splN (xs.length : Int) / 2 = (a - splN (xs.length : Int)) / 2 := by omega
        rw [a1, b1, e4]
        simp

end Go.Proofs.YtkjhcblfkpknlaaDoor

namespace Go.Proofs.YtkjhcblfkpknlaaDoor
open Go.ChangeShapes Go.WideShapes Go.ChangeAt Go.RowKit
set_option linter.unusedVariables false
set_option linter.unusedSimpArgs false

/-- The growth of the first leaves of a log. -/
def grM (f : Int → Int → Int) (e : Int) (xs : List Int) (s : Int) (wh : Bool) : List Int :=
  if h : s = xs.length ∨ xs.length ≤ 1 then (if wh then [] else [rtM f e xs]) else if s ≤ splN xs.length then grM f e (xs.take (splN xs.length).toNat) s wh ++ [rtM f e (xs.drop (splN xs.length).toNat)] else grM f e (xs.drop (splN xs.length).toNat) (s - splN xs.length) false ++ [rtM f e (xs.take (splN xs.length).toNat)]
termination_by xs.length
decreasing_by
  · have h1 := splN_lt (n := xs.length) (by omega); simp; omega
  · have h1 := splN_pos xs.length; simp; omega
/-- How many that has. -/
def gsN (s t : Int) (wh : Bool) : Nat :=
  if h : s = t ∨ t ≤ 1 then (if wh then 0 else 1) else if s ≤ splN t then gsN s (splN t) wh + 1 else gsN (s - splN t) (t - splN t) false + 1
termination_by t.toNat
decreasing_by
  · have := splN_lt (n := t) (by omega); omega
  · have := splN_pos t; omega
/-- What comes of a growth: for the first leaves, and for all. -/
def grR (f : Int → Int → Int) (s t : Int) (wh : Bool) (root : Int) (path : List Int) : Int × Int :=
  if h : s = t ∨ t ≤ 1 then (if wh then (root, root) else (path.getD 0 0, path.getD 0 0)) else if s ≤ splN t then ((grR f s (splN t) wh root path.dropLast).1, f (grR f s (splN t) wh root path.dropLast).2 (path.getLastD 0)) else (f (path.getLastD 0) (grR f (s - splN t) (t - splN t) false root path.dropLast).1, f (path.getLastD 0) (grR f (s - splN t) (t - splN t) false root path.dropLast).2)
termination_by t.toNat
decreasing_by
  all_goals (have h1 := splN_lt (n := t) (by omega); have h2 := splN_pos t; omega)
theorem grM_eq (f : Int → Int → Int) (e : Int) {xs : List Int} {s : Int} (wh : Bool) (h : s = xs.length) : grM f e xs s wh = if wh then [] else [rtM f e xs] := by rw [grM, dif_pos (.inl h)]
theorem grM_lo (f : Int → Int → Int) (e : Int) {xs : List Int} {s : Int} (wh : Bool) (h : 2 ≤ xs.length) (hs : s ≤ splN xs.length) : grM f e xs s wh = grM f e (xs.take (splN xs.length).toNat) s wh ++ [rtM f e (xs.drop (splN xs.length).toNat)] := by
  have h1 := splN_lt (n := xs.length) (by omega)
  rw [grM, dif_neg (by omega), if_pos hs]
theorem grM_hi (f : Int → Int → Int) (e : Int) {xs : List Int} {s : Int} (wh : Bool) (h : 2 ≤ xs.length) (hs : ¬ s ≤ splN xs.length) (hl : s < xs.length) : grM f e xs s wh = grM f e (xs.drop (splN xs.length).toNat) (s - splN xs.length) false ++ [rtM f e (xs.take (splN xs.length).toNat)] := by rw [grM, dif_neg (by omega), if_neg hs]
theorem gsN_eq {s t : Int} (wh : Bool) (h : s = t) : gsN s t wh = if wh then 0 else 1 := by rw [gsN, dif_pos (.inl h)]
theorem gsN_lo {s t : Int} (wh : Bool) (h : 2 ≤ t) (hs : s ≤ splN t) : gsN s t wh = gsN s (splN t) wh + 1 := by
  have h1 := splN_lt (n := t) (by omega)
  rw [gsN, dif_neg (by omega), if_pos hs]
theorem gsN_hi {s t : Int} (wh : Bool) (h : 2 ≤ t) (hs : ¬ s ≤ splN t) (hl : s < t) : gsN s t wh = gsN (s - splN t) (t - splN t) false + 1 := by rw [gsN, dif_neg (by omega), if_neg hs]
theorem grR_eq (f : Int → Int → Int) {s t : Int} (wh : Bool) (r : Int) (p : List Int) (h : s = t) : grR f s t wh r p = if wh then (r, r) else (p.getD 0 0, p.getD 0 0) := by rw [grR, dif_pos (.inl h)]
theorem grR_lo (f : Int → Int → Int) {s t : Int} (wh : Bool) (r : Int) (p : List Int) (h : 2 ≤ t) (hs : s ≤ splN t) : grR f s t wh r p = ((grR f s (splN t) wh r p.dropLast).1, f (grR f s (splN t) wh r p.dropLast).2 (p.getLastD 0)) := by
  have h1 := splN_lt (n := t) (by omega)
  rw [grR, dif_neg (by omega), if_pos hs]
theorem grR_hi (f : Int → Int → Int) {s t : Int} (wh : Bool) (r : Int) (p : List Int) (h : 2 ≤ t) (hs : ¬ s ≤ splN t) (hl : s < t) : grR f s t wh r p = (f (p.getLastD 0) (grR f (s - splN t) (t - splN t) false r p.dropLast).1, f (p.getLastD 0) (grR f (s - splN t) (t - splN t) false r p.dropLast).2) := by rw [grR, dif_neg (by omega), if_neg hs]
/-- What lies behind the split of a log is split where the log is. -/
theorem splN_same {s t : Int} (h2 : 2 ≤ t) (h32 : t ≤ 32) (h : splN t < s) (hs : s ≤ t) : splN s = splN t := by unfold splN at *; omega
/-- A growth is as long as it should be, and leads to both roots. -/
theorem grM_main (f : Int → Int → Int) (e : Int) (n : Nat) : ∀ (xs : List Int) (s : Int) (wh : Bool) (r : Int), xs.length ≤ n → 1 ≤ xs.length → xs.length ≤ 32 → 1 ≤ s → s ≤ xs.length → (wh = true → r = rtM f e (xs.take s.toNat)) → (grM f e xs s wh).length = gsN s xs.length wh ∧ grR f s xs.length wh r (grM f e xs s wh) = (rtM f e (xs.take s.toNat), rtM f e xs) := by
  induction n with
  | zero => intro xs s wh r h h1; omega
  | succ n ih =>
    intro xs s wh r hn h1 h32 hs0 hs1 hr
    by_cases ho : s = xs.length
    · rw [grM_eq f e wh ho, gsN_eq wh ho, grR_eq f wh _ _ ho]
      have ht : xs.take s.toNat = xs := List.take_of_length_le (by omega)
      rw [ht] at hr ⊢
      cases wh
      · exact ⟨rfl, rfl⟩
      · rw [hr rfl]; exact ⟨rfl, rfl⟩
    · have hs : (2 : Int) ≤ xs.length := by omega
      obtain ⟨q1, q2, q3⟩ := splN_bd hs (by omega)
      obtain ⟨m, hm⟩ : ∃ m : Nat, splN (xs.length : Int) = m := ⟨(splN (xs.length : Int)).toNat, by omega⟩
      have tl : (xs.take m).length = m := by simp; omega
      have dl : (xs.drop m).length = xs.length - m := by simp
      by_cases h0 : s ≤ splN xs.length
      · have tt : (xs.take m).take s.toNat = xs.take s.toNat := by rw [List.take_take, Nat.min_eq_left (by omega)]
        obtain ⟨e1, e2⟩ := ih (xs.take m) s wh r (by omega) (by omega) (by omega) hs0 (by omega) (by rw [tt]; exact hr)
        rw [tl] at e1 e2
        rw [grM_lo f e wh (by omega) h0, gsN_lo wh hs h0, grR_lo f wh _ _ hs h0, rtM_gt f e (xs := xs) (by omega), hm]
        rw [show ((m : Int)).toNat = m from rfl, List.dropLast_concat, List.getLastD_concat, e2, tt]
        exact ⟨by rw [List.length_append, e1]; rfl, rfl⟩
      · have hl : s < xs.length := by omega
        have e3 : ((xs.length - m : Nat) : Int) = xs.length - m := by omega
        obtain ⟨e1, e2⟩ := ih (xs.drop m) (s - m) false r (by omega) (by omega) (by omega) (by omega) (by omega) (by simp)
        rw [dl, e3] at e1 e2
        have hsp := splN_same hs (by omega) (by omega) hs1
        have l1 : (xs.take s.toNat).length = s.toNat := by simp; omega
        have ho1 : rtM f e (xs.take s.toNat) = f (rtM f e (xs.take m)) (rtM f e ((xs.drop m).take (s - m).toNat)) := by
          have hn1 : ((s.toNat : Nat) : Int) = s := by omega
          rw [rtM_gt f e (xs := xs.take s.toNat) (by omega), l1, hn1, hsp, hm]
          rw [show ((m : Int)).toNat = m from rfl, List.take_take, Nat.min_eq_left (by omega), List.drop_take, show s.toNat - m = (s - (m : Int)).toNat by omega]
        rw [grM_hi f e wh (by omega) h0 hl, gsN_hi wh hs h0 hl, grR_hi f wh _ _ hs h0 hl, rtM_gt f e (xs := xs) (by omega), hm]
        rw [show ((m : Int)).toNat = m from rfl, List.dropLast_concat, List.getLastD_concat, e2, ho1]
        exact ⟨by rw [List.length_append, e1]; rfl, rfl⟩
/-- A growth has six at most. -/
theorem gsN_bd (j : Nat) : ∀ (s t : Int) (wh : Bool), j ≤ 5 → 1 ≤ s → s ≤ t → t ≤ 2 ^ j → gsN s t wh ≤ j + 1 := by
  induction j with
  | zero =>
    intro s t wh _ h1 h2 h3
    rw [gsN_eq wh (by simp at h3; omega)]
    cases wh <;> simp
  | succ j ih =>
    intro s t wh hj h1 h2 h3
    by_cases ho : s = t
    · rw [gsN_eq wh ho]; cases wh <;> simp
    · have hb : (2 : Int) ^ (j + 1) ≤ 32 := by
        have hj2 : j = 0 ∨ j = 1 ∨ j = 2 ∨ j = 3 ∨ j = 4 := by omega
        rcases hj2 with rfl | rfl | rfl | rfl | rfl <;> decide
      have hk : splN t ≤ 2 ^ j ∧ t - splN t ≤ 2 ^ j := by
        obtain ⟨q1, q2, q3⟩ := splN_bd (n := t) (by omega) (by omega)
        have hj2 : j = 0 ∨ j = 1 ∨ j = 2 ∨ j = 3 ∨ j = 4 := by omega
        rcases hj2 with rfl | rfl | rfl | rfl | rfl <;> simp at h3 ⊢ <;> unfold splN at * <;> omega
      by_cases h0 : s ≤ splN t
      · rw [gsN_lo wh (by omega) h0]
        have := ih s (splN t) wh (by omega) h1 h0 hk.1
        omega
      · rw [gsN_hi wh (by omega) h0 (by omega)]
        have := ih (s - splN t) (t - splN t) false (by omega) (by omega) (by omega) hk.2
        omega
/-- A growth that is not whole has one at least. -/
theorem gsN_pos (s t : Int) : 1 ≤ gsN s t false := by
  rw [gsN]
  split
  · simp
  · split <;> omega
/-- The code of StepsOf. -/
def spC (s t : Int) : Int := if (1 ≤ t ∧ t ≤ 24) ∧ 1 ≤ s ∧ s ≤ t then 0 else 3
/-- What StepsOf tells. -/
def spV (s t : Int) : Int := if (1 ≤ t ∧ t ≤ 24) ∧ 1 ≤ s ∧ s ≤ t then (gsN s t true : Nat) else 0

end Go.Proofs.YtkjhcblfkpknlaaDoor
