/- Plain facts: a path is climbed from its last number, split by split, as it is from its first, level by level. -/
import Derived.Test.YtlmjppglaolccaaDoorSplitD
namespace Go.Proofs.YtlmjppglaolccaaDoor
open Go.ChangeShapes Go.WideShapes Go.ChangeAt Go.RowKit
set_option linter.unusedVariables false
set_option linter.unusedSimpArgs false

theorem splN_pos (n : Int) : 1 ≤ splN n := by unfold splN; omega
theorem splN_lt {n : Int} (h : 2 ≤ n) : splN n < n := by unfold splN; omega
/-- How long the path of a place is. -/
def stN (at' size : Int) : Nat :=
  if h : size ≤ 1 then 0 else if at' < splN size then stN at' (splN size) + 1 else stN (at' - splN size) (size - splN size) + 1
termination_by size.toNat
decreasing_by
  · have := splN_lt (n := size) (by omega); omega
  · have := splN_pos size; omega
/-- What a leaf comes to with a path, from its last number on. -/
def clM (f : Int → Int → Int) (leaf at' size : Int) (path : List Int) : Int :=
  if h : size ≤ 1 then leaf else if at' < splN size then f (clM f leaf at' (splN size) path.dropLast) (path.getLastD 0) else f (path.getLastD 0) (clM f leaf (at' - splN size) (size - splN size) path.dropLast)
termination_by size.toNat
decreasing_by
  · have := splN_lt (n := size) (by omega); omega
  · have := splN_pos size; omega
/-- Whether a place of a level has none beside it. -/
def alone (at' size : Int) : Bool := decide (at' % 2 = 0 ∧ at' = size - 1)
/-- A pair, joined: the one that stands at a place, and the one beside it. -/
def joinAt (f : Int → Int → Int) (at' own other : Int) : Int := if at' % 2 = 0 then f own other else f other own
theorem splN_two : splN 2 = 1 := by decide
theorem splN_half {n : Int} (h : 3 ≤ n) (hn : n ≤ 32) : splN n = 2 * splN ((n + 1) / 2) := by unfold splN; omega
theorem stN_le (a s : Int) (h : s ≤ 1) : stN a s = 0 := by rw [stN, dif_pos h]
theorem stN_lo {a s : Int} (h : 2 ≤ s) (ha : a < splN s) : stN a s = stN a (splN s) + 1 := by rw [stN, dif_neg (by omega), if_pos ha]
theorem stN_hi {a s : Int} (h : 2 ≤ s) (ha : ¬ a < splN s) : stN a s = stN (a - splN s) (s - splN s) + 1 := by rw [stN, dif_neg (by omega), if_neg ha]
theorem clM_le (f) (l a s : Int) (p) (h : s ≤ 1) : clM f l a s p = l := by rw [clM, dif_pos h]
theorem clM_lo (f) {l a s : Int} (p) (h : 2 ≤ s) (ha : a < splN s) : clM f l a s p = f (clM f l a (splN s) p.dropLast) (p.getLastD 0) := by rw [clM, dif_neg (by omega), if_pos ha]
theorem clM_hi (f) {l a s : Int} (p) (h : 2 ≤ s) (ha : ¬ a < splN s) : clM f l a s p = f (p.getLastD 0) (clM f l (a - splN s) (s - splN s) p.dropLast) := by rw [clM, dif_neg (by omega), if_neg ha]
theorem half_split {s : Int} (h : 3 ≤ s) (hs : s ≤ 32) : splN s / 2 = splN ((s + 1) / 2) ∧ splN s % 2 = 0 ∧ 2 ≤ splN s ∧ splN s < s ∧ s ≤ 2 * splN s := by
  have h1 := splN_half h hs; have h2 := splN_pos ((s + 1) / 2); have h3 := splN_bd (n := s) (by omega) hs; omega
/-- One level up: how long the path is. -/
theorem stN_up (n : Nat) : ∀ (a s : Int), s.toNat ≤ n → 2 ≤ s → s ≤ 32 → 0 ≤ a → a < s → stN a s = stN (a / 2) ((s + 1) / 2) + (if alone a s then 0 else 1) := by
  induction n with
  | zero => intro a s h; omega
  | succ n ih =>
    intro a s hn h2 h32 ha has
    by_cases hs : s = 2
    · subst hs
      have e1 : stN (a / 2) ((2 + 1) / 2) = 0 := stN_le _ _ (by omega)
      rw [e1]
      have hal : alone a 2 = false := by simp [alone]; omega
      rw [hal]
      by_cases h0 : a < splN 2
      · rw [stN_lo (by omega) h0, splN_two, stN_le _ _ (by omega)]; rfl
      · rw [stN_hi (by omega) h0, splN_two, stN_le _ _ (by omega)]; rfl
    · obtain ⟨q1, q2, q3, q4, q5⟩ := half_split (s := s) (by omega) h32
      by_cases h0 : a < splN s
      · rw [stN_lo h2 h0, stN_lo (s := (s + 1) / 2) (by omega) (by omega)]
        rw [ih a (splN s) (by omega) (by omega) (by omega) ha h0]
        have e : (splN s + 1) / 2 = splN ((s + 1) / 2) := by omega
        rw [e]
        have a1 : alone a s = false := by simp [alone]; omega
        have a2 : alone a (splN s) = false := by simp [alone]; omega
        rw [a1, a2]
        simp
      · rw [stN_hi h2 h0, stN_hi (s := (s + 1) / 2) (by omega) (by omega)]
        have ea : a / 2 - splN ((s + 1) / 2) = (a - splN s) / 2 := by omega
        have es : (s + 1) / 2 - splN ((s + 1) / 2) = (s - splN s + 1) / 2 := by omega
        rw [ea, es]
        have al : alone a s = alone (a - splN s) (s - splN s) := by simp only [alone]; rw [decide_eq_decide]; omega
        rw [al]
        by_cases h1 : s - splN s = 1
        · rw [h1, stN_le _ _ (by omega), stN_le _ _ (by omega)]
          have : alone (a - splN s) 1 = true := by simp [alone]; omega
          rw [this]; rfl
        · rw [ih (a - splN s) (s - splN s) (by omega) (by omega) (by omega) (by omega) (by omega)]; omega
theorem dl_cons {p q : Int} (xs : List Int) : (p :: q :: xs).dropLast = p :: (q :: xs).dropLast := rfl
theorem gl_cons {p q : Int} (xs : List Int) : (p :: q :: xs).getLastD 0 = (q :: xs).getLastD 0 := rfl
theorem cons_of_len {xs : List Int} {n : Nat} (h : xs.length = n + 1) : ∃ q ys, xs = q :: ys := by
  cases xs with
  | nil => simp at h
  | cons q ys => exact ⟨q, ys, rfl⟩
/-- One level up where none stands beside. -/
theorem clM_alone (f : Int → Int → Int) (n : Nat) : ∀ (l a s : Int) (p : List Int), s.toNat ≤ n → 2 ≤ s → s ≤ 32 → 0 ≤ a → a < s → alone a s = true → clM f l a s p = clM f l (a / 2) ((s + 1) / 2) p := by
  induction n with
  | zero => intro l a s p h; omega
  | succ n ih =>
    intro l a s p hn h2 h32 ha has hal
    have hal' : a % 2 = 0 ∧ a = s - 1 := by simpa [alone] using hal
    obtain ⟨q1, q2, q3, q4, q5⟩ := half_split (s := s) (by omega) h32
    have h0 : ¬ a < splN s := by omega
    rw [clM_hi f p h2 h0, clM_hi f (s := (s + 1) / 2) p (by omega) (by omega)]
    have ea : a / 2 - splN ((s + 1) / 2) = (a - splN s) / 2 := by omega
    have es : (s + 1) / 2 - splN ((s + 1) / 2) = (s - splN s + 1) / 2 := by omega
    rw [ea, es]
    by_cases h1 : s - splN s = 1
    · rw [h1, clM_le _ _ _ _ _ (by omega), clM_le _ _ _ _ _ (by omega)]
    · rw [ih l (a - splN s) (s - splN s) p.dropLast (by omega) (by omega) (by omega) (by omega) (by omega) (by simp [alone]; omega)]
/-- One level up where one stands beside. -/
theorem clM_pair (f : Int → Int → Int) (n : Nat) : ∀ (l a s p0 : Int) (p : List Int), s.toNat ≤ n → 2 ≤ s → s ≤ 32 → 0 ≤ a → a < s → alone a s = false → p.length = stN (a / 2) ((s + 1) / 2) → clM f l a s (p0 :: p) = clM f (joinAt f a l p0) (a / 2) ((s + 1) / 2) p := by
  induction n with
  | zero => intro l a s p0 p h; omega
  | succ n ih =>
    intro l a s p0 p hn h2 h32 ha has hal hlen
    have hal' : ¬ (a % 2 = 0 ∧ a = s - 1) := by simpa [alone] using hal
    by_cases hs : s = 2
    · subst hs
      have e1 : stN (a / 2) ((2 + 1) / 2) = 0 := stN_le _ _ (by omega)
      rw [e1] at hlen
      obtain rfl : p = [] := List.eq_nil_of_length_eq_zero hlen
      rw [clM_le _ _ _ ((2 + 1) / 2) _ (by omega)]
      by_cases h0 : a < splN 2
      · rw [clM_lo f _ (by omega) h0, splN_two, clM_le _ _ _ _ _ (by omega)]
        rw [splN_two] at h0
        unfold joinAt; rw [if_pos (by omega)]; rfl
      · rw [clM_hi f _ (by omega) h0, splN_two, clM_le _ _ _ _ _ (by omega)]
        rw [splN_two] at h0
        unfold joinAt; rw [if_neg (by omega)]; rfl
    · obtain ⟨q1, q2, q3, q4, q5⟩ := half_split (s := s) (by omega) h32
      by_cases h0 : a < splN s
      · rw [stN_lo (s := (s + 1) / 2) (by omega) (by omega)] at hlen
        obtain ⟨q, ys, rfl⟩ := cons_of_len hlen
        rw [clM_lo f _ h2 h0, clM_lo f (s := (s + 1) / 2) _ (by omega) (by omega), dl_cons, gl_cons]
        have e : (splN s + 1) / 2 = splN ((s + 1) / 2) := by omega
        rw [ih l a (splN s) p0 _ (by omega) (by omega) (by omega) ha h0 (by simp [alone]; omega) (by rw [e]; simp at hlen ⊢; omega), e]
      · rw [stN_hi (s := (s + 1) / 2) (by omega) (by omega)] at hlen
        obtain ⟨q, ys, rfl⟩ := cons_of_len hlen
        rw [clM_hi f _ h2 h0, clM_hi f (s := (s + 1) / 2) _ (by omega) (by omega), dl_cons, gl_cons]
        have ea : a / 2 - splN ((s + 1) / 2) = (a - splN s) / 2 := by omega
        have es : (s + 1) / 2 - splN ((s + 1) / 2) = (s - splN s + 1) / 2 := by omega
        rw [ea, es] at hlen ⊢
        rw [ih l (a - splN s) (s - splN s) p0 _ (by omega) (by omega) (by omega) (by omega) (by omega) (by simp [alone]; omega) (by simp at hlen ⊢; omega)]
        have ej : joinAt f (a - splN s) l p0 = joinAt f a l p0 := by unfold joinAt; rw [show (a - splN s) % 2 = a % 2 by omega]
        rw [ej]
theorem stN_bd (n : Nat) : ∀ (a s : Int), s.toNat ≤ n → s ≤ 24 → 0 ≤ a → a < s → stN a s ≤ 5 := by
  intro a s _ hs ha has
  have key : ∀ (m : Nat) (a s : Int), s ≤ 2 ^ m → m ≤ 5 → stN a s ≤ m := by
    intro m
    induction m with
    | zero => intro a s h _; rw [stN_le _ _ (by simpa using h)]; omega
    | succ m ih =>
      intro a s h hm
      by_cases h1 : s ≤ 1
      · rw [stN_le _ _ h1]; omega
      · have hp : (2 : Int) ^ (m + 1) = 2 * 2 ^ m := by rw [Int.pow_succ]; omega
        have h32 : (2 : Int) ^ (m + 1) ≤ 32 := by
          have : m + 1 = 1 ∨ m + 1 = 2 ∨ m + 1 = 3 ∨ m + 1 = 4 ∨ m + 1 = 5 := by omega
          rcases this with e | e | e | e | e <;> rw [e] <;> decide
        have hk : splN s ≤ 2 ^ m := by
          have : m = 0 ∨ m = 1 ∨ m = 2 ∨ m = 3 ∨ m = 4 := by omega
          rcases this with e | e | e | e | e <;> subst e <;> simp at h ⊢ <;> unfold splN <;> omega
        have hb := splN_bd (n := s) (by omega) (by omega)
        by_cases h0 : a < splN s
        · rw [stN_lo (by omega) h0]; have := ih a (splN s) hk (by omega); omega
        · rw [stN_hi (by omega) h0]; have := ih (a - splN s) (s - splN s) (by omega) (by omega); omega
  exact key 5 a s (by simp; omega) (by omega)

end Go.Proofs.YtlmjppglaolccaaDoor
