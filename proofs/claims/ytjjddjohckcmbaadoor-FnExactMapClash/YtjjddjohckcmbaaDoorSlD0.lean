/- Plain facts of chapter 7: slots, what a key has, a slot that is put, the slots of a map. -/
import Derived.Test.YtjjddjohckcmbaaDoorFrame
namespace Go.Proofs.YtjjddjohckcmbaaDoor
open Go.ChangeShapes Go.WideShapes Go.ChangeAt Go.RowKit
set_option linter.unusedVariables false
set_option linter.unusedSimpArgs false

/-- A slot: its key and its value. -/
abbrev Sl := Int × Int
def slOk (s : Sl) : Bool := decide ((0 ≤ s.1 ∧ s.1 ≤ 63) ∧ 0 ≤ s.2 ∧ s.2 ≤ 65520)
theorem slOk_iff {s : Sl} : slOk s = true ↔ (0 ≤ s.1 ∧ s.1 ≤ 63) ∧ 0 ≤ s.2 ∧ s.2 ≤ 65520 := by unfold slOk; simp
/-- The fault of slots behind a key. -/
def slGo : Int → List Sl → Int
  | _, [] => 0
  | p, s :: r => if slOk s = true then (if s.1 ≤ p then 1 else slGo s.1 r) else 3
def slF (l : List Sl) : Int := if 12 < l.length then 2 else slGo (-1) l
theorem slGo_bd : ∀ (l : List Sl) (p : Int), slGo p l = 0 ∨ slGo p l = 1 ∨ slGo p l = 3
  | [], _ => .inl rfl
  | s :: r, p => by unfold slGo; split; split; exact .inr (.inl rfl); exact slGo_bd r _; exact .inr (.inr rfl)
theorem slF_bd (l : List Sl) : slF l = 0 ∨ slF l = 1 ∨ slF l = 2 ∨ slF l = 3 := by
  unfold slF
  split
  · simp
  · have := slGo_bd l (-1); omega
/-- The key ahead of place k. -/
def prevK (l : List Sl) : Nat → Int
  | 0 => -1
  | k + 1 => (l.getD k (0, 0)).1
theorem slGo_step {l : List Sl} {k : Nat} (h : k < l.length) (p : Int) : slGo p (l.drop k) = if slOk l[k] = true then (if l[k].1 ≤ p then 1 else slGo l[k].1 (l.drop (k + 1))) else 3 := by
  rw [List.drop_eq_getElem_cons h, slGo]
theorem prevK_succ {l : List Sl} {k : Nat} (h : k < l.length) : prevK l (k + 1) = l[k].1 := by simp [prevK, h]
/-- Slots that rise. -/
def Rises (l : List Sl) : Prop := l.Pairwise fun a b => a.1 < b.1
theorem slGo_zero : ∀ (l : List Sl) (p : Int), slGo p l = 0 → (∀ s ∈ l, slOk s = true ∧ p < s.1) ∧ Rises l
  | [], _, _ => ⟨by simp, List.Pairwise.nil⟩
  | s :: r, p, h => by
    unfold slGo at h
    split at h
    · rename_i hs
      split at h
      · omega
      · rename_i hp
        obtain ⟨h1, h2⟩ := slGo_zero r _ h
        refine ⟨?_, List.Pairwise.cons (fun x hx => (h1 x hx).2) h2⟩
        intro x hx
        simp at hx
        rcases hx with rfl | hx
        · exact ⟨hs, by omega⟩
        · exact ⟨(h1 x hx).1, by have := (h1 x hx).2; omega⟩
    · omega
theorem slF_zero {l : List Sl} (h : slF l = 0) : l.length ≤ 12 ∧ (∀ s ∈ l, slOk s = true) ∧ Rises l := by
  unfold slF at h
  split at h
  · omega
  · obtain ⟨h1, h2⟩ := slGo_zero l _ h
    exact ⟨by omega, fun s hs => (h1 s hs).1, h2⟩
theorem slGo_of : ∀ (l : List Sl) (p : Int), (∀ s ∈ l, slOk s = true ∧ p < s.1) → Rises l → slGo p l = 0
  | [], _, _, _ => rfl
  | s :: r, p, h, hr => by
    have h1 := h s (by simp)
    have h2 := List.pairwise_cons.1 hr
    unfold slGo
    rw [if_pos h1.1, if_neg (by omega)]
    exact slGo_of r _ (fun x hx => ⟨(h x (by simp [hx])).1, h2.1 x hx⟩) h2.2
theorem slF_of {l : List Sl} (hl : l.length ≤ 12) (h : ∀ s ∈ l, slOk s = true) (hr : Rises l) : slF l = 0 := by
  unfold slF
  rw [if_neg (by omega)]
  exact slGo_of l _ (fun s hs => ⟨h s hs, by have := slOk_iff.1 (h s hs); omega⟩) hr
/-- What a key has. -/
def slFind (l : List Sl) (k : Int) : Option Int := (l.find? fun s => s.1 == k).map (·.2)
theorem slFind_nil (k : Int) : slFind [] k = none := rfl
theorem slFind_cons (s : Sl) (r : List Sl) (k : Int) : slFind (s :: r) k = if s.1 = k then some s.2 else slFind r k := by
  unfold slFind
  rw [List.find?_cons]
  by_cases h : s.1 = k
  · have : (s.1 == k) = true := by simpa using h
    rw [if_pos h]; simp [h]
  · have : (s.1 == k) = false := by simpa using h
    rw [if_neg h, this]
theorem slFind_none {l : List Sl} {k : Int} (h : ∀ s ∈ l, s.1 ≠ k) : slFind l k = none := by
  induction l with
  | nil => rfl
  | cons s r ih => rw [slFind_cons, if_neg (h s (by simp))]; exact ih fun x hx => h x (by simp [hx])
theorem slFind_snoc {l : List Sl} (s : Sl) (h : Rises (l ++ [s])) (k : Int) : slFind (l ++ [s]) k = if s.1 = k then some s.2 else slFind l k := by
  induction l with
  | nil => rw [List.nil_append, slFind_cons]
  | cons x r ih =>
    have h2 := List.pairwise_cons.1 h
    rw [List.cons_append, slFind_cons, slFind_cons, ih h2.2]
    have := h2.1 s (by simp)
    by_cases e : x.1 = k
    · rw [if_pos e, if_pos e, if_neg (by omega)]
    · rw [if_neg e, if_neg e]
theorem slFind_mem {l : List Sl} {k v : Int} (h : slFind l k = some v) : (k, v) ∈ l := by
  induction l with
  | nil => cases h
  | cons s r ih =>
    rw [slFind_cons] at h
    split at h
    · rename_i e; cases h; rw [← e]; simp
    · simp [ih h]
theorem slFind_at {l : List Sl} (h : Rises l) {i : Nat} (hi : i < l.length) : slFind l l[i].1 = some l[i].2 := by
  induction l generalizing i with
  | nil => simp at hi
  | cons x r ih =>
    have h2 := List.pairwise_cons.1 h
    rw [slFind_cons]
    cases i with
    | zero => simp
    | succ j =>
      simp only [List.getElem_cons_succ]
      have hj : j < r.length := by simpa using hi
      have := h2.1 r[j] (List.getElem_mem hj)
      rw [if_neg (by omega)]
      exact ih h2.2 hj
/-- What is laid from here on. -/
def putGo (s : Sl) : List Sl → Bool → List Sl
  | [], d => if d = true then [] else [s]
  | x :: r, d => (if d = false ∧ s.1 ≤ x.1 then [s] else []) ++ ((if x.1 = s.1 then [] else [x]) ++ putGo s r (d || decide (s.1 ≤ x.1)))
def slPut (l : List Sl) (s : Sl) : List Sl := putGo s l false
theorem putGo_done (s : Sl) (l : List Sl) (h : ∀ x ∈ l, s.1 < x.1) : putGo s l true = l := by
  induction l with
  | nil => rfl
  | cons x r ih =>
    have := h x (by simp)
    rw [putGo, if_neg (by simp), if_neg (by omega), Bool.true_or, ih fun y hy => h y (by simp [hy])]
    rfl
theorem slPut_nil (s : Sl) : slPut [] s = [s] := rfl
theorem slPut_lt {x : Sl} {r : List Sl} {s : Sl} (h : x.1 < s.1) : slPut (x :: r) s = x :: slPut r s := by
  unfold slPut
  rw [putGo, if_neg (by omega), if_neg (by omega), show (false || decide (s.1 ≤ x.1)) = false by simp; omega]
  rfl
theorem slPut_ge {x : Sl} {r : List Sl} {s : Sl} (hr : Rises (x :: r)) (h : s.1 ≤ x.1) : slPut (x :: r) s = s :: (if x.1 = s.1 then r else x :: r) := by
  have h2 := List.pairwise_cons.1 hr
  unfold slPut
  rw [putGo, if_pos ⟨rfl, h⟩, show (false || decide (s.1 ≤ x.1)) = true by simp; omega, putGo_done s r (fun y hy => by have := h2.1 y hy; omega)]
  split <;> rfl
theorem slPut_mem {l : List Sl} {s : Sl} (hr : Rises l) : ∀ x ∈ slPut l s, x = s ∨ x ∈ l := by
  induction l with
  | nil => intro x hx; simp [slPut_nil] at hx; exact .inl hx
  | cons y r ih =>
    intro x hx
    have h2 := List.pairwise_cons.1 hr
    by_cases h : y.1 < s.1
    · rw [slPut_lt h] at hx
      simp at hx
      rcases hx with rfl | hx
      · simp
      · rcases ih h2.2 x hx with e | e
        · exact .inl e
        · simp [e]
    · rw [slPut_ge hr (by omega)] at hx
      simp at hx
      rcases hx with rfl | hx
      · exact .inl rfl
      · split at hx
        · simp [hx]
        · exact .inr hx
theorem slPut_rises {l : List Sl} {s : Sl} (hr : Rises l) : Rises (slPut l s) := by
  induction l with
  | nil => rw [slPut_nil]; exact List.pairwise_singleton _ _
  | cons y r ih =>
    have h2 := List.pairwise_cons.1 hr
    by_cases h : y.1 < s.1
    · rw [slPut_lt h]
      refine List.Pairwise.cons (fun x hx => ?_) (ih h2.2)
      rcases slPut_mem h2.2 x hx with rfl | e
      · exact h
      · exact h2.1 x e
    · rw [slPut_ge hr (by omega)]
      split
      · rename_i e
        exact List.Pairwise.cons (fun x hx => by have := h2.1 x hx; omega) h2.2
      · refine List.Pairwise.cons (fun x hx => ?_) hr
        simp at hx
        rcases hx with rfl | hx
        · omega
        · have := h2.1 x hx; omega
theorem slPut_find {l : List Sl} {s : Sl} (hr : Rises l) (k : Int) : slFind (slPut l s) k = if s.1 = k then some s.2 else slFind l k := by
  induction l with
  | nil => rw [slPut_nil, slFind_cons]
  | cons y r ih =>
    have h2 := List.pairwise_cons.1 hr
    by_cases h : y.1 < s.1
    · rw [slPut_lt h, slFind_cons, slFind_cons, ih h2.2]
      by_cases e : y.1 = k
      · rw [if_pos e, if_pos e, if_neg (by omega)]
      · rw [if_neg e, if_neg e]
    · rw [slPut_ge hr (by omega), slFind_cons]
      by_cases e : s.1 = k
      · rw [if_pos e, if_pos e]
      · rw [if_neg e, if_neg e]
        split
        · rename_i e2
          rw [slFind_cons, if_neg (by omega)]
        · rfl
theorem slPut_len {l : List Sl} {s : Sl} (hr : Rises l) : (slPut l s).length = l.length + (if (slFind l s.1).isSome = true then 0 else 1) := by
  induction l with
  | nil => rw [slPut_nil, slFind_nil]; rfl
  | cons y r ih =>
    have h2 := List.pairwise_cons.1 hr
    by_cases h : y.1 < s.1
    · rw [slPut_lt h, slFind_cons, if_neg (show ¬ y.1 = s.1 by omega), List.length_cons, ih h2.2, List.length_cons]
      omega
    · rw [slPut_ge hr (by omega), slFind_cons]
      by_cases e : y.1 = s.1
      · rw [if_pos e, if_pos e]; simp
      · rw [if_neg e, if_neg e, slFind_none (fun x hx => by have := h2.1 x hx; omega)]; simp
/-- The slots of a map, key by key. -/
def risL (m : Int → Option Int) (n : Nat) : List Sl := (List.range n).filterMap fun k : Nat => (m (k : Int)).map fun v => ((k : Int), v)
theorem risL_succ (m : Int → Option Int) (n : Nat) : risL m (n + 1) = risL m n ++ (match m n with | none => [] | some v => [((n : Int), v)]) := by
  unfold risL
  rw [List.range_succ, List.filterMap_append]
  congr 1
  cases h : m n <;> simp [h]
theorem risL_eq {l : List Sl} (hr : Rises l) (h0 : ∀ s ∈ l, 0 ≤ s.1) (n : Nat) : risL (slFind l) n = l.filter fun s => decide (s.1 < (n : Int)) := by
  induction n with
  | zero =>
    symm
    simp only [risL, List.range_zero, List.filterMap_nil, List.filter_eq_nil_iff]
    intro s hs
    have := h0 s hs
    simp; omega
  | succ n ih =>
    rw [risL_succ, ih]
    clear ih
    induction l with
    | nil => rfl
    | cons x r ih =>
      have h2 := List.pairwise_cons.1 hr
      have ih := ih h2.2 (fun s hs => h0 s (by simp [hs]))
      rw [slFind_cons]
      by_cases e : x.1 = n
      · rw [if_pos e]
        have hr0 : ∀ m : Nat, m ≤ n + 1 → r.filter (fun s => decide (s.1 < (m : Int))) = [] := by
          intro m hm
          rw [List.filter_eq_nil_iff]
          intro s hs
          have := h2.1 s hs
          simp; omega
        rw [List.filter_cons, List.filter_cons, hr0 n (by omega), hr0 (n + 1) (by omega)]
        have e1 : decide (x.1 < (n : Int)) = false := by simp; omega
        have e2 : decide (x.1 < ((n + 1 : Nat) : Int)) = true := by simp; omega
        rw [if_neg (by rw [e1]; simp), if_pos e2, List.nil_append, ← e]
      · rw [if_neg e, List.filter_cons, List.filter_cons]
        by_cases g : x.1 < n
        · have e1 : decide (x.1 < (n : Int)) = true := by simpa using g
          have e2 : decide (x.1 < ((n + 1 : Nat) : Int)) = true := by simp; omega
          rw [if_pos e1, if_pos e2, List.cons_append, ih]
        · have e1 : decide (x.1 < (n : Int)) = false := by simpa using g
          have e2 : decide (x.1 < ((n + 1 : Nat) : Int)) = false := by simp; omega
          rw [if_neg (by rw [e1]; simp), if_neg (by rw [e2]; simp)]
          exact ih
theorem risL_all {l : List Sl} (hr : Rises l) (h : ∀ s ∈ l, slOk s = true) : risL (slFind l) 64 = l := by
  rw [risL_eq hr (fun s hs => (slOk_iff.1 (h s hs)).1.1)]
  rw [List.filter_eq_self]
  intro s hs
  have := (slOk_iff.1 (h s hs)).1.2
  simp; omega
theorem risL_put {l : List Sl} {s : Sl} (hr : Rises l) (h : ∀ x ∈ l, slOk x = true) (hs : slOk s = true) : risL (fun k => if s.1 = k then some s.2 else slFind l k) 64 = slPut l s := by
  have e : (fun k => if s.1 = k then some s.2 else slFind l k) = slFind (slPut l s) := by funext k; rw [slPut_find hr]
  rw [e]
  refine risL_all (slPut_rises hr) (fun x hx => ?_)
  rcases slPut_mem hr x hx with rfl | e
  · exact hs
  · exact h x e

end Go.Proofs.YtjjddjohckcmbaaDoor
