/- Plain facts of chapter 7: slots, the tree above them, the way of a key, where a clash is looked for. -/
import Derived.Test.YtjjddjohckcmbaaDoorSlD0
import Derived.Test.YtjjddjohckcmbaaDoorExtD
import Derived.Test.YtjjddjohckcmbaaDoorISums
namespace Go.Proofs.YtjjddjohckcmbaaDoor
open Go.ChangeShapes Go.WideShapes Go.ChangeAt Go.RowKit
set_option linter.unusedVariables false
set_option linter.unusedSimpArgs false

/-- What is summed for the leaf of a key. -/
def slLeaf (l : List Sl) (k : Int) : List Int := match slFind l k with | none => [] | some v => slotL k v
def lfB (k : Int) (t : Bool) (v : Int) : List Int := if t = true then slotL k v else []
/-- The sum of a part of 2^n keys from one on. -/
def mpN (l : List Sl) : Nat → Int → Int
  | 0, f => sumL (slLeaf l f)
  | n + 1, f => nS (mpN l n f) (mpN l n (f + 2 ^ n))
theorem mpN_bd (l : List Sl) (n : Nat) (f : Int) : 0 ≤ mpN l n f ∧ mpN l n f ≤ 65520 := by cases n <;> exact sum_bd _
/-- The other side of a key's way up. -/
def mpS (l : List Sl) (k : Int) (i : Nat) : Int := if k / 2 ^ i % 2 = 0 then mpN l i (k / 2 ^ i * 2 ^ i + 2 ^ i) else mpN l i (k / 2 ^ i * 2 ^ i - 2 ^ i)
def mpP (l : List Sl) (k : Int) : List Int := (List.range 6).map (mpS l k)
theorem mpP_len (l : List Sl) (k : Int) : (mpP l k).length = 6 := by unfold mpP; simp
theorem mpP_get (l : List Sl) (k : Int) {i : Nat} (h : i < 6) : (mpP l k).getD i 0 = mpS l k i := by unfold mpP; simp [List.getD, h]
theorem mpS_bd (l : List Sl) (k : Int) (i : Nat) : 0 ≤ mpS l k i ∧ mpS l k i ≤ 65520 := by unfold mpS; split <;> exact mpN_bd _ _ _
/-- What comes of a leaf with the first i of a path. -/
def mpC (k leaf : Int) (p : List Int) : Nat → Int
  | 0 => leaf
  | i + 1 => if k / 2 ^ i % 2 = 0 then nS (mpC k leaf p i) (p.getD i 0) else nS (p.getD i 0) (mpC k leaf p i)
theorem mpC_bd {leaf : Int} (k : Int) (p : List Int) (h : 0 ≤ leaf ∧ leaf ≤ 65520) (i : Nat) : 0 ≤ mpC k leaf p i ∧ mpC k leaf p i ≤ 65520 := by
  cases i with
  | zero => exact h
  | succ i => unfold mpC; split <;> exact sum_bd _
theorem pow_step (k : Int) (i : Nat) : k / 2 ^ (i + 1) = k / 2 ^ i / 2 := by
  rw [Int.pow_succ, Int.ediv_ediv_of_nonneg (Int.pow_nonneg (by omega))]
/-- The part that a key's way up is in, at a level. -/
def mpB (k : Int) (i : Nat) : Int := k / 2 ^ i * 2 ^ i
theorem mpB_lo {k : Int} {i : Nat} (h : k / 2 ^ i % 2 = 0) : mpB k (i + 1) = mpB k i := by
  unfold mpB
  rw [pow_step, Int.pow_succ]
  generalize k / 2 ^ i = q at *
  have : q = 2 * (q / 2) := by omega
  generalize q / 2 = r at *
  subst this
  rw [Int.mul_comm (2 ^ i) 2, ← Int.mul_assoc, Int.mul_comm r 2]
theorem mpB_hi {k : Int} {i : Nat} (h : ¬ k / 2 ^ i % 2 = 0) : mpB k i = mpB k (i + 1) + 2 ^ i := by
  unfold mpB
  rw [pow_step, Int.pow_succ]
  generalize k / 2 ^ i = q at *
  have : q = 2 * (q / 2) + 1 := by omega
  generalize q / 2 = r at *
  subst this
  rw [Int.mul_comm (2 ^ i) 2, ← Int.mul_assoc, Int.mul_comm r 2, Int.add_mul, Int.one_mul]
theorem mpS_lo {l : List Sl} {k : Int} {i : Nat} (h : k / 2 ^ i % 2 = 0) : mpS l k i = mpN l i (mpB k (i + 1) + 2 ^ i) := by
  rw [mpB_lo h]; unfold mpS mpB; rw [if_pos h]
theorem mpS_hi {l : List Sl} {k : Int} {i : Nat} (h : ¬ k / 2 ^ i % 2 = 0) : mpS l k i = mpN l i (mpB k (i + 1)) := by
  have := mpB_hi h
  unfold mpS
  rw [if_neg h]
  unfold mpB at *
  rw [this]
  congr 1
  omega
/-- The way of a key leads up to the parts that it is in. -/
theorem mpC_path {l : List Sl} {k : Int} : ∀ i : Nat, i ≤ 6 → mpC k (sumL (slLeaf l k)) (mpP l k) i = mpN l i (mpB k i)
  | 0, _ => by unfold mpC mpN mpB; simp
  | i + 1, hi => by
    have ih := mpC_path (l := l) (k := k) i (by omega)
    unfold mpC mpN
    rw [ih, mpP_get l k (by omega)]
    by_cases h : k / 2 ^ i % 2 = 0
    · rw [if_pos h, mpS_lo h, mpB_lo h]
    · rw [if_neg h, mpS_hi h, mpB_hi h]
theorem mpB_top {k : Int} (h0 : 0 ≤ k) (h1 : k ≤ 63) : mpB k 6 = 0 := by unfold mpB; omega
theorem mpC_root {l : List Sl} {k : Int} (h0 : 0 ≤ k) (h1 : k ≤ 63) : mpC k (sumL (slLeaf l k)) (mpP l k) 6 = mpN l 6 0 := by rw [mpC_path 6 (Nat.le_refl _), mpB_top h0 h1]
/-- The nodes of a level: of a proof, of slots. -/
def ndQ (k leaf : Int) (p : List Int) (i : Nat) : Int × Int := if k / 2 ^ i % 2 = 0 then (mpC k leaf p i, p.getD i 0) else (p.getD i 0, mpC k leaf p i)
def ndM (l : List Sl) (k : Int) (i : Nat) : Int × Int := (mpN l i (mpB k (i + 1)), mpN l i (mpB k (i + 1) + 2 ^ i))
theorem ndQ_sum (k leaf : Int) (p : List Int) (i : Nat) : mpC k leaf p (i + 1) = nS (ndQ k leaf p i).1 (ndQ k leaf p i).2 := by unfold ndQ; rw [mpC]; split <;> rfl
theorem ndM_sum (l : List Sl) (k : Int) (i : Nat) : mpN l (i + 1) (mpB k (i + 1)) = nS (ndM l k i).1 (ndM l k i).2 := rfl
theorem ndQ_path {l : List Sl} {k : Int} {i : Nat} (hi : i < 6) : ndQ k (sumL (slLeaf l k)) (mpP l k) i = ndM l k i := by
  unfold ndQ ndM
  rw [mpC_path i (by omega), mpP_get l k hi]
  by_cases h : k / 2 ^ i % 2 = 0
  · rw [if_pos h, mpS_lo h, mpB_lo h]
  · rw [if_neg h, mpS_hi h, mpB_hi h]
/-- The clash from level i on down. -/
def mpK (l : List Sl) (k : Int) (t : Bool) (v : Int) (p : List Int) : Nat → Cl
  | 0 => lookC (lfB k t v) (slLeaf l k)
  | i + 1 => ndC (ndQ k (sumL (lfB k t v)) p i).1 (ndQ k (sumL (lfB k t v)) p i).2 (ndM l k i).1 (ndM l k i).2 <|> mpK l k t v p i
/-- A slot that climbs to the root without a clash is as there is one. -/
theorem mpK_true {l : List Sl} {k v : Int} {t : Bool} {p : List Int} : ∀ i : Nat, mpC k (sumL (lfB k t v)) p i = mpN l i (mpB k i) → mpK l k t v p i = none → lfB k t v = slLeaf l k
  | 0, hr, hc => by
    unfold mpC mpN mpB at hr
    simp at hr
    exact lookC_none hc hr
  | i + 1, hr, hc => by
    unfold mpK at hc
    obtain ⟨c1, c2⟩ := or_none hc
    rw [ndQ_sum, ndM_sum] at hr
    obtain ⟨e1, e2⟩ := ndC_none c1 hr
    refine mpK_true i ?_ c2
    unfold ndQ at e1 e2
    unfold ndM at e1 e2
    by_cases h : k / 2 ^ i % 2 = 0
    · rw [if_pos h] at e1; rw [mpB_lo h] at e1; exact e1
    · rw [if_neg h] at e2; rw [mpB_hi h]; exact e2
theorem lfB_eq {l : List Sl} {k v : Int} {t : Bool} (h : lfB k t v = slLeaf l k) (hv : 0 ≤ v ∧ v ≤ 65520) (hl : ∀ s ∈ l, slOk s = true) : (t = true ∧ slFind l k = some v) ∨ (t = false ∧ slFind l k = none) := by
  unfold lfB slLeaf at h
  cases t with
  | true =>
    cases e : slFind l k with
    | none => rw [e] at h; simp [slotL] at h
    | some u =>
      rw [e] at h
      have := (slOk_iff.1 (hl _ (slFind_mem e))).2
      simp [slotL] at h
      simp only at this
      exact .inl ⟨rfl, by congr 1; omega⟩
  | false =>
    cases e : slFind l k with
    | none => exact .inr ⟨rfl, rfl⟩
    | some u => rw [e] at h; simp [slotL] at h
theorem lfB_of {l : List Sl} {k v : Int} {t : Bool} (h : (t = true ∧ slFind l k = some v) ∨ (t = false ∧ slFind l k = none)) : lfB k t v = slLeaf l k := by
  unfold lfB slLeaf
  rcases h with ⟨rfl, e⟩ | ⟨rfl, e⟩ <;> rw [e] <;> rfl
theorem lookC_same (A : List Int) : lookC A A = none := by unfold lookC clashB; simp
/-- Where all is as it should be no clash is found. -/
theorem mpK_same {l : List Sl} {k v : Int} {t : Bool} {p : List Int} (h : lfB k t v = slLeaf l k) (hp : p = mpP l k) : ∀ i : Nat, i ≤ 6 → mpK l k t v p i = none
  | 0, _ => by unfold mpK; rw [h]; exact lookC_same _
  | i + 1, hi => by
    unfold mpK
    rw [mpK_same h hp i (by omega), h, hp, ndQ_path (by omega)]
    unfold ndC
    rw [lookC_same]
    rfl
/-- The code of a climb. -/
def clF (k : Int) (t : Bool) (v : Int) (p : List Int) : Int :=
  if ¬ (0 ≤ k ∧ k ≤ 63) ∨ (t = true ∧ ¬ (0 ≤ v ∧ v ≤ 65520)) ∨ (t = false ∧ v ≠ 0) then 3 else if p.length ≠ 6 then 8 else if allS p = true then 0 else 3
theorem clF_zero {k v : Int} {t : Bool} {p : List Int} (h : clF k t v p = 0) : (0 ≤ k ∧ k ≤ 63) ∧ (0 ≤ v ∧ v ≤ 65520) ∧ (t = false → v = 0) ∧ p.length = 6 ∧ allS p = true := by
  unfold clF at h
  split at h
  · omega
  · rename_i hc
    split at h
    · omega
    · split at h
      · rename_i h6 hs
        refine ⟨by omega, ?_, ?_, by omega, hs⟩
        · cases t
          · have : v = 0 := by
              refine Decidable.byContradiction fun e => hc (.inr (.inr ⟨rfl, e⟩))
            omega
          · exact Decidable.byContradiction fun e => hc (.inr (.inl ⟨rfl, e⟩))
        · rintro rfl
          exact Decidable.byContradiction fun e => hc (.inr (.inr ⟨rfl, e⟩))
      · omega
theorem lfB_wf {k v : Int} (t : Bool) (hk : 0 ≤ k ∧ k ≤ 63) (hv : 0 ≤ v ∧ v ≤ 65520) : ∀ n ∈ lfB k t v, (Lit.int .u8 n).wf = true := by
  unfold lfB
  split
  · intro n hn
    simp [slotL] at hn
    exact wf_u8 (by omega) (by omega)
  · simp
theorem lfB_len (k v : Int) (t : Bool) : (lfB k t v).length ≤ 4 := by unfold lfB; split <;> simp [slotL]
theorem slLeaf_lfB (l : List Sl) (k : Int) : slLeaf l k = lfB k (slFind l k).isSome ((slFind l k).getD 0) := by unfold slLeaf lfB; cases slFind l k <;> rfl
theorem slFind_bd {l : List Sl} (hl : ∀ s ∈ l, slOk s = true) (k : Int) : 0 ≤ (slFind l k).getD 0 ∧ (slFind l k).getD 0 ≤ 65520 := by
  cases e : slFind l k with
  | none => simp
  | some v => exact (slOk_iff.1 (hl _ (slFind_mem e))).2
theorem slLeaf_wf {l : List Sl} {k : Int} (hl : ∀ s ∈ l, slOk s = true) (hk : 0 ≤ k ∧ k ≤ 63) : ∀ n ∈ slLeaf l k, (Lit.int .u8 n).wf = true := by
  rw [slLeaf_lfB]; exact lfB_wf _ hk (slFind_bd hl k)
theorem slLeaf_len (l : List Sl) (k : Int) : (slLeaf l k).length ≤ 4 := by rw [slLeaf_lfB]; exact lfB_len _ _ _
theorem getD_bd {p : List Int} (h : allS p = true) (i : Nat) : 0 ≤ p.getD i 0 ∧ p.getD i 0 ≤ 65520 := by
  by_cases hi : i < p.length
  · have := allS_get h i hi
    rw [List.getD_eq_getElem?_getD, List.getElem?_eq_getElem hi]
    exact this
  · rw [List.getD_eq_getElem?_getD, List.getElem?_eq_none (by omega)]
    simp
theorem ndQ_bd {leaf : Int} (k : Int) {p : List Int} (h : 0 ≤ leaf ∧ leaf ≤ 65520) (hp : allS p = true) (i : Nat) : (0 ≤ (ndQ k leaf p i).1 ∧ (ndQ k leaf p i).1 ≤ 65520) ∧ 0 ≤ (ndQ k leaf p i).2 ∧ (ndQ k leaf p i).2 ≤ 65520 := by
  unfold ndQ
  split
  · exact ⟨mpC_bd k p h i, getD_bd hp i⟩
  · exact ⟨getD_bd hp i, mpC_bd k p h i⟩
/-- What is found is a clash. -/
theorem mpK_some {l : List Sl} {k v : Int} {t : Bool} {p : List Int} (hl : ∀ s ∈ l, slOk s = true) (hk : 0 ≤ k ∧ k ≤ 63) (hv : 0 ≤ v ∧ v ≤ 65520) (hp : allS p = true) {x : List Int × List Int} : ∀ i : Nat, mpK l k t v p i = some x → isCl x
  | 0, h => by
    unfold mpK lookC at h
    split at h
    · cases h
      exact ⟨‹_›, by have := lfB_len k v t; simp only; omega, by have := slLeaf_len l k; simp only; omega, lfB_wf t hk hv, slLeaf_wf hl hk⟩
    · cases h
  | i + 1, h => by
    unfold mpK at h
    rcases or_some h with h | h
    · have hb := ndQ_bd k (sum_bd (lfB k t v)) hp i
      exact ndC_some h hb.1 hb.2 (mpN_bd _ _ _) (mpN_bd _ _ _)
    · exact mpK_some hl hk hv hp i h

end Go.Proofs.YtjjddjohckcmbaaDoor
