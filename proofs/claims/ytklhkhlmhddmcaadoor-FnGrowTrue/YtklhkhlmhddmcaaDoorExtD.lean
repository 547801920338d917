/- Plain facts of chapter 6: where a clash is looked for, and that where there is none all is as it should be. -/
import Derived.Test.YtklhkhlmhddmcaaDoorGrowC
import Derived.Test.YtklhkhlmhddmcaaDoorToClash
namespace Go.Proofs.YtklhkhlmhddmcaaDoor
open Go.ChangeShapes Go.WideShapes Go.ChangeAt Go.RowKit
set_option linter.unusedVariables false
set_option linter.unusedSimpArgs false

/-- A clash: its two pieces, or none. -/
abbrev Cl := Option (List Int × List Int)
/-- Two pieces, if they are a clash. -/
def lookC (A B : List Int) : Cl := if clashB A B = true then some (A, B) else none
/-- Two nodes, if they are a clash. -/
def ndC (a b c d : Int) : Cl := lookC (nodeL a b) (nodeL c d)
/-- The clash of two trees. -/
def trC (xs ys : List Int) : Cl :=
  if h : xs.length ≤ 1 then none else ndC (rtM nS 11 (xs.take (splN xs.length).toNat)) (rtM nS 11 (xs.drop (splN xs.length).toNat)) (rtM nS 11 (ys.take (splN xs.length).toNat)) (rtM nS 11 (ys.drop (splN xs.length).toNat)) <|> (trC (xs.take (splN xs.length).toNat) (ys.take (splN xs.length).toNat) <|> trC (xs.drop (splN xs.length).toNat) (ys.drop (splN xs.length).toNat))
termination_by xs.length
decreasing_by
  · have h1 := splN_lt (n := xs.length) (by omega); simp; omega
  · have h1 := splN_pos xs.length; simp; omega
theorem trC_le {xs : List Int} (ys : List Int) (h : xs.length ≤ 1) : trC xs ys = none := by rw [trC, dif_pos h]
theorem trC_gt {xs : List Int} (ys : List Int) (h : 2 ≤ xs.length) : trC xs ys = (ndC (rtM nS 11 (xs.take (splN xs.length).toNat)) (rtM nS 11 (xs.drop (splN xs.length).toNat)) (rtM nS 11 (ys.take (splN xs.length).toNat)) (rtM nS 11 (ys.drop (splN xs.length).toNat)) <|> (trC (xs.take (splN xs.length).toNat) (ys.take (splN xs.length).toNat) <|> trC (xs.drop (splN xs.length).toNat) (ys.drop (splN xs.length).toNat))) := by rw [trC, dif_neg (by omega)]
/-- The clash on the way down to a place. -/
def lfC (xs : List Int) (a leaf : Int) (p : List Int) : Cl :=
  if h : xs.length ≤ 1 then none else if a < splN xs.length then ndC (clM nS leaf a (splN xs.length) p.dropLast) (p.getLastD 0) (rtM nS 11 (xs.take (splN xs.length).toNat)) (rtM nS 11 (xs.drop (splN xs.length).toNat)) <|> lfC (xs.take (splN xs.length).toNat) a leaf p.dropLast else ndC (p.getLastD 0) (clM nS leaf (a - splN xs.length) (xs.length - splN xs.length) p.dropLast) (rtM nS 11 (xs.take (splN xs.length).toNat)) (rtM nS 11 (xs.drop (splN xs.length).toNat)) <|> lfC (xs.drop (splN xs.length).toNat) (a - splN xs.length) leaf p.dropLast
termination_by xs.length
decreasing_by
  · have h1 := splN_lt (n := xs.length) (by omega); simp; omega
  · have h1 := splN_pos xs.length; simp; omega
theorem lfC_le {xs : List Int} (a l : Int) (p : List Int) (h : xs.length ≤ 1) : lfC xs a l p = none := by rw [lfC, dif_pos h]
theorem lfC_lo {xs : List Int} {a : Int} (l : Int) (p : List Int) (h : 2 ≤ xs.length) (ha : a < splN xs.length) : lfC xs a l p = (ndC (clM nS l a (splN xs.length) p.dropLast) (p.getLastD 0) (rtM nS 11 (xs.take (splN xs.length).toNat)) (rtM nS 11 (xs.drop (splN xs.length).toNat)) <|> lfC (xs.take (splN xs.length).toNat) a l p.dropLast) := by rw [lfC, dif_neg (by omega), if_pos ha]
theorem lfC_hi {xs : List Int} {a : Int} (l : Int) (p : List Int) (h : 2 ≤ xs.length) (ha : ¬ a < splN xs.length) : lfC xs a l p = (ndC (p.getLastD 0) (clM nS l (a - splN xs.length) (xs.length - splN xs.length) p.dropLast) (rtM nS 11 (xs.take (splN xs.length).toNat)) (rtM nS 11 (xs.drop (splN xs.length).toNat)) <|> lfC (xs.drop (splN xs.length).toNat) (a - splN xs.length) l p.dropLast) := by rw [lfC, dif_neg (by omega), if_neg ha]
/-- The clash of a growth. -/
def gkC (xs ys : List Int) (wh : Bool) (r : Int) (p : List Int) : Cl :=
  if h : xs.length = ys.length ∨ ys.length ≤ 1 then trC xs ys else if (xs.length : Int) ≤ splN ys.length then ndC (grR nS xs.length (splN ys.length) wh r p.dropLast).2 (p.getLastD 0) (rtM nS 11 (ys.take (splN ys.length).toNat)) (rtM nS 11 (ys.drop (splN ys.length).toNat)) <|> gkC xs (ys.take (splN ys.length).toNat) wh r p.dropLast else ndC (p.getLastD 0) (grR nS (xs.length - splN ys.length) (ys.length - splN ys.length) false r p.dropLast).1 (rtM nS 11 (xs.take (splN ys.length).toNat)) (rtM nS 11 (xs.drop (splN ys.length).toNat)) <|> (ndC (p.getLastD 0) (grR nS (xs.length - splN ys.length) (ys.length - splN ys.length) false r p.dropLast).2 (rtM nS 11 (ys.take (splN ys.length).toNat)) (rtM nS 11 (ys.drop (splN ys.length).toNat)) <|> (trC (xs.take (splN ys.length).toNat) (ys.take (splN ys.length).toNat) <|> gkC (xs.drop (splN ys.length).toNat) (ys.drop (splN ys.length).toNat) false r p.dropLast))
termination_by ys.length
decreasing_by
  · have h1 := splN_lt (n := ys.length) (by omega); simp; omega
  · have h1 := splN_pos ys.length; simp; omega
theorem gkC_eq {xs ys : List Int} (wh : Bool) (r : Int) (p : List Int) (h : xs.length = ys.length) : gkC xs ys wh r p = trC xs ys := by rw [gkC, dif_pos (.inl h)]
theorem gkC_lo {xs ys : List Int} (wh : Bool) (r : Int) (p : List Int) (h : 2 ≤ ys.length) (hs : (xs.length : Int) ≤ splN ys.length) : gkC xs ys wh r p = (ndC (grR nS xs.length (splN ys.length) wh r p.dropLast).2 (p.getLastD 0) (rtM nS 11 (ys.take (splN ys.length).toNat)) (rtM nS 11 (ys.drop (splN ys.length).toNat)) <|> gkC xs (ys.take (splN ys.length).toNat) wh r p.dropLast) := by
  have h1 := splN_lt (n := ys.length) (by omega)
  rw [gkC, dif_neg (by omega), if_pos hs]
theorem gkC_hi {xs ys : List Int} (wh : Bool) (r : Int) (p : List Int) (h : 2 ≤ ys.length) (hs : ¬ (xs.length : Int) ≤ splN ys.length) (hl : xs.length < ys.length) : gkC xs ys wh r p = (ndC (p.getLastD 0) (grR nS (xs.length - splN ys.length) (ys.length - splN ys.length) false r p.dropLast).1 (rtM nS 11 (xs.take (splN ys.length).toNat)) (rtM nS 11 (xs.drop (splN ys.length).toNat)) <|> (ndC (p.getLastD 0) (grR nS (xs.length - splN ys.length) (ys.length - splN ys.length) false r p.dropLast).2 (rtM nS 11 (ys.take (splN ys.length).toNat)) (rtM nS 11 (ys.drop (splN ys.length).toNat)) <|> (trC (xs.take (splN ys.length).toNat) (ys.take (splN ys.length).toNat) <|> gkC (xs.drop (splN ys.length).toNat) (ys.drop (splN ys.length).toNat) false r p.dropLast))) := by rw [gkC, dif_neg (by omega), if_neg hs]
theorem or_none {a b : Cl} (h : (a <|> b) = none) : a = none ∧ b = none := by cases a <;> simp_all
theorem or_some {a b : Cl} {x : List Int × List Int} (h : (a <|> b) = some x) : a = some x ∨ b = some x := by cases a <;> simp_all
theorem node_inj {a b c d : Int} (h : nodeL a b = nodeL c d) : a = c ∧ b = d := by
  simp [nodeL] at h
  omega
/-- Nodes of one sum that are no clash are the same. -/
theorem ndC_none {a b c d : Int} (h : ndC a b c d = none) (hs : nS a b = nS c d) : a = c ∧ b = d := by
  unfold ndC lookC at h
  split at h
  · cases h
  · rename_i hn
    refine node_inj ?_
    by_cases he : nodeL a b = nodeL c d
    · exact he
    · exfalso
      refine hn ?_
      unfold clashB
      simp only [decide_eq_true_eq]
      exact ⟨he, hs⟩
/-- What is found is a clash. -/
def isCl (x : List Int × List Int) : Prop := clashB x.1 x.2 = true ∧ x.1.length ≤ 300 ∧ x.2.length ≤ 300 ∧ (∀ n ∈ x.1, (Lit.int .u8 n).wf = true) ∧ ∀ n ∈ x.2, (Lit.int .u8 n).wf = true
theorem ndC_some {a b c d : Int} {x : List Int × List Int} (h : ndC a b c d = some x) (ha : 0 ≤ a ∧ a ≤ 65520) (hb : 0 ≤ b ∧ b ≤ 65520) (hc : 0 ≤ c ∧ c ≤ 65520) (hd : 0 ≤ d ∧ d ≤ 65520) : isCl x := by
  unfold ndC lookC at h
  split at h
  · cases h
    exact ⟨‹_›, by simp [nodeL], by simp [nodeL], node_wf ha.1 (by omega) hb.1 (by omega), node_wf hc.1 (by omega) hd.1 (by omega)⟩
  · cases h
theorem leaf_inj {xs ys : List Int} (h : leafL xs = leafL ys) : xs = ys := by simpa [leafL] using h
theorem lookC_none {A B : List Int} (h : lookC A B = none) (hs : sumL A = sumL B) : A = B := by
  unfold lookC at h
  split at h
  · cases h
  · rename_i hn
    by_cases he : A = B
    · exact he
    · exfalso
      refine hn ?_
      unfold clashB
      simp only [decide_eq_true_eq]
      exact ⟨he, hs⟩
theorem rtM_ge {xs : List Int} (h : 2 ≤ xs.length) : rtM nS 11 xs = nS (rtM nS 11 (xs.take (splN xs.length).toNat)) (rtM nS 11 (xs.drop (splN xs.length).toNat)) := rtM_gt nS 11 h
/-- Two logs of one root and one size without a clash are the same. -/
theorem trC_true (n : Nat) : ∀ xs ys : List Int, xs.length ≤ n → 1 ≤ xs.length → xs.length = ys.length → rtM nS 11 xs = rtM nS 11 ys → trC xs ys = none → xs = ys := by
  induction n with
  | zero => intro xs ys h h1; omega
  | succ n ih =>
    intro xs ys hn h1 hl hr hc
    by_cases ho : xs.length = 1
    · rw [rtM_le nS 11 (by omega), rtM_le nS 11 (by omega)] at hr
      match xs, ys, ho, hl with
      | [x], [y], _, _ => simp at hr; rw [hr]
    · have hp := splN_pos (xs.length : Int)
      have hlt := splN_lt (n := (xs.length : Int)) (by omega)
      rw [trC_gt ys (by omega)] at hc
      rw [rtM_ge (xs := xs) (by omega), rtM_ge (xs := ys) (by omega), ← hl] at hr
      obtain ⟨c1, c2⟩ := or_none hc
      obtain ⟨c2, c3⟩ := or_none c2
      obtain ⟨e1, e2⟩ := ndC_none c1 hr
      have q1 := ih _ _ (by simp; omega) (by simp; omega) (by simp; omega) e1 c2
      have q2 := ih _ _ (by simp; omega) (by simp; omega) (by simp; omega) e2 c3
      rw [← List.take_append_drop (splN xs.length).toNat xs, q1, q2, List.take_append_drop]
theorem trC_some (n : Nat) : ∀ xs ys : List Int, xs.length ≤ n → allS xs = true → allS ys = true → ∀ x, trC xs ys = some x → isCl x := by
  induction n with
  | zero => intro xs ys h _ _ x hx; rw [trC_le ys (by omega)] at hx; cases hx
  | succ n ih =>
    intro xs ys hn ax ay x hx
    by_cases ho : xs.length ≤ 1
    · rw [trC_le ys ho] at hx; cases hx
    · have hp := splN_pos (xs.length : Int)
      have hlt := splN_lt (n := (xs.length : Int)) (by omega)
      rw [trC_gt ys (by omega)] at hx
      rcases or_some hx with h | h
      · exact ndC_some h (rtM_bd _ _ (Nat.le_refl _) (allS_take ax _)) (rtM_bd _ _ (Nat.le_refl _) (allS_drop ax _)) (rtM_bd _ _ (Nat.le_refl _) (allS_take ay _)) (rtM_bd _ _ (Nat.le_refl _) (allS_drop ay _))
      · rcases or_some h with h | h
        · exact ih _ _ (by simp; omega) (allS_take ax _) (allS_take ay _) x h
        · exact ih _ _ (by simp; omega) (allS_drop ax _) (allS_drop ay _) x h
theorem last_bd {p : List Int} (h : allS p = true) (hp : 0 < p.length) : 0 ≤ p.getLastD 0 ∧ p.getLastD 0 ≤ 65520 := by
  have := allS_get h (p.length - 1) (by omega)
  rw [List.getLastD_eq_getLast?, List.getLast?_eq_getElem?, List.getElem?_eq_getElem (by omega)]
  exact this
/-- A leaf that climbs to the root without a clash is the one that there is. -/
theorem lfC_true (n : Nat) : ∀ (xs : List Int) (a l : Int) (p : List Int), xs.length ≤ n → 1 ≤ xs.length → 0 ≤ a → a < xs.length → clM nS l a xs.length p = rtM nS 11 xs → lfC xs a l p = none → xs.getD a.toNat 0 = l := by
  induction n with
  | zero => intro xs a l p h h1; omega
  | succ n ih =>
    intro xs a l p hn h1 ha0 ha1 hr hc
    by_cases ho : xs.length = 1
    · rw [clM_le _ _ _ _ _ (by omega), rtM_le nS 11 (by omega)] at hr
      obtain rfl : a = 0 := by omega
      match xs, ho with
      | [x], _ => simp at hr; simp [hr]
    · have hp := splN_pos (xs.length : Int)
      have hlt := splN_lt (n := (xs.length : Int)) (by omega)
      obtain ⟨m, hm⟩ : ∃ m : Nat, splN (xs.length : Int) = m := ⟨(splN (xs.length : Int)).toNat, by omega⟩
      have tl : (xs.take m).length = m := by simp; omega
      have dl : (xs.drop m).length = xs.length - m := by simp
      rw [rtM_ge (xs := xs) (by omega)] at hr
      by_cases h0 : a < splN xs.length
      · rw [lfC_lo l p (by omega) h0, hm] at hc
        rw [clM_lo nS p (by omega) h0, hm] at hr
        rw [show ((m : Int)).toNat = m from rfl] at hr hc
        obtain ⟨c1, c2⟩ := or_none hc
        obtain ⟨e1, e2⟩ := ndC_none c1 hr
        have q := ih (xs.take m) a l p.dropLast (by omega) (by omega) ha0 (by omega) (by rw [tl]; exact e1) c2
        rw [← q]
        rw [List.getD_eq_getElem?_getD, List.getD_eq_getElem?_getD, List.getElem?_take, if_pos (by omega)]
      · rw [lfC_hi l p (by omega) h0, hm] at hc
        rw [clM_hi nS p (by omega) h0, hm] at hr
        rw [show ((m : Int)).toNat = m from rfl] at hr hc
        obtain ⟨c1, c2⟩ := or_none hc
        obtain ⟨e1, e2⟩ := ndC_none c1 hr
        have e3 : ((xs.length - m : Nat) : Int) = (xs.length : Int) - m := by omega
        have q := ih (xs.drop m) (a - m) l p.dropLast (by omega) (by omega) (by omega) (by omega) (by rw [dl, e3]; exact e2) c2
        rw [← q]
        rw [List.getD_eq_getElem?_getD, List.getD_eq_getElem?_getD, List.getElem?_drop, show m + (a - (m : Int)).toNat = a.toNat by omega]
theorem lfC_some (n : Nat) : ∀ (xs : List Int) (a l : Int) (p : List Int), xs.length ≤ n → xs.length ≤ 32 → 0 ≤ a → a < xs.length → p.length = stN a xs.length → allS xs = true → allS p = true → (0 ≤ l ∧ l ≤ 65520) → ∀ x, lfC xs a l p = some x → isCl x := by
  induction n with
  | zero => intro xs a l p h _ _ _ _ _ _ _ x hx; rw [lfC_le _ _ _ (by omega)] at hx; cases hx
  | succ n ih =>
    intro xs a l p hn h32 ha0 ha1 hpl ax ap hl x hx
    by_cases ho : xs.length ≤ 1
    · rw [lfC_le _ _ _ ho] at hx; cases hx
    · have hp := splN_pos (xs.length : Int)
      have hlt := splN_lt (n := (xs.length : Int)) (by omega)
      obtain ⟨m, hm⟩ : ∃ m : Nat, splN (xs.length : Int) = m := ⟨(splN (xs.length : Int)).toNat, by omega⟩
      have tl : (xs.take m).length = m := by simp; omega
      have dl : (xs.drop m).length = xs.length - m := by simp
      have hd : allS p.dropLast = true := by rw [List.dropLast_eq_take]; exact allS_take ap _
      by_cases h0 : a < splN xs.length
      · rw [stN_lo (by omega) h0, hm] at hpl
        have hlast : 0 ≤ p.getLastD 0 ∧ p.getLastD 0 ≤ 65520 := last_bd ap (by omega)
        rw [lfC_lo l p (by omega) h0, hm] at hx
        rw [show ((m : Int)).toNat = m from rfl] at hx
        rcases or_some hx with h | h
        · exact ndC_some h (clM_bd _ _ _ _ _ (Nat.le_refl _) hl.1 hl.2) hlast (rtM_bd _ _ (Nat.le_refl _) (allS_take ax _)) (rtM_bd _ _ (Nat.le_refl _) (allS_drop ax _))
        · exact ih (xs.take m) a l p.dropLast (by omega) (by omega) ha0 (by omega) (by rw [tl]; simp; omega) (allS_take ax _) hd hl x h
      · rw [stN_hi (by omega) h0, hm] at hpl
        have hlast : 0 ≤ p.getLastD 0 ∧ p.getLastD 0 ≤ 65520 := last_bd ap (by omega)
        rw [lfC_hi l p (by omega) h0, hm] at hx
        rw [show ((m : Int)).toNat = m from rfl] at hx
        have e3 : ((xs.length - m : Nat) : Int) = (xs.length : Int) - m := by omega
        rcases or_some hx with h | h
        · exact ndC_some h hlast (clM_bd _ _ _ _ _ (Nat.le_refl _) hl.1 hl.2) (rtM_bd _ _ (Nat.le_refl _) (allS_take ax _)) (rtM_bd _ _ (Nat.le_refl _) (allS_drop ax _))
        · exact ih (xs.drop m) (a - m) l p.dropLast (by omega) (by omega) (by omega) (by omega) (by rw [dl, e3]; simp; omega) (allS_drop ax _) hd hl x h
/-- A growth that is taken without a clash goes on from what there was. -/
theorem gkC_true (n : Nat) : ∀ (xs ys : List Int) (wh : Bool) (r : Int) (p : List Int), ys.length ≤ n → 1 ≤ xs.length → xs.length ≤ ys.length → ys.length ≤ 32 → (wh = true → r = rtM nS 11 xs) → grR nS xs.length ys.length wh r p = (rtM nS 11 xs, rtM nS 11 ys) → gkC xs ys wh r p = none → xs = ys.take xs.length := by
  induction n with
  | zero => intro xs ys wh r p h h1 h2; omega
  | succ n ih =>
    intro xs ys wh r p hn h1 hle h32 hw hr hc
    by_cases ho : xs.length = ys.length
    · rw [gkC_eq wh r p ho] at hc
      rw [grR_eq nS wh r p (by omega)] at hr
      have hrr : rtM nS 11 xs = rtM nS 11 ys := by
        cases wh
        · simp at hr; rw [← hr.1, ← hr.2]
        · simp at hr; rw [← hr.1, ← hr.2]
      have := trC_true _ xs ys (Nat.le_refl _) h1 ho hrr hc
      rw [← this, List.take_length]
    · obtain ⟨q1, q2, q3⟩ := splN_bd (n := (ys.length : Int)) (by omega) (by omega)
      obtain ⟨m, hm⟩ : ∃ m : Nat, splN (ys.length : Int) = m := ⟨(splN (ys.length : Int)).toNat, by omega⟩
      have tl : (ys.take m).length = m := by simp; omega
      have dl : (ys.drop m).length = ys.length - m := by simp
      by_cases h0 : (xs.length : Int) ≤ splN ys.length
      · rw [gkC_lo wh r p (by omega) h0, hm] at hc
        rw [grR_lo nS wh r p (by omega) h0, hm, rtM_ge (xs := ys) (by omega), hm] at hr
        rw [show ((m : Int)).toNat = m from rfl] at hr hc
        obtain ⟨c1, c2⟩ := or_none hc
        have hr1 := congrArg Prod.fst hr
        have hr2 := congrArg Prod.snd hr
        simp only at hr1 hr2
        obtain ⟨e1, e2⟩ := ndC_none c1 hr2
        have q := ih xs (ys.take m) wh r p.dropLast (by omega) h1 (by omega) (by omega) hw (by rw [tl, ← hr1, ← e1]) c2
        rw [List.take_take, Nat.min_eq_left (by omega)] at q
        exact q
      · rw [gkC_hi wh r p (by omega) h0 (by omega), hm] at hc
        have hsp := splN_same (s := (xs.length : Int)) (t := (ys.length : Int)) (by omega) (by omega) (by omega) (by omega)
        rw [grR_hi nS wh r p (by omega) h0 (by omega), hm, rtM_ge (xs := ys) (by omega), hm, rtM_ge (xs := xs) (by omega), hsp, hm] at hr
        rw [show ((m : Int)).toNat = m from rfl] at hr hc
        obtain ⟨c1, c2⟩ := or_none hc
        obtain ⟨c2, c3⟩ := or_none c2
        obtain ⟨c3, c4⟩ := or_none c3
        have hr1 := congrArg Prod.fst hr
        have hr2 := congrArg Prod.snd hr
        simp only at hr1 hr2
        obtain ⟨e1, e2⟩ := ndC_none c1 hr1
        obtain ⟨e3, e4⟩ := ndC_none c2 hr2
        have d1 : ((xs.drop m).length : Int) = (xs.length : Int) - m := by simp; omega
        have d2 : ((ys.drop m).length : Int) = (ys.length : Int) - m := by simp; omega
        have t1 := trC_true _ (xs.take m) (ys.take m) (Nat.le_refl _) (by simp; omega) (by simp; omega) (by rw [← e1, ← e3]) c3
        have q := ih (xs.drop m) (ys.drop m) false r p.dropLast (by omega) (by simp; omega) (by simp; omega) (by omega) (by simp) (by rw [d1, d2, ← e2, ← e4]) c4
        have hx := List.take_append_drop m xs
        rw [t1, q] at hx
        rw [← hx]
        have l1 : (ys.take m ++ (ys.drop m).take (xs.drop m).length).length = xs.length := by simp; omega
        rw [l1]
        have e5 : ys.take xs.length = ys.take m ++ (ys.drop m).take (xs.drop m).length := by
          have := List.take_append_drop m (ys.take xs.length)
          rw [List.take_take, Nat.min_eq_left (by omega), List.drop_take] at this
          rw [← this]
          congr 2
          simp
        rw [e5]

end Go.Proofs.YtklhkhlmhddmcaaDoor
