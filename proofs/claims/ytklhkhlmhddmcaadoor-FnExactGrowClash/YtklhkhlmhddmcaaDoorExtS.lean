/- Plain: what the clash of a growth finds is a clash. -/
import Derived.Test.YtklhkhlmhddmcaaDoorExtD
namespace Go.Proofs.YtklhkhlmhddmcaaDoor
open Go.ChangeShapes Go.WideShapes Go.ChangeAt Go.RowKit
set_option linter.unusedVariables false
set_option linter.unusedSimpArgs false

theorem gkC_some (n : Nat) : ∀ (xs ys : List Int) (wh : Bool) (r : Int) (p : List Int), ys.length ≤ n → 1 ≤ xs.length → xs.length ≤ ys.length → ys.length ≤ 32 → (wh = true → 0 ≤ r ∧ r ≤ 65520) → p.length = gsN xs.length ys.length wh → allS xs = true → allS ys = true → allS p = true → ∀ x, gkC xs ys wh r p = some x → isCl x := by
  induction n with
  | zero => intro xs ys wh r p h h1 h2; omega
  | succ n ih =>
    intro xs ys wh r p hn h1 hle h32 hr hlen ax ay ap x hx
    by_cases he : xs.length = ys.length
    · rw [gkC_eq wh r p he] at hx
      exact trC_some _ xs ys (Nat.le_refl _) ax ay x hx
    · obtain ⟨q1, q2, q3⟩ := splN_bd (n := (ys.length : Int)) (by omega) (by omega)
      obtain ⟨m, hm⟩ : ∃ m : Nat, splN (ys.length : Int) = m := ⟨(splN (ys.length : Int)).toNat, by omega⟩
      have tl : (ys.take m).length = m := by simp; omega
      have dl : (ys.drop m).length = ys.length - m := by simp
      have hd : allS p.dropLast = true := by rw [List.dropLast_eq_take]; exact allS_take ap _
      by_cases h0 : (xs.length : Int) ≤ splN ys.length
      · rw [gsN_lo wh (by omega) h0, hm] at hlen
        have hlast := last_bd ap (by omega)
        have hl2 : p.dropLast.length = gsN xs.length m wh := by simp; omega
        have hbd := grR_bd _ xs.length m wh r p.dropLast (Nat.le_refl _) (by omega) (by omega) (by omega) hr hl2 hd
        rw [gkC_lo wh r p (by omega) h0, hm] at hx
        rw [show ((m : Int)).toNat = m from rfl] at hx
        rcases or_some hx with h | h
        · exact ndC_some h hbd.2 hlast (rtM_bd _ _ (Nat.le_refl _) (allS_take ay _)) (rtM_bd _ _ (Nat.le_refl _) (allS_drop ay _))
        · exact ih xs (ys.take m) wh r p.dropLast (by omega) h1 (by omega) (by omega) hr (by rw [tl]; exact hl2) ax (allS_take ay _) hd x h
      · rw [gsN_hi wh (by omega) h0 (by omega), hm] at hlen
        have hlast := last_bd ap (by omega)
        have d1 : ((xs.drop m).length : Int) = (xs.length : Int) - m := by simp; omega
        have d2 : ((ys.drop m).length : Int) = (ys.length : Int) - m := by simp; omega
        have hl2 : p.dropLast.length = gsN ((xs.length : Int) - m) ((ys.length : Int) - m) false := by simp; omega
        have hbd := grR_bd _ ((xs.length : Int) - m) ((ys.length : Int) - m) false r p.dropLast (Nat.le_refl _) (by omega) (by omega) (by omega) (by simp) hl2 hd
        rw [gkC_hi wh r p (by omega) h0 (by omega), hm] at hx
        rw [show ((m : Int)).toNat = m from rfl] at hx
        rcases or_some hx with h | h
        · exact ndC_some h hlast hbd.1 (rtM_bd _ _ (Nat.le_refl _) (allS_take ax _)) (rtM_bd _ _ (Nat.le_refl _) (allS_drop ax _))
        · rcases or_some h with h | h
          · exact ndC_some h hlast hbd.2 (rtM_bd _ _ (Nat.le_refl _) (allS_take ay _)) (rtM_bd _ _ (Nat.le_refl _) (allS_drop ay _))
          · rcases or_some h with h | h
            · exact trC_some _ _ _ (Nat.le_refl _) (allS_take ax _) (allS_take ay _) x h
            · exact ih (xs.drop m) (ys.drop m) false r p.dropLast (by omega) (by simp; omega) (by simp; omega) (by omega) (by simp) (by rw [d1, d2]; exact hl2) (allS_drop ax _) (allS_drop ay _) hd x h

end Go.Proofs.YtklhkhlmhddmcaaDoor
