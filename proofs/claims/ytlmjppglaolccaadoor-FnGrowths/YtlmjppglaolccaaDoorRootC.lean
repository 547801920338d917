/- What RootOf and PathOf come to, plain. -/
import Derived.Test.YtlmjppglaolccaaDoorFault4
import Derived.Test.YtlmjppglaolccaaDoorRootD
import Derived.Test.YtlmjppglaolccaaDoorClimb4
namespace Go.Proofs.YtlmjppglaolccaaDoor
open Go.ChangeShapes Go.WideShapes Go.ChangeAt Go.RowKit
set_option linter.unusedVariables false
set_option linter.unusedSimpArgs false

/-- What RootOf tells. -/
def rtV (zs : List Int) : Int := if lvF zs = 0 then rtM nS 11 zs else 0
/-- The code of PathOf. -/
def ptC (zs : List Int) (a : Int) : Int := if lvF zs = 0 then (if 0 ≤ a ∧ a < zs.length then 0 else 3) else lvF zs
/-- The list of PathOf. -/
def ptL (zs : List Int) (a : Int) : List Int := if lvF zs = 0 ∧ 0 ≤ a ∧ a < zs.length then ptM nS 11 zs a else []
theorem lvF_zero {zs : List Int} (h : lvF zs = 0) : zs.length ≤ 24 ∧ allS zs = true := by
  unfold lvF at h
  split at h
  · omega
  · split at h
    · exact ⟨by omega, ‹_›⟩
    · omega
theorem rtM_bd (n : Nat) : ∀ zs : List Int, zs.length ≤ n → allS zs = true → 0 ≤ rtM nS 11 zs ∧ rtM nS 11 zs ≤ 65520 := by
  intro zs _ hall
  by_cases h : zs.length ≤ 1
  · rw [rtM_le nS 11 h]
    cases zs with
    | nil => simp
    | cons y ys => exact allS_get hall 0 (by simp)
  · rw [rtM_gt nS 11 (by omega)]; exact nS_bd _ _
theorem allS_app {xs : List Int} {y : Int} (h : allS xs = true) (h0 : 0 ≤ y) (h1 : y ≤ 65520) : allS (xs ++ [y]) = true := by
  unfold allS at *
  simp at h ⊢
  exact ⟨h, h0, h1⟩
theorem ptM_all (n : Nat) : ∀ (zs : List Int) (a : Int), zs.length ≤ n → allS zs = true → allS (ptM nS 11 zs a) = true := by
  induction n with
  | zero => intro zs a h _; rw [ptM_le nS 11 a (by omega)]; rfl
  | succ n ih =>
    intro zs a h hall
    by_cases h1 : zs.length ≤ 1
    · rw [ptM_le nS 11 a h1]; rfl
    · have hp := splN_pos (zs.length : Int)
      have hlt := splN_lt (n := (zs.length : Int)) (by omega)
      by_cases h0 : a < splN zs.length
      · rw [ptM_lo nS 11 (by omega) h0]
        have hb := rtM_bd _ _ (Nat.le_refl _) (allS_drop hall (splN zs.length).toNat)
        exact allS_app (ih _ _ (by simp; omega) (allS_take hall _)) hb.1 hb.2
      · rw [ptM_hi nS 11 (by omega) h0]
        have hb := rtM_bd _ _ (Nat.le_refl _) (allS_take hall (splN zs.length).toNat)
        exact allS_app (ih _ _ (by simp; omega) (allS_drop hall _)) hb.1 hb.2
theorem ptM_len (f : Int → Int → Int) (e : Int) (n : Nat) : ∀ (xs : List Int) (a : Int), xs.length ≤ n → (ptM f e xs a).length ≤ xs.length := by
  induction n with
  | zero => intro xs a h; rw [ptM_le f e a (by omega)]; simp
  | succ n ih =>
    intro xs a h
    by_cases h1 : xs.length ≤ 1
    · rw [ptM_le f e a h1]; simp
    · have hp := splN_pos (xs.length : Int)
      have hlt := splN_lt (n := (xs.length : Int)) (by omega)
      by_cases h0 : a < splN xs.length
      · rw [ptM_lo f e (by omega) h0]
        have := ih (xs.take (splN xs.length).toNat) a (by simp; omega)
        simp at this ⊢
        omega
      · rw [ptM_hi f e (by omega) h0]
        have := ih (xs.drop (splN xs.length).toNat) (a - splN xs.length) (by simp; omega)
        simp at this ⊢
        omega
theorem allS_wf {zs : List Int} (h : allS zs = true) : ∀ n ∈ zs, (Lit.int .i64 n).wf = true := by
  intro n hn
  unfold allS at h
  rw [List.all_eq_true] at h
  have := h n hn
  simp at this
  exact WalkArith.wf_i64 (by omega)
theorem ptL_len (zs : List Int) (a : Int) : (ptL zs a).length ≤ 24 := by
  unfold ptL
  split
  · rename_i h
    have := ptM_len nS 11 _ zs a (Nat.le_refl _)
    have := (lvF_zero h.1).1
    omega
  · simp
theorem ptL_wf (zs : List Int) (a : Int) : ∀ n ∈ ptL zs a, (Lit.int .i64 n).wf = true := by
  unfold ptL
  split
  · rename_i h
    exact allS_wf (ptM_all _ zs a (Nat.le_refl _) (lvF_zero h.1).2)
  · simp

end Go.Proofs.YtlmjppglaolccaaDoor
