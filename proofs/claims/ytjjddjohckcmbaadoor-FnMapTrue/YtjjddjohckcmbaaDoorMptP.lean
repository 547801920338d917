/- Plain facts: a slot that climbs to the root without a clash is as there is one, or as there is none. -/
import Derived.Test.YtjjddjohckcmbaaDoorMpsP
import Derived.Test.YtjjddjohckcmbaaDoorSClM
namespace Go.Proofs.YtjjddjohckcmbaaDoor
open Go.ChangeShapes Go.WideShapes Go.ChangeAt Go.RowKit
set_option linter.unusedVariables false
set_option linter.unusedSimpArgs false

theorem map_true {l : List Sl} {k v : Int} {t : Bool} {p : List Int} (h : mkC l k t v p = 0) (hn : mkX l k t v p = none) : (t = true ∧ fdC l k = 0 ∧ fdV l k = v) ∨ (t = false ∧ fdC l k = 4 ∧ fdV l k = 0) := by
  obtain ⟨h0, h1, h2⟩ := mkC_zero h
  obtain ⟨_, hok, _⟩ := slF_zero h0
  obtain ⟨hk, hv, _, _, _⟩ := clF_zero h1
  unfold mkX at hn
  rw [if_pos h] at hn
  have hc : mpC k (sumL (lfB k t v)) p 6 = mpN l 6 (mpB k 6) := by
    rw [mpB_top hk.1 hk.2, ← h2]
    unfold clW
    rw [if_pos h1]
  rcases lfB_eq (mpK_true 6 hc hn) hv hok with ⟨e1, e2⟩ | ⟨e1, e2⟩
  · refine .inl ⟨e1, ?_, ?_⟩
    · unfold fdC; rw [if_pos h0, e2]; rfl
    · unfold fdV; rw [if_pos h0, e2]; rfl
  · refine .inr ⟨e1, ?_, ?_⟩
    · unfold fdC; rw [if_pos h0, e2]; rfl
    · unfold fdV; rw [if_pos h0, e2]; rfl

end Go.Proofs.YtjjddjohckcmbaaDoor
