/- Contracts: the model's climbing of a path. -/
import Derived.Test.YtlmjppglaolccaaDoorSplit
import Derived.Test.YtlmjppglaolccaaDoorFault4
import Derived.Test.YtlmjppglaolccaaDoorClimbD
import Derived.Test.YtlmjppglaolccaaDoorPiece
import Derived.Test.YtlmjppglaolccaaDoorKeep
namespace Go.Proofs.YtlmjppglaolccaaDoor
open Go.ChangeShapes Go.WideShapes Go.ChangeAt Go.RowKit
set_option linter.unusedVariables false
set_option linter.unusedSimpArgs false

/-- The sum of a node. -/
def nS (a b : Int) : Int := sumL (nodeL a b)
theorem nS_bd (a b : Int) : 0 ≤ nS a b ∧ nS a b ≤ 65520 := sum_bd _
theorem clM_bd (n : Nat) : ∀ (l a s : Int) (p : List Int), s.toNat ≤ n → 0 ≤ l → l ≤ 65520 → 0 ≤ clM nS l a s p ∧ clM nS l a s p ≤ 65520 := by
  intro l a s p _ h0 h1
  rw [clM]
  split
  · exact ⟨h0, h1⟩
  · split
    · exact nS_bd _ _
    · exact nS_bd _ _

theorem Has.init {w : World} {k : IntKind} {a : Option Addr} {zs : List Int} (h : Has w k a zs.length zs) (n : Nat) (hn : n ≤ zs.length) : Has w k a (zs.take n).length (zs.take n) := by
  refine ⟨rfl, fun x hx => h.2.1 x (List.mem_of_mem_take hx), ?_⟩
  rcases h.2.2 with c | ⟨b', off', e, hlt, hc⟩
  · exact .inl (by simp; omega)
  · refine .inr ⟨b', off', e, hlt, fun j hj => ?_⟩
    simp at hj
    rw [hc j (by omega)]
    simp [List.getD, List.getElem?_take, show j < n by omega]

end Go.Proofs.YtlmjppglaolccaaDoor
