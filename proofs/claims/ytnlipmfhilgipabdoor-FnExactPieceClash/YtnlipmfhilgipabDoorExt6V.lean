/- Contracts: the model's clash on the way down to a leaf. Contracts: the model's clash on the way down to a leaf, by the size of the log. Contracts: the model's LeafClash: what it tells, and its first two codes. Contracts: the model's LeafClash, its other codes and its clash. Contracts: the model's LeafClash, where its proof leads to some root. Contracts: the model's LeafClash, its clash. Contracts: the model's LeafClash, whole. -/
import Derived.Test.YtnlipmfhilgipabDoorExt6C
import Derived.Test.YtnlipmfhilgipabDoorGrowC
import Derived.Test.YtnlipmfhilgipabDoorSums6
namespace Go.Proofs.YtnlipmfhilgipabDoor
open Go.ChangeShapes Go.WideShapes Go.ChangeAt Go.RowKit
set_option linter.unusedVariables false
set_option linter.unusedSimpArgs false

end Go.Proofs.YtnlipmfhilgipabDoor

namespace Go.Proofs.YtnlipmfhilgipabDoor
open Go.ChangeShapes Go.WideShapes Go.ChangeAt Go.RowKit
set_option linter.unusedVariables false
set_option linter.unusedSimpArgs false

end Go.Proofs.YtnlipmfhilgipabDoor

namespace Go.Proofs.YtnlipmfhilgipabDoor
open Go.ChangeShapes Go.WideShapes Go.ChangeAt Go.RowKit
set_option linter.unusedVariables false
set_option linter.unusedSimpArgs false

/-- The code of LeafClash. -/
def lkC (rs : List Pc) (a : Int) (ds p : List Int) : Int := if pcF rs = 0 then (if 250 < ds.length then 2 else if clC (sumL (leafL ds)) a rs.length p = 0 then (if clM nS (sumL (leafL ds)) a rs.length p = rtM nS 11 (smL rs) then 0 else 8) else clC (sumL (leafL ds)) a rs.length p) else pcF rs
/-- The clash of LeafClash. -/
def lkX (rs : List Pc) (a : Int) (ds p : List Int) : Cl := if lkC rs a ds p = 0 then (lfC (smL rs) a (sumL (leafL ds)) p <|> lookC (leafL ds) (leafL ((rs.map Pc.zs).getD a.toNat []))) else none
theorem clC_ok {l a s : Int} {p : List Int} (h : clC l a s p = 0) : (0 ≤ l ∧ l ≤ 65520) ∧ (1 ≤ s ∧ s ≤ 24) ∧ (0 ≤ a ∧ a < s) ∧ p.length = stN a s ∧ allS p = true ∧ p.length ≤ 6 := by
  unfold clC at h
  split at h
  · rename_i h1
    split at h
    · omega
    · split at h
      · split at h
        · exact ⟨h1.1, h1.2.1, h1.2.2, ‹_›, ‹_›, by omega⟩
        · omega
      · omega
  · omega

end Go.Proofs.YtnlipmfhilgipabDoor

namespace Go.Proofs.YtnlipmfhilgipabDoor
open Go.ChangeShapes Go.WideShapes Go.ChangeAt Go.RowKit
set_option linter.unusedVariables false
set_option linter.unusedSimpArgs false

end Go.Proofs.YtnlipmfhilgipabDoor

namespace Go.Proofs.YtnlipmfhilgipabDoor
open Go.ChangeShapes Go.WideShapes Go.ChangeAt Go.RowKit
set_option linter.unusedVariables false
set_option linter.unusedSimpArgs false

end Go.Proofs.YtnlipmfhilgipabDoor

namespace Go.Proofs.YtnlipmfhilgipabDoor
open Go.ChangeShapes Go.WideShapes Go.ChangeAt Go.RowKit
set_option linter.unusedVariables false
set_option linter.unusedSimpArgs false

end Go.Proofs.YtnlipmfhilgipabDoor

namespace Go.Proofs.YtnlipmfhilgipabDoor
open Go.ChangeShapes Go.WideShapes Go.ChangeAt Go.RowKit
set_option linter.unusedVariables false
set_option linter.unusedSimpArgs false

theorem own_capsV {w : World} {base e n c : Nat} {a : Option Addr} {xs : List Value} (h : w.ownsRow base e 1 (.slice a n c) n xs) : n ≤ c ∧ c ≤ maxLen := by
  rcases h.2 with ⟨e1, h0⟩ | ⟨g, cap, cur, e1, _, _, h1, h2, _⟩
  · simp at e1
    omega
  · simp at e1
    obtain ⟨_, rfl⟩ := e1
    exact ⟨h1, h2⟩

end Go.Proofs.YtnlipmfhilgipabDoor
