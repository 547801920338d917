/- Contracts of the program's chapter 2: pieces laid together out of parts. -/
import Derived.Test.YtnlipmfhilgipabISum
import Derived.Test.YtnlipmfhilgipabPiece
namespace Go.Proofs.Ytnlipmfhilgipab
open Go.ChangeShapes Go.WideShapes Go.ChangeAt Go.RowKit
set_option linter.unusedVariables false
set_option linter.unusedSimpArgs false

/-- The table of what begins a piece, as the program lays it. -/
def Tab (w : World) : Prop := 0 < w.heap.size ∧ w.cell? ⟨0, 0, none⟩ = some (.int .u8 0) ∧ w.cell? ⟨0, 1, none⟩ = some (.int .u8 1) ∧ w.cell? ⟨0, 2, none⟩ = some (.int .u8 2)
theorem Tab.below {w w' : World} (h : Tab w) {B : Nat} (hb : Below B w w') (hB : w.heap.size ≤ B) : Tab w' :=
  ⟨Nat.lt_of_lt_of_le h.1 hb.size, (hb.cell (p := ⟨0, 0, none⟩) (Nat.lt_of_lt_of_le h.1 hB)).trans h.2.1, (hb.cell (p := ⟨0, 1, none⟩) (Nat.lt_of_lt_of_le h.1 hB)).trans h.2.2.1, (hb.cell (p := ⟨0, 2, none⟩) (Nat.lt_of_lt_of_le h.1 hB)).trans h.2.2.2⟩
theorem Tab.alloc {w : World} (h : Tab w) (O : Obj) : Tab (w.alloc O) := h.below ((Below.refl _ _).alloc (Nat.le_refl _) O) (Nat.le_refl _)

/-- What begins a piece, and its parts: each an address, a capacity, its bytes. -/
def pieceL (kd : Nat) (ps : List (Option Addr × Nat × List Int)) : List Int := (kd : Int) :: (ps.map fun p => p.2.2).flatten
theorem pieceL_succ (kd : Nat) (ps : List (Option Addr × Nat × List Int)) (k : Nat) (h : k < ps.length) : pieceL kd (ps.take (k + 1)) = pieceL kd (ps.take k) ++ ps[k].2.2 := by
  unfold pieceL
  rw [List.take_succ_eq_append_getElem h, List.map_append, List.flatten_append]
  simp
theorem pieceL_le (kd : Nat) (ps : List (Option Addr × Nat × List Int)) (k : Nat) : (pieceL kd (ps.take k)).length ≤ (pieceL kd ps).length := by
  have e : pieceL kd ps = pieceL kd (ps.take k) ++ ((ps.drop k).map fun p => p.2.2).flatten := by
    have := List.take_append_drop k ps
    conv => lhs; rw [← this]
    unfold pieceL
    rw [List.map_append, List.flatten_append]
    rfl
  rw [e, List.length_append]
  omega

end Go.Proofs.Ytnlipmfhilgipab
