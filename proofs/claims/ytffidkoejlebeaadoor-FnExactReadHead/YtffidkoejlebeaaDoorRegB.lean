/- Letters for worlds and blocks in a region that draws its order; a variable of two cells that is stored. -/
import Derived.Test.YtffidkoejlebeaaDoorFrB
import Derived.Laws.CopyOwn
namespace Go.Proofs.YtffidkoejlebeaaDoor
open Go.ChangeShapes Go.WideShapes Go.ChangeAt Go.RowKit
set_option linter.unusedVariables false
set_option linter.unusedSimpArgs false

theorem al_w {n : Nat} {X Y : World} (h : Below n X Y) : ∃ Z, Z = Y := ⟨_, rfl⟩
theorem al_b {W : World} {p : Nat} {cs : Array Value} {T : Nat} (h : Blk W p cs T) : ∃ q, q = p := ⟨_, rfl⟩
theorem al_blk {n : Nat} {X Y : World} {cs : Array Value} {T : Nat} (h : Below n X (Y.alloc (.cells cs T))) : Blk (Y.alloc (.cells cs T)) Y.heap.size cs T := Blk.new _ _ _
theorem al_two {n p : Nat} {X Y : World} {v0 v1 x y : Value} {T : Nat} (D : Below n X Y) (h : Blk Y p #[v0, v1] T) (hp : n ≤ p) : Below n X ((Y.setCell ⟨p, 0, none⟩ x).setCell ⟨p, 1, none⟩ y) ∧ Blk ((Y.setCell ⟨p, 0, none⟩ x).setCell ⟨p, 1, none⟩ y) p #[x, y] T ∧ Fr (fun k => k = p) Y ((Y.setCell ⟨p, 0, none⟩ x).setCell ⟨p, 1, none⟩ y) :=
  ⟨(D.setCell hp _).setCell hp _, by have := (h.set 0 x).set 1 y; simpa using this, Fr.setCell (Fr.setCell (Fr.refl (fun k => k = p) Y) ⟨p, 0, none⟩ x rfl) ⟨p, 1, none⟩ y rfl⟩
theorem al_keep {n p : Nat} {X Y : World} {O : Obj} {cs : Array Value} {T : Nat} (h : Below n X (Y.alloc O)) (P : Blk Y p cs T) : Blk (Y.alloc O) p cs T := P.below ((Below.refl Y.heap.size Y).alloc (Nat.le_refl _) O) P.lt
theorem row_new {Y : World} {p : Nat} {old cs : Array Value} {T : Nat} (P : Blk Y p old T) : Blk (Y.setRow p cs) p cs T := setRow_heap Y p old cs T (0, 0) P
theorem row_keep {Y : World} {p q : Nat} {old cs : Array Value} {T : Nat} (h : q ≠ p) (P : Blk Y q old T) : Blk (Y.setRow p cs) q old T := (setRow_other Y p q cs h).trans P
theorem al_ne {Y : World} {q : Nat} {cs : Array Value} {T : Nat} (P : Blk Y q cs T) : q ≠ Y.heap.size := Nat.ne_of_lt P.lt

end Go.Proofs.YtffidkoejlebeaaDoor
