/- Contracts of the laws' own functions over results of bytes: held against each other, marked, still there. -/
import Derived.Test.YtlmjppglaolccaaDoorMark
namespace Go.Proofs.YtlmjppglaolccaaDoor
open Go.ChangeShapes Go.WideShapes Go.ChangeAt Go.RowKit
set_option linter.unusedVariables false
set_option linter.unusedSimpArgs false

theorem own_lt {w : World} {base e n c : Nat} {a : Option Addr} {xs : List Value} (ho : w.ownsRow base e 1 (.slice a n c) n xs) : ∀ ad, a = some ad → ad.block < w.heap.size := by
  intro ad had
  subst had
  rcases ho.2 with ⟨e1, _⟩ | ⟨g, _, _, e1, hb, hg, _⟩
  · simp at e1
  · simp at e1
    rw [e1.1]
    exact (Array.getElem?_eq_some_iff.1 hg).1
theorem Mk.cell {a : Option Addr} {w w' : World} (h : Mk a w w') {b o : Nat} (hb : ∀ ad, a = some ad → b ≠ ad.block) : w'.cell? ⟨b, o, none⟩ = w.cell? ⟨b, o, none⟩ := World.cell?_of_block (w := w) (h.block b hb)
/-- A result of bytes in a variable. -/
def VarAt (w : World) (p : Nat) (cd : Int) (a : Option Addr) (n c : Nat) : Prop := w.cell? ⟨p, 0, none⟩ = some (.int .i64 cd) ∧ w.cell? ⟨p, 1, none⟩ = some (.slice a n c)
theorem VarAt.below {w w' : World} {p n c B : Nat} {cd : Int} {a : Option Addr} (h : VarAt w p cd a n c) (hb : Below B w w') (hp : p < B) : VarAt w' p cd a n c :=
  ⟨(hb.cell (p := ⟨p, 0, none⟩) hp).trans h.1, (hb.cell (p := ⟨p, 1, none⟩) hp).trans h.2⟩
theorem VarAt.mk {w w' : World} {p n c : Nat} {cd : Int} {a a2 : Option Addr} (h : VarAt w p cd a n c) (hm : Mk a2 w w') (hp : ∀ ad, a2 = some ad → p ≠ ad.block) : VarAt w' p cd a n c :=
  ⟨(hm.cell hp).trans h.1, (hm.cell hp).trans h.2⟩
theorem VarAt.new (w : World) (cd : Int) (a : Option Addr) (n c T : Nat) : VarAt (w.alloc (.cells #[.int .i64 cd, .slice a n c] T)) w.heap.size cd a n c := by
  constructor <;> simp [go_sem]

end Go.Proofs.YtlmjppglaolccaaDoor
