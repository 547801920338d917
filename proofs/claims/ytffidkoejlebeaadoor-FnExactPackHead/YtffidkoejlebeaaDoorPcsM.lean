/- Contracts: lists of pieces marked by the laws; clash results compared, marked, and asked for their marks. -/
import Derived.Test.YtffidkoejlebeaaDoorPcsC
import Derived.Test.YtffidkoejlebeaaDoorLvl
import Derived.Test.YtffidkoejlebeaaDoorMarkI
namespace Go.Proofs.YtffidkoejlebeaaDoor
open Go.ChangeShapes Go.WideShapes Go.ChangeAt Go.RowKit
set_option linter.unusedVariables false
set_option linter.unusedSimpArgs false

theorem own_at {w w' : World} {base e n x c : Nat} {xs : List Value} (h : w.ownsRow base e 1 (.slice (some ⟨x, 0, none⟩) n c) n xs) (hx : w'.heap[x]? = w.heap[x]?) : w'.ownsRow base e 1 (.slice (some ⟨x, 0, none⟩) n c) n xs := by
  refine ⟨h.1, h.2.imp id ?_⟩
  rintro ⟨g, cap, cur, e1, e2, e3, e4⟩
  have e5 := e1
  simp at e5
  exact ⟨g, cap, cur, e1, e2, by rw [← e5.1, hx, e5.1]; exact e3, e4⟩
theorem Fr.marked {M : Nat → Prop} {a : Option Addr} {w w' w'' : World} (h : Fr M w w') (k : Mk a w' w'') (hM : ∀ ad, a = some ad → M ad.block) : Fr M w w'' :=
  ⟨k.os.trans h.os, k.tape.trans h.tape, k.output.trans h.output, by rw [k.size]; exact h.size, fun i hi hn => (k.block i (fun ad had e => hn (by rw [e]; exact hM ad had))).trans (h.block i hi hn)⟩

/-- A clash result in memory of its own. -/
structure OwnC (w : World) (base : Nat) (a1 a2 : Option Addr) (c1 c2 : Nat) (xs ys : List Int) : Prop where
  one : w.ownsRow base 5 1 (.slice a1 xs.length c1) xs.length (xs.map (.int .u8))
  two : w.ownsRow base 5 1 (.slice a2 ys.length c2) ys.length (ys.map (.int .u8))
  apart : ∀ x y, a1 = some x → a2 = some y → x.block ≠ y.block
theorem own_blk {w w' : World} {base e n c : Nat} {a : Option Addr} {xs : List Value} (h : w.ownsRow base e 1 (.slice a n c) n xs) (hx : ∀ x, a = some x → w'.heap[x.block]? = w.heap[x.block]?) : w'.ownsRow base e 1 (.slice a n c) n xs := by
  cases a with
  | none =>
    refine ⟨h.1, .inl ?_⟩
    rcases h.2 with h0 | ⟨g, cap, cur, e1, _⟩
    · exact h0
    · simp at e1
  | some x =>
    refine ⟨h.1, h.2.imp id ?_⟩
    rintro ⟨g, cap, cur, e1, e2, e3, e4⟩
    have e5 := e1
    simp at e5
    have hxb := hx x rfl
    rw [e5.1] at hxb
    exact ⟨g, cap, cur, e1, e2, hxb.trans e3, e4⟩
theorem OwnC.below {w w' : World} {base : Nat} {a1 a2 : Option Addr} {c1 c2 : Nat} {xs ys : List Int} (h : OwnC w base a1 a2 c1 c2 xs ys) (hb : Below w.heap.size w w') : OwnC w' base a1 a2 c1 c2 xs ys := ⟨own_below h.one hb, own_below h.two hb, h.apart⟩

end Go.Proofs.YtffidkoejlebeaaDoor
