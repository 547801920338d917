/- A signature in memory of one's own, number by number. -/
import Derived.Test.YtffidkoejlebeaaDoorKyD
import Derived.Test.YtffidkoejlebeaaDoorFrB
import Derived.RangeFuncOwn
import Derived.RangeFuncNested
namespace Go.Proofs.YtffidkoejlebeaaDoor
open Go.ChangeShapes Go.WideShapes Go.ChangeAt Go.RowKit
set_option maxRecDepth 100000
set_option linter.unusedVariables false
set_option linter.unusedSimpArgs false

/-- Numbers in memory of one's own. -/
abbrev OwnN (w : World) (base : Nat) (v : Value) (zs : List Int) : Prop := w.ownsRow base 2 1 v zs.length (zs.map (.int .i64))
/-- A signature in memory of one's own: its block, and both its lists. -/
structure SgS (V : Nat) (W0 : World) (i : Int) (sh ot : List Int) (W : World) (sv ov : Value) : Prop where
  v : Blk W V #[.int .i64 i, sv, ov] 46
  s : OwnN W W0.heap.size sv sh
  o : OwnN W W0.heap.size ov ot
  apart : ∀ g, sv.ownBlock = some g → ov.ownBlock ≠ some g
  fr : Fr (fun k => k = V) W0 W
theorem SgS.below {V : Nat} {W0 : World} {i : Int} {sh ot : List Int} {W W' : World} {sv ov : Value} (h : SgS V W0 i sh ot W sv ov) (hb : Below W.heap.size W W') : SgS V W0 i sh ot W' sv ov :=
  ⟨h.v.below hb h.v.lt, own_below h.s hb, own_below h.o hb, h.apart, h.fr.trans (M' := fun _ => False) (.of_below hb (Nat.le_refl _)) (fun _ _ e => e.elim)⟩
theorem own_ne {W : World} {b e n : Nat} {v : Value} {xs : List Value} (h : W.ownsRow b e 1 v n xs) (g : Nat) (hg : v.ownBlock = some g) : g < W.heap.size := (h.lt g hg).2
/-- One more. -/
theorem SgS.show1 {V : Nat} {W0 : World} {i x : Int} {sh ot : List Int} {W W2 W3 : World} {sv ov tv : Value} (h : SgS V W0 i sh ot W sv ov) (hV : V < W0.heap.size)
    (hb : Below W.heap.size W W2) (hown : W3.ownsRow W0.heap.size 2 1 tv (sh.length + 1) (sh.map (.int .i64) ++ [.int .i64 x])) (hg : W2.grownBy W3 sv.ownBlock)
    (hat : tv.ownBlock = sv.ownBlock ∨ tv.ownBlock = some W2.heap.size) :
    SgS V W0 i (sh ++ [x]) ot (W3.setCell ⟨V, 1, none⟩ tv) tv ov ∧ Blk W3 V #[.int .i64 i, sv, ov] 46 ∧ Fr (fun k => k = V ∨ sv.ownBlock = some k) W (W3.setCell ⟨V, 1, none⟩ tv) := by
  have h2 := h.below hb
  have f3 : Fr (fun k => sv.ownBlock = some k) W2 W3 := .of_grown hg (fun k e => e)
  have hsv : ∀ k, sv.ownBlock = some k → W0.heap.size ≤ k := fun k e => (h2.s.lt k e).1
  have v3 : Blk W3 V #[.int .i64 i, sv, ov] 46 := h2.v.fr f3 (fun e => by have := hsv V e; omega)
  have fs : Fr (fun k => k = V) W3 (W3.setCell ⟨V, 1, none⟩ tv) := (Fr.refl _ _).setCell _ _ rfl
  have o3 : OwnN W3 W0.heap.size ov ot := own_fr h2.o f3 (fun g e1 e2 => h2.apart g e2 e1)
  have os : OwnN (W3.setCell ⟨V, 1, none⟩ tv) W0.heap.size ov ot := own_fr o3 fs (fun g e1 e2 => by have := (o3.lt g e1).1; omega)
  have ns : OwnN (W3.setCell ⟨V, 1, none⟩ tv) W0.heap.size tv (sh ++ [x]) := by
    have := own_fr hown fs (fun g e1 e2 => by have := (hown.lt g e1).1; omega)
    simpa [OwnN] using this
  refine ⟨⟨by have := v3.set 1 tv; simpa using this, ns, os, fun g e1 e2 => ?_, (h2.fr.trans f3 (fun i hi e => by have := hsv i e; omega)).trans fs (fun i hi e => e)⟩, v3, ((Fr.of_below hb (Nat.le_refl _)).trans f3 (fun i _ e => .inr e)).trans fs (fun i _ e => .inl e)⟩
  rcases hat with h0 | h0
  · exact h2.apart g (h0.symm.trans e1) e2
  · rw [h0] at e1
    have := own_ne h2.o g e2
    cases e1
    omega
/-- One more. -/
theorem SgS.other1 {V : Nat} {W0 : World} {i x : Int} {sh ot : List Int} {W W2 W3 : World} {sv ov tv : Value} (h : SgS V W0 i sh ot W sv ov) (hV : V < W0.heap.size)
    (hb : Below W.heap.size W W2) (hown : W3.ownsRow W0.heap.size 2 1 tv (ot.length + 1) (ot.map (.int .i64) ++ [.int .i64 x])) (hg : W2.grownBy W3 ov.ownBlock)
    (hat : tv.ownBlock = ov.ownBlock ∨ tv.ownBlock = some W2.heap.size) :
    SgS V W0 i sh (ot ++ [x]) (W3.setCell ⟨V, 2, none⟩ tv) sv tv ∧ Blk W3 V #[.int .i64 i, sv, ov] 46 ∧ Fr (fun k => k = V ∨ ov.ownBlock = some k) W (W3.setCell ⟨V, 2, none⟩ tv) := by
  have h2 := h.below hb
  have f3 : Fr (fun k => ov.ownBlock = some k) W2 W3 := .of_grown hg (fun k e => e)
  have hsv : ∀ k, ov.ownBlock = some k → W0.heap.size ≤ k := fun k e => (h2.o.lt k e).1
  have v3 : Blk W3 V #[.int .i64 i, sv, ov] 46 := h2.v.fr f3 (fun e => by have := hsv V e; omega)
  have fs : Fr (fun k => k = V) W3 (W3.setCell ⟨V, 2, none⟩ tv) := (Fr.refl _ _).setCell _ _ rfl
  have o3 : OwnN W3 W0.heap.size sv sh := own_fr h2.s f3 (fun g e1 e2 => h2.apart g e1 e2)
  have os : OwnN (W3.setCell ⟨V, 2, none⟩ tv) W0.heap.size sv sh := own_fr o3 fs (fun g e1 e2 => by have := (o3.lt g e1).1; omega)
  have ns : OwnN (W3.setCell ⟨V, 2, none⟩ tv) W0.heap.size tv (ot ++ [x]) := by
    have := own_fr hown fs (fun g e1 e2 => by have := (hown.lt g e1).1; omega)
    simpa [OwnN] using this
  refine ⟨⟨by have := v3.set 2 tv; simpa using this, os, ns, fun g e1 e2 => ?_, (h2.fr.trans f3 (fun i hi e => by have := hsv i e; omega)).trans fs (fun i hi e => e)⟩, v3, ((Fr.of_below hb (Nat.le_refl _)).trans f3 (fun i _ e => .inr e)).trans fs (fun i _ e => .inl e)⟩
  rcases hat with h0 | h0
  · exact h2.apart g e1 (h0.symm.trans e2)
  · rw [h0] at e2
    have := own_ne h2.s g e1
    cases e2
    omega
theorem SgS.kept {V : Nat} {W0 W W' : World} {i : Int} {sh ot : List Int} {sv ov : Value} {row : Option Nat} (h : SgS V W0 i sh ot W sv ov) (hV : V < W0.heap.size) (hg : W.grownBy W' row) (hr : ∀ k, row = some k → W0.heap.size ≤ k ∧ ∃ o : Obj, W.heap[k]? = some o ∧ o.isCells = false) : SgS V W0 i sh ot W' sv ov := by
  have hf : Fr (fun k => row = some k) W W' := .of_grown hg (fun k e => e)
  refine ⟨h.v.fr hf (fun e => by have := (hr V e).1; omega), own_fr h.s hf (fun g e1 e2 => ?_), own_fr h.o hf (fun g e1 e2 => ?_), h.apart, h.fr.trans hf (fun i hi e => by have := (hr i e).1; omega)⟩
  · obtain ⟨cs, hc⟩ := own_cells h.s e1
    obtain ⟨_, o, ho, hn⟩ := hr g e2
    rw [hc] at ho; cases ho; cases hn
  · obtain ⟨cs, hc⟩ := own_cells h.o e1
    obtain ⟨_, o, ho, hn⟩ := hr g e2
    rw [hc] at ho; cases ho; cases hn
/-- What a round owes to the loop over the iterator. -/
theorem SgS.pays {V : Nat} {W0 W W' : World} {i : Int} {sh ot : List Int} {sv ov : Value} (h : SgS V W0 i sh ot W sv ov) (hV : V < W0.heap.size) (hf : Fr (fun k => k = V ∨ sv.ownBlock = some k ∨ ov.ownBlock = some k) W W') : KeepsFrom W0.heap.size W W' := by
  refine ⟨hf.size, fun k o hk ho hn => ?_⟩
  refine (hf.block k (Array.getElem?_eq_some_iff.1 ho).1 ?_).trans ho
  rintro (e | e | e)
  · omega
  · obtain ⟨cs, hc⟩ := own_cells h.s e
    rw [hc] at ho; cases ho; cases hn
  · obtain ⟨cs, hc⟩ := own_cells h.o e
    rw [hc] at ho; cases ho; cases hn

end Go.Proofs.YtffidkoejlebeaaDoor
