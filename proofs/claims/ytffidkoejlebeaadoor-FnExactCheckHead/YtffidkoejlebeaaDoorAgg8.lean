/- A signed head that came in, opened: a struct of a struct of four, a struct of three and one. -/
import Derived.Test.YtffidkoejlebeaaDoorAgg5
namespace Go.Proofs.YtffidkoejlebeaaDoor
open Go.ChangeShapes Go.WideShapes Go.ChangeAt Go.RowKit
set_option linter.unusedVariables false
set_option linter.unusedSimpArgs false

open Go.Joins Go.Deep
theorem eight_of {α : Type} {cs : Array α} (h : cs.size = 8) : ∃ c0 c1 c2 c3 c4 c5 c6 c7, cs = #[c0, c1, c2, c3, c4, c5, c6, c7] := by
  obtain ⟨l⟩ := cs
  match l, h with
  | [c0, c1, c2, c3, c4, c5, c6, c7], _ => exact ⟨c0, c1, c2, c3, c4, c5, c6, c7, rfl⟩
theorem open_signed {H : Type} {enc : TypeId × Value → H} {P : Program} {w : World} {base : Nat} {spare : Nat → Bool} {held : Bool} {r : Reach} {b0 : Nat} {t : TypeId} {f0 f1 f2 a0 a1 a2 a3 g0 g1 g2 : Field} {v : Value} {d : DataW H} {p : List MemPlace} (hs : P.underlying t = some (.struct #[f0, f1, f2]))
    (ha : P.underlying f0.type = some (.struct #[a0, a1, a2, a3])) (hg : P.underlying f1.type = some (.struct #[g0, g1, g2])) (ho : (f0.offset, f1.offset, f2.offset) = (0, 4, 7)) (hc : (P.cellsOf f0.type, P.cellsOf f1.type, P.cellsOf f2.type) = (4, 3, 1)) (hC : P.cellsOf t = 8)
    (hoa : oneCellFields P #[a0, a1, a2, a3] = true) (hog : oneCellFields P #[g0, g1, g2] = true)
    (hv : Value.okWide P w r b0 t v) (h : DataW.Trod enc P w base spare held t v d p) :
    ∃ (c0 c1 c2 c3 c4 c5 c6 c7 : Value) (y0 y1 y2 y3 y4 y5 y6 y7 : DataW H × List MemPlace) (n m k : Nat), v = .agg #[c0, c1, c2, c3, c4, c5, c6, c7] ∧
      (DataW.trod enc P w base spare held n a0.type [c0] = some y0 ∧ DataW.trod enc P w base spare held n a1.type [c1] = some y1 ∧ DataW.trod enc P w base spare held n a2.type [c2] = some y2 ∧ DataW.trod enc P w base spare held n a3.type [c3] = some y3) ∧
      (DataW.trod enc P w base spare held m g0.type [c4] = some y4 ∧ DataW.trod enc P w base spare held m g1.type [c5] = some y5 ∧ DataW.trod enc P w base spare held m g2.type [c6] = some y6) ∧ DataW.trod enc P w base spare held k f2.type [c7] = some y7 := by
  obtain ⟨cs, rfl, hsz⟩ := okWide_struct hs hv
  obtain ⟨c0, c1, c2, c3, c4, c5, c6, c7, rfl⟩ := eight_of (hsz.trans hC)
  obtain ⟨fuel, hf⟩ := h
  obtain ⟨xs, n, _, _, _, hlen, hq⟩ := DataW.trod_struct hs hf
  simp only [Prod.mk.injEq] at ho hc
  obtain ⟨o0, o1, o2⟩ := ho
  obtain ⟨k0, k1, k2⟩ := hc
  match xs, hlen with
  | [x0, x1, x2], _ =>
    have q0 := hq 0 f0 rfl
    have q1 := hq 1 f1 rfl
    have q2 := hq 2 f2 rfl
    simp [Value.cells, o0, k0] at q0
    simp [Value.cells, o1, k1] at q1
    simp [Value.cells, o2, k2] at q2
    obtain ⟨ys, m0, _, _, _, hl0, hr0⟩ := DataW.trod_struct ha q0
    obtain ⟨zs, m1, _, _, _, hl1, hr1⟩ := DataW.trod_struct hg q1
    obtain ⟨i0, j0⟩ := hone_of hoa 0 a0 rfl
    obtain ⟨i1, j1⟩ := hone_of hoa 1 a1 rfl
    obtain ⟨i2, j2⟩ := hone_of hoa 2 a2 rfl
    obtain ⟨i3, j3⟩ := hone_of hoa 3 a3 rfl
    obtain ⟨i4, j4⟩ := hone_of hog 0 g0 rfl
    obtain ⟨i5, j5⟩ := hone_of hog 1 g1 rfl
    obtain ⟨i6, j6⟩ := hone_of hog 2 g2 rfl
    match ys, hl0, zs, hl1 with
    | [y0, y1, y2, y3], _, [y4, y5, y6], _ =>
      exact ⟨c0, c1, c2, c3, c4, c5, c6, c7, y0, y1, y2, y3, y4, y5, y6, x2, m0, m1, n, rfl, ⟨by simpa [i0, j0] using hr0 0 a0 rfl, by simpa [i1, j1] using hr0 1 a1 rfl, by simpa [i2, j2] using hr0 2 a2 rfl, by simpa [i3, j3] using hr0 3 a3 rfl⟩, ⟨by simpa [i4, j4] using hr1 0 g0 rfl, by simpa [i5, j5] using hr1 1 g1 rfl, by simpa [i6, j6] using hr1 2 g2 rfl⟩, q2⟩

end Go.Proofs.YtffidkoejlebeaaDoor
