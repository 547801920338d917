/- The table of what begins a piece, as the program's text lays it: out of the row's condition to what the walks ask. -/
import Derived.Test.YtkjhcblfkpknlaaDoorISums
import Derived.Test.YtkjhcblfkpknlaaDoorCards
import Derived.Test.YtkjhcblfkpknlaaDoorTie
import Derived.LaidMore
import Derived.OpenVars
import Derived.Stop.Joined
namespace Go.Proofs.YtkjhcblfkpknlaaDoor
open Go.ChangeShapes Go.WideShapes Go.ChangeAt Go.WideElems Go.RowKit
set_option linter.unusedVariables false
set_option linter.unusedSimpArgs false

theorem gTab : Tryd.prog.globalNamed "loop.example/g00565/impl.pieceStarts" = some 0 := by kernel_rfl
theorem tTab : (Tryd.prog.globals[0]?).map (·.type) = some 117 := by kernel_rfl

/-- The door's own heap meets the condition. -/
theorem door_met (os : Os) (args : Array Value) : laidMetH Tryd.prog [("loop.example/g00565/impl.pieceStarts", Rows.laid_loop_example_g00565_impl_pieceStarts)] ((World.doorLaid Tryd.prog 400 os).forCall (fun _ _ => 0) ⟨#[], args, []⟩).memory :=
  laidMetH_of_parts3 (fuel := 8) (laidMet_of_run' 8 (by kernel_rfl) (by kernel_rfl)) (by kernel_rfl) (by kernel_rfl)

set_option maxRecDepth 100000 in
theorem tab_of_laid {W : World} (h : laidMetH Tryd.prog [("loop.example/g00565/impl.pieceStarts", Rows.laid_loop_example_g00565_impl_pieceStarts)] W) : Tab W := by
  rw [MakeChecks.laidMetH_plain _ _ _ (by kernel_rfl)] at h
  obtain ⟨ps, ⟨g0, t0, cs0, f0, p0, q0, hg0, ht0, hv0, hd0, _, _⟩, _, _⟩ := h
  obtain rfl := Option.some.inj (gTab.symm.trans hg0)
  obtain rfl := Option.some.inj (tTab.symm.trans ht0)
  obtain ⟨xs, m1, rfl, hx1, hlen, hn3, hel⟩ := DataW.trod_array Tryd.underlying117 hd0
  have c1 : Tryd.prog.cellsOf 5 = 1 := by kernel_rfl
  have c3 : Tryd.prog.cellsOf 117 = 6 := by kernel_rfl
  have h0 := hel 0 (by decide)
  have h1 := hel 1 (by decide)
  have h2 := hel 2 (by decide)
  have h3 := hel 3 (by decide)
  have h4 := hel 4 (by decide)
  have h5 := hel 5 (by decide)
  rw [c3] at hlen
  simp only [c1] at h0 h1 h2 h3 h4 h5
  simp only [Prod.mk.injEq, Rows.laid_loop_example_g00565_impl_pieceStarts, DataW.agg.injEq] at hx1
  match xs, hn3, hx1, h0, h1, h2, h3, h4, h5 with
  | [x0, x1, x2, x3, x4, x5], _, hx1, h0, h1, h2, h3, h4, h5 =>
    simp only [List.map_cons, List.map_nil, List.cons.injEq] at hx1
    obtain ⟨k0, e0, d0, _⟩ := DataW.trod_int Tryd.underlying5 (show DataW.trod _ Tryd.prog W 0 _ false m1 5 _ = some x0 from h0)
    obtain ⟨k1, e1, d1, _⟩ := DataW.trod_int Tryd.underlying5 (show DataW.trod _ Tryd.prog W 0 _ false m1 5 _ = some x1 from h1)
    obtain ⟨k2, e2, d2, _⟩ := DataW.trod_int Tryd.underlying5 (show DataW.trod _ Tryd.prog W 0 _ false m1 5 _ = some x2 from h2)
    obtain ⟨k3, e3, d3, _⟩ := DataW.trod_int Tryd.underlying5 (show DataW.trod _ Tryd.prog W 0 _ false m1 5 _ = some x3 from h3)
    obtain ⟨k4, e4, d4, _⟩ := DataW.trod_int Tryd.underlying5 (show DataW.trod _ Tryd.prog W 0 _ false m1 5 _ = some x4 from h4)
    obtain ⟨k5, e5, d5, _⟩ := DataW.trod_int Tryd.underlying5 (show DataW.trod _ Tryd.prog W 0 _ false m1 5 _ = some x5 from h5)
    have q0' : k0 = 0 := by rw [d0] at hx1; simpa using hx1.1.1.symm
    have q1' : k1 = 1 := by rw [d1] at hx1; simpa using hx1.1.2.1.symm
    have q2' : k2 = 2 := by rw [d2] at hx1; simpa using hx1.1.2.2.1.symm
    have q3' : k3 = 3 := by rw [d3] at hx1; simpa using hx1.1.2.2.2.1.symm
    have q4' : k4 = 4 := by rw [d4] at hx1; simpa using hx1.1.2.2.2.2.1.symm
    have q5' : k5 = 5 := by rw [d5] at hx1; simpa using hx1.1.2.2.2.2.2.1.symm
    subst q0' q1' q2' q3' q4' q5'
    have v0 := World.var?_cell hg0 hv0 0
    have v1 := World.var?_cell hg0 hv0 1
    have v2 := World.var?_cell hg0 hv0 2
    have v3 := World.var?_cell hg0 hv0 3
    have v4 := World.var?_cell hg0 hv0 4
    have v5 := World.var?_cell hg0 hv0 5
    obtain ⟨l1⟩ := cs0
    match l1, hlen, e0, e1, e2, e3, e4, e5 with
    | [y0, y1, y2, y3, y4, y5], _, e0, e1, e2, e3, e4, e5 =>
      simp at e0 e1 e2 e3 e4 e5
      subst e0 e1 e2 e3 e4 e5
      simp at v0 v1 v2 v3 v4 v5
      refine ⟨block_lt_of_cell v0, fun i hi => ?_⟩
      match i, hi with
      | 0, _ => exact v0
      | 1, _ => exact v1
      | 2, _ => exact v2
      | 3, _ => exact v3
      | 4, _ => exact v4
      | 5, _ => exact v5

end Go.Proofs.YtkjhcblfkpknlaaDoor
