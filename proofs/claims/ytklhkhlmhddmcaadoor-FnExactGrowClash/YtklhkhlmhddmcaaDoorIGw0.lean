/- Contracts: the program's walk along a growth, which closure it is. -/
import Derived.Test.YtklhkhlmhddmcaaDoorITreeC
import Derived.Test.YtklhkhlmhddmcaaDoorIGrwR
import Derived.Deep.DeepCutAuto
namespace Go.Proofs.YtklhkhlmhddmcaaDoor
open Go.ChangeShapes Go.WideShapes Go.ChangeAt Go.RowKit
set_option linter.unusedVariables false
set_option linter.unusedSimpArgs false

theorem var1 {V ua : World} {c0 : Value} {T : Nat} (h : Below (V.alloc (.cells #[c0] T)).heap.size (V.alloc (.cells #[c0] T)) ua) : ua.cell? ⟨V.heap.size, 0, none⟩ = some c0 ∧ ua.frozen? ⟨V.heap.size, 0, none⟩ = false ∧ V.heap.size < ua.heap.size := by
  have hs := h.size
  simp at hs
  exact ⟨(h.cell (p := ⟨V.heap.size, 0, none⟩) (by simp)).trans (by simp [go_sem]), (h.frozen (p := ⟨V.heap.size, 0, none⟩) (by simp)).trans (by simp [go_sem]), by omega⟩

set_option maxHeartbeats 4000000 in
theorem growWalk_eq (s t r : Int) (wh : Bool) (x y z : Option Addr) (nx cx ny cy nz cz : Nat) (w : World) (hst : s = t) :
    Calls Tryd.prog 80 #[.agg #[.int .i64 (s), .int .i64 (t), .bool wh], .int .i64 r, .slice z nz cz, .slice x nx cx, .slice y ny cy] w fun e w' => ∃ p1 p2 : Nat, e = .returned (.func (.func 132) #[] #[.pointer (some ⟨p1, 0, none⟩), .pointer (some ⟨p2, 0, none⟩)]) ∧ w'.cell? ⟨p1, 0, none⟩ = some (.slice x nx cx) ∧ w'.cell? ⟨p2, 0, none⟩ = some (.slice y ny cy) ∧ p1 < w'.heap.size ∧ p2 < w'.heap.size ∧ Below w.heap.size w w' := by
  have b : (s == t) = true := by simpa using hst
  clear hst
  have B0 : Below w.heap.size w ((((w.alloc (.cells #[.int .i64 s, .int .i64 t, .bool wh] 95)).alloc (.cells #[.int .i64 r] 2)).alloc (.cells #[.slice x nx cx] 25))) := (((Below.refl _ _).alloc (Nat.le_refl _) _).alloc (by simp) _).alloc (by simp; omega) _
  obtain ⟨E, hE⟩ : ∃ E, E = (((w.alloc (.cells #[.int .i64 s, .int .i64 t, .bool wh] 95)).alloc (.cells #[.int .i64 r] 2)).alloc (.cells #[.slice x nx cx] 25)) := ⟨_, rfl⟩
  have zE : E.heap.size = w.heap.size + 3 := by rw [hE]; simp
  rw [← hE] at B0
  have OB : Hid (∀ wx : World, Below E.heap.size E wx → (wx.cell? ⟨w.heap.size, 0, none⟩ = some (.int .i64 s) ∧ wx.cell? ⟨w.heap.size, 1, none⟩ = some (.int .i64 t) ∧ wx.cell? ⟨w.heap.size, 2, none⟩ = some (.bool wh) ∧ wx.cell? ⟨w.heap.size + 1, 0, none⟩ = some (.int .i64 r) ∧ wx.cell? ⟨w.heap.size + 2, 0, none⟩ = some (.slice x nx cx)) ∧ w.heap.size < wx.heap.size ∧ w.heap.size + 1 < wx.heap.size ∧ w.heap.size + 2 < wx.heap.size) := by
    intro wx h
    have hs := h.size
    refine ⟨⟨(h.cell (p := ⟨w.heap.size, 0, none⟩) (show w.heap.size < _ by omega)).trans ?_, (h.cell (p := ⟨w.heap.size, 1, none⟩) (show w.heap.size < _ by omega)).trans ?_, (h.cell (p := ⟨w.heap.size, 2, none⟩) (show w.heap.size < _ by omega)).trans ?_, (h.cell (p := ⟨w.heap.size + 1, 0, none⟩) (show w.heap.size + 1 < _ by omega)).trans ?_, (h.cell (p := ⟨w.heap.size + 2, 0, none⟩) (show w.heap.size + 2 < _ by omega)).trans ?_⟩, by omega, by omega, by omega⟩
    all_goals (rw [hE]; simp [go_sem])
  go_enter Tryd.func80, Tryd.ntmps80
  obtain ⟨⟨e0, e1, e2, e3, e4⟩, i0, i1, i2⟩ := OB.out E (Below.refl _ _)
  go_wp2_with fail
  simp only [← hE]
  clear hE zE
  refine (ofAll_any s t wh _).mono ?_
  rintro r' u1 ⟨rfl, hb1⟩
  rw [b]
  have B1 := B0.trans (hb1.mono B0.size)
  clear e0 e1 e2 e3 e4 i0 i1 i2
  obtain ⟨⟨e0, e1, e2, e3, e4⟩, i0, i1, i2⟩ := OB.out u1 hb1
  go_wp2_with fail
  refine (treeWalk_any _ _ _ _ _ _ _).mono ?_
  rintro r' u2 ⟨rfl, hu⟩
  have W2 : Below w.heap.size w u2 := by rw [hu]; exact (B1.alloc B1.size _).alloc (by have := B1.size; simp; omega) _
  have q1 : u2.cell? ⟨u1.heap.size, 0, none⟩ = some (.slice x nx cx) := by rw [hu]; simp [go_sem]
  have q2 : u2.cell? ⟨u1.heap.size + 1, 0, none⟩ = some (.slice y ny cy) := by rw [hu]; simp [go_sem]
  have q3 : u1.heap.size < u2.heap.size := by rw [hu]; simp; omega
  have q4 : u1.heap.size + 1 < u2.heap.size := by rw [hu]; simp
  clear hu
  go_wp2
  go_ret
  exact ⟨_, _, rfl, q1, q2, q3, q4, W2⟩

end Go.Proofs.YtklhkhlmhddmcaaDoor
