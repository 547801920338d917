/- Contracts: the program's LeafClash. -/
import Derived.Test.YtklhkhlmhddmcaaDoorILeafA
import Derived.Test.YtklhkhlmhddmcaaDoorIPcs
import Derived.Test.YtklhkhlmhddmcaaDoorExt6V
namespace Go.Proofs.YtklhkhlmhddmcaaDoor
open Go.ChangeShapes Go.WideShapes Go.ChangeAt Go.RowKit
set_option linter.unusedVariables false
set_option linter.unusedSimpArgs false

theorem own_caps6 {w : World} {base e n c : Nat} {a : Option Addr} {xs : List Value} (h : w.ownsRow base e 1 (.slice a n c) n xs) : n ≤ c ∧ c ≤ maxLen := by
  rcases h.2 with ⟨e1, h0⟩ | ⟨g, cap, cur, e1, _, _, h1, h2, _⟩
  · simp at e1
    omega
  · simp at e1
    obtain ⟨_, rfl⟩ := e1
    exact ⟨h1, h2⟩

set_option maxHeartbeats 4000000 in
set_option maxRecDepth 100000 in
theorem leafClash1_any (pv pa pp ps pd pl bx ox j np cz nd cy nr cx ns cs nz cap : Nat) (l : Int) (z y s ad : Option Addr) (X1 X2 : Cl) (w : World)
    (c0 : w.cell? ⟨pv, 1, none⟩ = some (.int .i64 l)) (c1 : w.cell? ⟨pa, 0, none⟩ = some (.int .i64 j)) (c2 : w.cell? ⟨pp, 0, none⟩ = some (.slice z np cz)) (c3 : w.cell? ⟨ps, 1, none⟩ = some (.slice s ns cs)) (c4 : w.cell? ⟨pd, 0, none⟩ = some (.slice y nd cy)) (c5 : w.cell? ⟨pl, 0, none⟩ = some (.slice (some ⟨bx, ox, none⟩) nr cx)) (hat : w.cell? ⟨bx, ox + j, none⟩ = some (.slice ad nz cap)) (hj : j < nr) (la : pa < w.heap.size) (ld : pd < w.heap.size) (ll : pl < w.heap.size) (lb : bx < w.heap.size)
    (LW : ∀ (u : World) (ql qp qa qf : Nat), Below w.heap.size w u → u.cell? ⟨ql, 0, none⟩ = some (.slice s ns cs) → u.cell? ⟨qp, 0, none⟩ = some (.slice z np cz) → u.cell? ⟨qa, 0, none⟩ = some (.int .i64 j) → u.cell? ⟨qf, 0, none⟩ = some (.int .i64 l) → ql < u.heap.size → qp < u.heap.size → qa < u.heap.size → qf < u.heap.size → Calls Tryd.prog 107 #[.pointer (some ⟨ql, 0, none⟩), .pointer (some ⟨qp, 0, none⟩), .pointer (some ⟨qa, 0, none⟩), .pointer (some ⟨qf, 0, none⟩)] u (WkE X1 u))
    (LD : ∀ u : World, Below w.heap.size w u → Calls Tryd.prog 62 #[.slice y nd cy, .slice ad nz cap] u (WkE X2 u)) :
    Calls Tryd.prog 60 #[.pointer (some ⟨pv, 0, none⟩), .pointer (some ⟨pa, 0, none⟩), .pointer (some ⟨pp, 0, none⟩), .pointer (some ⟨ps, 0, none⟩), .pointer (some ⟨pd, 0, none⟩), .pointer (some ⟨pl, 0, none⟩)] w (WkE (X1 <|> X2) w) := by
  have TH : Hid (_) := LW
  have LDH : Hid (_) := LD
  have j1 : (j : Int) < nr := by omega
  have j2 : (0 : Int) ≤ (j : Int) := by omega
  have OLD : Hid (∀ wx : World, Below w.heap.size w wx → wx.cell? ⟨pa, 0, none⟩ = some (.int .i64 j) ∧ wx.cell? ⟨pd, 0, none⟩ = some (.slice y nd cy) ∧ wx.cell? ⟨pl, 0, none⟩ = some (.slice (some ⟨bx, ox, none⟩) nr cx) ∧ wx.cell? ⟨bx, ox + j, none⟩ = some (.slice ad nz cap)) := fun wx h => ⟨(h.cell (p := ⟨pa, 0, none⟩) la).trans c1, (h.cell (p := ⟨pd, 0, none⟩) ld).trans c4, (h.cell (p := ⟨pl, 0, none⟩) ll).trans c5, (h.cell (p := ⟨bx, ox + j, none⟩) lb).trans hat⟩
  clear LW LD hat
  go_enter Tryd.func60, Tryd.ntmps60
  go_wp2_with fail
  refine (leafWalk_any _ _ _ _ _ _ _ _ _).mono ?_
  rintro r u1 ⟨rfl, hu⟩
  have W1 : Below w.heap.size w u1 := by rw [hu]; exact ((((Below.refl _ _).alloc (Nat.le_refl _) _).alloc (by simp) _).alloc (by simp; omega) _).alloc (by simp; omega) _
  have zq : u1.heap.size = w.heap.size + 4 := by rw [hu]; simp
  have TT := TH.out u1 (w.heap.size + 3) (w.heap.size + 2) (w.heap.size + 1) w.heap.size W1 (by rw [hu]; simp [go_sem]) (by rw [hu]; simp [go_sem]) (by rw [hu]; simp [go_sem]) (by rw [hu]; simp [go_sem]) (by omega) (by omega) (by omega) (by omega)
  have TTH : Hid (_) := TT
  clear hu zq TT c0 c1 c2 c3 c4 c5
  go_wp2_with fail
  refine Calls.mono (P := Tryd.prog) (f := 107) TTH.out ?_
  rintro e u2 ⟨hb2, h⟩
  rcases h with ⟨hn, rfl⟩ | hp
  rotate_left
  · obtain ⟨y, a1, j1, a2, j2, hX, rfl, OC⟩ := hp
    have hh := WkP.out (X := X1) (Z := X2) ⟨y, a1, j1, a2, j2, hX, rfl, OC⟩ hb2 W1
    exact ⟨rfl, hh⟩
  subst hn
  have W2 := W1.trans (hb2.mono W1.size)
  clear hb2 W1 TTH TH
  have VE : Hid (∀ wx : World, Below u2.heap.size u2 wx → Below w.heap.size w wx) := fun wx h => W2.trans (h.mono W2.size)
  have d1 : ∀ wx : World, Below u2.heap.size u2 wx → wx.cell? ⟨pa, 0, none⟩ = some (.int .i64 j) := fun wx h => (OLD.out _ (VE.out _ h)).1
  have d2 : ∀ wx : World, Below u2.heap.size u2 wx → wx.cell? ⟨pd, 0, none⟩ = some (.slice y nd cy) := fun wx h => (OLD.out _ (VE.out _ h)).2.1
  have d3 : ∀ wx : World, Below u2.heap.size u2 wx → wx.cell? ⟨pl, 0, none⟩ = some (.slice (some ⟨bx, ox, none⟩) nr cx) := fun wx h => (OLD.out _ (VE.out _ h)).2.2.1
  have d4 : ∀ wx : World, Below u2.heap.size u2 wx → wx.cell? ⟨bx, ox + j, none⟩ = some (.slice ad nz cap) := fun wx h => (OLD.out _ (VE.out _ h)).2.2.2
  have U0 : Below u2.heap.size u2 u2.drew := (Below.refl _ _).drew
  go_wp2_with fail
  go_region_held2 (fun wx => Below u2.heap.size u2 wx)
    ((first | exact U0 | exact U1))
    ((first | (go_at_call 62; refine (LDH.out _ (VE.out _ U0)).mono ?_; rintro e ua ⟨hba, h⟩; have U1 : Below u2.heap.size u2 ua := U0.trans (hba.mono U0.size); (rcases h with ⟨hn, rfl⟩ | hp); rotate_left; (obtain ⟨y, a1, k1, a2, k2, hX, rfl, OC⟩ := hp); exact ⟨rfl, WkP.same ⟨y, a1, k1, a2, k2, hX, rfl, OC⟩ hba (VE.out _ U0)⟩) | fail))
  subst hn
  go_wp2
  go_end0
  exact WkE.ret (VE.out _ U1)

set_option maxHeartbeats 16000000 in
set_option maxRecDepth 100000 in
theorem implLeafClash_no (x y z : Option Addr) (cx cy cz nr nd np : Nat) (a cc : Int) (ps : List Int) (c1 c2 c3 l cv rv : Int) (w : World) (hno : (c1 ≠ 0 ∧ cc = c1) ∨ (c1 = 0 ∧ c2 ≠ 0 ∧ cc = c2) ∨ (c1 = 0 ∧ c2 = 0 ∧ c3 ≠ 0 ∧ cc = c3) ∨ (c1 = 0 ∧ c2 = 0 ∧ c3 = 0 ∧ cv ≠ rv ∧ cc = 8)) (hnr : nr ≤ 1048576)
    (PS0 : ∀ u : World, Below w.heap.size w u → Calls Tryd.prog 15 #[.slice x nr cx] u fun r w' => ∃ pa pc, r = .returned (.agg #[.int .i64 c1, .slice pa ps.length pc]) ∧ World.ownsRow w' u.heap.size 2 1 (.slice pa (ps).length pc) (ps).length ((ps).map (.int .i64)) ∧ Below u.heap.size u w')
    (LS0 : ∀ u : World, Below w.heap.size w u → Calls Tryd.prog 57 #[.slice y nd cy] u fun r w' => r = .returned (.agg #[.int .i64 c2, .int .i64 l]) ∧ Below u.heap.size u w')
    (CP0 : c2 = 0 → ∀ u : World, Below w.heap.size w u → Calls Tryd.prog 58 #[.int .i64 l, .int .i64 a, .int .i64 nr, .slice z np cz] u fun r w' => r = .returned (.agg #[.int .i64 c3, .int .i64 cv]) ∧ Below u.heap.size u w')
    (RT0 : ∀ (u : World) (pa : Option Addr) (pc base : Nat), Below w.heap.size w u → World.ownsRow u base 2 1 (.slice pa (ps).length pc) (ps).length ((ps).map (.int .i64)) → Calls Tryd.prog 20 #[.slice pa ps.length pc] u fun r w' => r = .returned (.agg #[.int .i64 0, .int .i64 rv]) ∧ Below u.heap.size u w') :
    Calls Tryd.prog 13 #[.slice x nr cx, .int .i64 a, .slice y nd cy, .slice z np cz] w fun r w' => ∃ a1 c1 a2 c2, r = .returned (.agg #[.int .i64 (cc), .bool ((none : Cl)).isSome, .slice a1 (clA ((none : Cl))).length c1, .slice a2 (clB ((none : Cl))).length c2]) ∧ OwnC w' w.heap.size a1 a2 c1 c2 (clA ((none : Cl))) (clB ((none : Cl))) ∧ Below w.heap.size w w' := by
  have PS : Hid (_) := PS0
  have LS : Hid (_) := LS0
  have RT : Hid (_) := RT0
  clear PS0 LS0 RT0
  rcases hno with ⟨h1, rfl⟩ | ⟨rfl, h2, rfl⟩ | ⟨rfl, rfl, h3, rfl⟩ | ⟨rfl, rfl, rfl, h4, rfl⟩
  · have b1 : (cc != 0) = true := by simpa using h1
    clear h1 CP0
    have B0 : Below w.heap.size w ((((((w.alloc (.cells #[.slice x nr cx] 24)).alloc (.cells #[.int .i64 a] 2)).alloc (.cells #[.slice y nd cy] 22)).alloc (.cells #[.slice z np cz] 25)).alloc (.cells #[.int .i64 0, .bool false, .slice none 0 0, .slice none 0 0] 31))) := ((((((Below.refl _ _).alloc (Nat.le_refl _) _).alloc (by simp) _).alloc (by simp; omega) _).alloc (by simp; omega) _).alloc (by simp; omega) _)
    obtain ⟨E, hE⟩ : ∃ E, E = (((((w.alloc (.cells #[.slice x nr cx] 24)).alloc (.cells #[.int .i64 a] 2)).alloc (.cells #[.slice y nd cy] 22)).alloc (.cells #[.slice z np cz] 25)).alloc (.cells #[.int .i64 0, .bool false, .slice none 0 0, .slice none 0 0] 31)) := ⟨_, rfl⟩
    have zE : E.heap.size = w.heap.size + 5 := by rw [hE]; simp
    rw [← hE] at B0
    have OB : Hid (∀ wx : World, Below E.heap.size E wx → (wx.cell? ⟨w.heap.size, 0, none⟩ = some (.slice x nr cx) ∧ wx.cell? ⟨w.heap.size + 1, 0, none⟩ = some (.int .i64 a) ∧ wx.cell? ⟨w.heap.size + 2, 0, none⟩ = some (.slice y nd cy) ∧ wx.cell? ⟨w.heap.size + 3, 0, none⟩ = some (.slice z np cz)) ∧ (wx.cell? ⟨w.heap.size + 4, 0, none⟩ = some (.int .i64 0) ∧ wx.cell? ⟨w.heap.size + 4, 1, none⟩ = some (.bool false) ∧ wx.cell? ⟨w.heap.size + 4, 2, none⟩ = some (.slice none 0 0) ∧ wx.cell? ⟨w.heap.size + 4, 3, none⟩ = some (.slice none 0 0)) ∧ (wx.frozen? ⟨w.heap.size + 4, 0, none⟩ = false ∧ wx.frozen? ⟨w.heap.size + 4, 1, none⟩ = false ∧ wx.frozen? ⟨w.heap.size + 4, 2, none⟩ = false ∧ wx.frozen? ⟨w.heap.size + 4, 3, none⟩ = false) ∧ w.heap.size < wx.heap.size ∧ w.heap.size + 1 < wx.heap.size ∧ w.heap.size + 2 < wx.heap.size ∧ w.heap.size + 3 < wx.heap.size ∧ w.heap.size + 4 < wx.heap.size) := by
      intro wx h
      have hs := h.size
      refine ⟨⟨(h.cell (p := ⟨w.heap.size, 0, none⟩) (show w.heap.size < _ by omega)).trans ?_, (h.cell (p := ⟨w.heap.size + 1, 0, none⟩) (show w.heap.size + 1 < _ by omega)).trans ?_, (h.cell (p := ⟨w.heap.size + 2, 0, none⟩) (show w.heap.size + 2 < _ by omega)).trans ?_, (h.cell (p := ⟨w.heap.size + 3, 0, none⟩) (show w.heap.size + 3 < _ by omega)).trans ?_⟩, ⟨(h.cell (p := ⟨w.heap.size + 4, 0, none⟩) (show w.heap.size + 4 < _ by omega)).trans ?_, (h.cell (p := ⟨w.heap.size + 4, 1, none⟩) (show w.heap.size + 4 < _ by omega)).trans ?_, (h.cell (p := ⟨w.heap.size + 4, 2, none⟩) (show w.heap.size + 4 < _ by omega)).trans ?_, (h.cell (p := ⟨w.heap.size + 4, 3, none⟩) (show w.heap.size + 4 < _ by omega)).trans ?_⟩, ⟨(h.frozen (p := ⟨w.heap.size + 4, 0, none⟩) (show w.heap.size + 4 < _ by omega)).trans ?_, (h.frozen (p := ⟨w.heap.size + 4, 1, none⟩) (show w.heap.size + 4 < _ by omega)).trans ?_, (h.frozen (p := ⟨w.heap.size + 4, 2, none⟩) (show w.heap.size + 4 < _ by omega)).trans ?_, (h.frozen (p := ⟨w.heap.size + 4, 3, none⟩) (show w.heap.size + 4 < _ by omega)).trans ?_⟩, by omega, by omega, by omega, by omega, by omega⟩
      all_goals (rw [hE]; simp [go_sem])
    go_enter Tryd.func13, Tryd.ntmps13
    obtain ⟨⟨k0, k1, k2, k3⟩, ⟨r0, r1, r2, r3⟩, ⟨f0, f1, f2, f3⟩, i0, i1, i2, i3, i4⟩ := OB.out E (Below.refl _ _)
    go_wp2_with fail
    simp only [← hE]
    clear hE zE
    refine (PS.out _ B0).mono ?_
    rintro r u1 ⟨pa, pc, rfl, O1, hb1⟩
    have B1 := B0.trans (hb1.mono B0.size)
    clear k0 k1 k2 k3 r0 r1 r2 r3 f0 f1 f2 f3 i0 i1 i2 i3 i4
    obtain ⟨⟨k0, k1, k2, k3⟩, ⟨r0, r1, r2, r3⟩, ⟨f0, f1, f2, f3⟩, i0, i1, i2, i3, i4⟩ := OB.out u1 hb1
    go_wp2
    refine bodyPost_ret (v := .agg #[.int .i64 cc, .bool false, .slice none 0 0, .slice none 0 0]) (by simp [results, Tryd.results13, go_sem, r0, r1, r2, r3, i4]) rfl ⟨none, 0, none, 0, rfl, OwnC.nil _ _, ?_⟩
    repeat (first | exact B1 | (refine Below.alloc ?_ (by (try simp) <;> omega) _) | (refine Below.setCell ?_ (by (try simp) <;> omega) _))
  · have b1 : (cc != 0) = true := by simpa using h2
    clear h2 CP0
    have B0 : Below w.heap.size w ((((((w.alloc (.cells #[.slice x nr cx] 24)).alloc (.cells #[.int .i64 a] 2)).alloc (.cells #[.slice y nd cy] 22)).alloc (.cells #[.slice z np cz] 25)).alloc (.cells #[.int .i64 0, .bool false, .slice none 0 0, .slice none 0 0] 31))) := ((((((Below.refl _ _).alloc (Nat.le_refl _) _).alloc (by simp) _).alloc (by simp; omega) _).alloc (by simp; omega) _).alloc (by simp; omega) _)
    obtain ⟨E, hE⟩ : ∃ E, E = (((((w.alloc (.cells #[.slice x nr cx] 24)).alloc (.cells #[.int .i64 a] 2)).alloc (.cells #[.slice y nd cy] 22)).alloc (.cells #[.slice z np cz] 25)).alloc (.cells #[.int .i64 0, .bool false, .slice none 0 0, .slice none 0 0] 31)) := ⟨_, rfl⟩
    have zE : E.heap.size = w.heap.size + 5 := by rw [hE]; simp
    rw [← hE] at B0
    have OB : Hid (∀ wx : World, Below E.heap.size E wx → (wx.cell? ⟨w.heap.size, 0, none⟩ = some (.slice x nr cx) ∧ wx.cell? ⟨w.heap.size + 1, 0, none⟩ = some (.int .i64 a) ∧ wx.cell? ⟨w.heap.size + 2, 0, none⟩ = some (.slice y nd cy) ∧ wx.cell? ⟨w.heap.size + 3, 0, none⟩ = some (.slice z np cz)) ∧ (wx.cell? ⟨w.heap.size + 4, 0, none⟩ = some (.int .i64 0) ∧ wx.cell? ⟨w.heap.size + 4, 1, none⟩ = some (.bool false) ∧ wx.cell? ⟨w.heap.size + 4, 2, none⟩ = some (.slice none 0 0) ∧ wx.cell? ⟨w.heap.size + 4, 3, none⟩ = some (.slice none 0 0)) ∧ (wx.frozen? ⟨w.heap.size + 4, 0, none⟩ = false ∧ wx.frozen? ⟨w.heap.size + 4, 1, none⟩ = false ∧ wx.frozen? ⟨w.heap.size + 4, 2, none⟩ = false ∧ wx.frozen? ⟨w.heap.size + 4, 3, none⟩ = false) ∧ w.heap.size < wx.heap.size ∧ w.heap.size + 1 < wx.heap.size ∧ w.heap.size + 2 < wx.heap.size ∧ w.heap.size + 3 < wx.heap.size ∧ w.heap.size + 4 < wx.heap.size) := by
      intro wx h
      have hs := h.size
      refine ⟨⟨(h.cell (p := ⟨w.heap.size, 0, none⟩) (show w.heap.size < _ by omega)).trans ?_, (h.cell (p := ⟨w.heap.size + 1, 0, none⟩) (show w.heap.size + 1 < _ by omega)).trans ?_, (h.cell (p := ⟨w.heap.size + 2, 0, none⟩) (show w.heap.size + 2 < _ by omega)).trans ?_, (h.cell (p := ⟨w.heap.size + 3, 0, none⟩) (show w.heap.size + 3 < _ by omega)).trans ?_⟩, ⟨(h.cell (p := ⟨w.heap.size + 4, 0, none⟩) (show w.heap.size + 4 < _ by omega)).trans ?_, (h.cell (p := ⟨w.heap.size + 4, 1, none⟩) (show w.heap.size + 4 < _ by omega)).trans ?_, (h.cell (p := ⟨w.heap.size + 4, 2, none⟩) (show w.heap.size + 4 < _ by omega)).trans ?_, (h.cell (p := ⟨w.heap.size + 4, 3, none⟩) (show w.heap.size + 4 < _ by omega)).trans ?_⟩, ⟨(h.frozen (p := ⟨w.heap.size + 4, 0, none⟩) (show w.heap.size + 4 < _ by omega)).trans ?_, (h.frozen (p := ⟨w.heap.size + 4, 1, none⟩) (show w.heap.size + 4 < _ by omega)).trans ?_, (h.frozen (p := ⟨w.heap.size + 4, 2, none⟩) (show w.heap.size + 4 < _ by omega)).trans ?_, (h.frozen (p := ⟨w.heap.size + 4, 3, none⟩) (show w.heap.size + 4 < _ by omega)).trans ?_⟩, by omega, by omega, by omega, by omega, by omega⟩
      all_goals (rw [hE]; simp [go_sem])
    go_enter Tryd.func13, Tryd.ntmps13
    obtain ⟨⟨k0, k1, k2, k3⟩, ⟨r0, r1, r2, r3⟩, ⟨f0, f1, f2, f3⟩, i0, i1, i2, i3, i4⟩ := OB.out E (Below.refl _ _)
    go_wp2_with fail
    simp only [← hE]
    clear hE zE
    refine (PS.out _ B0).mono ?_
    rintro r u1 ⟨pa, pc, rfl, O1, hb1⟩
    have B1 := B0.trans (hb1.mono B0.size)
    clear k0 k1 k2 k3 r0 r1 r2 r3 f0 f1 f2 f3 i0 i1 i2 i3 i4
    obtain ⟨⟨k0, k1, k2, k3⟩, ⟨r0, r1, r2, r3⟩, ⟨f0, f1, f2, f3⟩, i0, i1, i2, i3, i4⟩ := OB.out u1 hb1
    obtain ⟨E1, hE1⟩ : ∃ E1, E1 = u1.alloc (.cells #[.int .i64 0, .slice pa ps.length pc] 35) := ⟨_, rfl⟩
    have q1 : u1.heap.size < E1.heap.size := by rw [hE1]; simp
    have D1 : Below E.heap.size E E1 := by rw [hE1]; exact hb1.alloc hb1.size _
    have W1 : Below w.heap.size w E1 := B0.trans (D1.mono B0.size)
    have V1 : Hid (∀ wx : World, Below E1.heap.size E1 wx → wx.cell? ⟨u1.heap.size, 0, none⟩ = some (.int .i64 0) ∧ wx.cell? ⟨u1.heap.size, 1, none⟩ = some (.slice pa ps.length pc) ∧ u1.heap.size < wx.heap.size) := fun wx h => ⟨(h.cell (p := ⟨u1.heap.size, 0, none⟩) q1).trans (by rw [hE1]; simp [go_sem]), (h.cell (p := ⟨u1.heap.size, 1, none⟩) q1).trans (by rw [hE1]; simp [go_sem]), Nat.lt_of_lt_of_le q1 h.size⟩
    have N1 : Hid (∀ wx : World, Below E1.heap.size E1 wx → World.ownsRow wx E.heap.size 2 1 (.slice pa (ps).length pc) (ps).length ((ps).map (.int .i64))) := fun wx h => own_below (by rw [hE1]; exact own_below O1 ((Below.refl _ _).alloc (Nat.le_refl _) _)) h
    go_wp2_with fail
    simp only [← hE1]
    refine (LS.out _ W1).mono ?_
    rintro r u2 ⟨rfl, hb2⟩
    clear hE1 hb1 O1
    clear k0 k1 k2 k3 r0 r1 r2 r3 f0 f1 f2 f3 i0 i1 i2 i3 i4
    have D2 := D1.trans (hb2.mono D1.size)
    have W2 := W1.trans (hb2.mono W1.size)
    obtain ⟨v10, v11, y1⟩ := V1.out _ hb2
    obtain ⟨⟨k0, k1, k2, k3⟩, ⟨r0, r1, r2, r3⟩, ⟨f0, f1, f2, f3⟩, i0, i1, i2, i3, i4⟩ := OB.out u2 D2
    go_wp2
    refine bodyPost_ret (v := .agg #[.int .i64 cc, .bool false, .slice none 0 0, .slice none 0 0]) (by simp [results, Tryd.results13, go_sem, r0, r1, r2, r3, i4]) rfl ⟨none, 0, none, 0, rfl, OwnC.nil _ _, ?_⟩
    repeat (first | exact W2 | (refine Below.alloc ?_ (by (try simp) <;> omega) _) | (refine Below.setCell ?_ (by (try simp) <;> omega) _))
  · have b1 : (cc != 0) = true := by simpa using h3
    have CP : Hid (_) := CP0 rfl
    clear h3 CP0
    have B0 : Below w.heap.size w ((((((w.alloc (.cells #[.slice x nr cx] 24)).alloc (.cells #[.int .i64 a] 2)).alloc (.cells #[.slice y nd cy] 22)).alloc (.cells #[.slice z np cz] 25)).alloc (.cells #[.int .i64 0, .bool false, .slice none 0 0, .slice none 0 0] 31))) := ((((((Below.refl _ _).alloc (Nat.le_refl _) _).alloc (by simp) _).alloc (by simp; omega) _).alloc (by simp; omega) _).alloc (by simp; omega) _)
    obtain ⟨E, hE⟩ : ∃ E, E = (((((w.alloc (.cells #[.slice x nr cx] 24)).alloc (.cells #[.int .i64 a] 2)).alloc (.cells #[.slice y nd cy] 22)).alloc (.cells #[.slice z np cz] 25)).alloc (.cells #[.int .i64 0, .bool false, .slice none 0 0, .slice none 0 0] 31)) := ⟨_, rfl⟩
    have zE : E.heap.size = w.heap.size + 5 := by rw [hE]; simp
    rw [← hE] at B0
    have OB : Hid (∀ wx : World, Below E.heap.size E wx → (wx.cell? ⟨w.heap.size, 0, none⟩ = some (.slice x nr cx) ∧ wx.cell? ⟨w.heap.size + 1, 0, none⟩ = some (.int .i64 a) ∧ wx.cell? ⟨w.heap.size + 2, 0, none⟩ = some (.slice y nd cy) ∧ wx.cell? ⟨w.heap.size + 3, 0, none⟩ = some (.slice z np cz)) ∧ (wx.cell? ⟨w.heap.size + 4, 0, none⟩ = some (.int .i64 0) ∧ wx.cell? ⟨w.heap.size + 4, 1, none⟩ = some (.bool false) ∧ wx.cell? ⟨w.heap.size + 4, 2, none⟩ = some (.slice none 0 0) ∧ wx.cell? ⟨w.heap.size + 4, 3, none⟩ = some (.slice none 0 0)) ∧ (wx.frozen? ⟨w.heap.size + 4, 0, none⟩ = false ∧ wx.frozen? ⟨w.heap.size + 4, 1, none⟩ = false ∧ wx.frozen? ⟨w.heap.size + 4, 2, none⟩ = false ∧ wx.frozen? ⟨w.heap.size + 4, 3, none⟩ = false) ∧ w.heap.size < wx.heap.size ∧ w.heap.size + 1 < wx.heap.size ∧ w.heap.size + 2 < wx.heap.size ∧ w.heap.size + 3 < wx.heap.size ∧ w.heap.size + 4 < wx.heap.size) := by
      intro wx h
      have hs := h.size
      refine ⟨⟨(h.cell (p := ⟨w.heap.size, 0, none⟩) (show w.heap.size < _ by omega)).trans ?_, (h.cell (p := ⟨w.heap.size + 1, 0, none⟩) (show w.heap.size + 1 < _ by omega)).trans ?_, (h.cell (p := ⟨w.heap.size + 2, 0, none⟩) (show w.heap.size + 2 < _ by omega)).trans ?_, (h.cell (p := ⟨w.heap.size + 3, 0, none⟩) (show w.heap.size + 3 < _ by omega)).trans ?_⟩, ⟨(h.cell (p := ⟨w.heap.size + 4, 0, none⟩) (show w.heap.size + 4 < _ by omega)).trans ?_, (h.cell (p := ⟨w.heap.size + 4, 1, none⟩) (show w.heap.size + 4 < _ by omega)).trans ?_, (h.cell (p := ⟨w.heap.size + 4, 2, none⟩) (show w.heap.size + 4 < _ by omega)).trans ?_, (h.cell (p := ⟨w.heap.size + 4, 3, none⟩) (show w.heap.size + 4 < _ by omega)).trans ?_⟩, ⟨(h.frozen (p := ⟨w.heap.size + 4, 0, none⟩) (show w.heap.size + 4 < _ by omega)).trans ?_, (h.frozen (p := ⟨w.heap.size + 4, 1, none⟩) (show w.heap.size + 4 < _ by omega)).trans ?_, (h.frozen (p := ⟨w.heap.size + 4, 2, none⟩) (show w.heap.size + 4 < _ by omega)).trans ?_, (h.frozen (p := ⟨w.heap.size + 4, 3, none⟩) (show w.heap.size + 4 < _ by omega)).trans ?_⟩, by omega, by omega, by omega, by omega, by omega⟩
      all_goals (rw [hE]; simp [go_sem])
    go_enter Tryd.func13, Tryd.ntmps13
    obtain ⟨⟨k0, k1, k2, k3⟩, ⟨r0, r1, r2, r3⟩, ⟨f0, f1, f2, f3⟩, i0, i1, i2, i3, i4⟩ := OB.out E (Below.refl _ _)
    go_wp2_with fail
    simp only [← hE]
    clear hE zE
    refine (PS.out _ B0).mono ?_
    rintro r u1 ⟨pa, pc, rfl, O1, hb1⟩
    have B1 := B0.trans (hb1.mono B0.size)
    clear k0 k1 k2 k3 r0 r1 r2 r3 f0 f1 f2 f3 i0 i1 i2 i3 i4
    obtain ⟨⟨k0, k1, k2, k3⟩, ⟨r0, r1, r2, r3⟩, ⟨f0, f1, f2, f3⟩, i0, i1, i2, i3, i4⟩ := OB.out u1 hb1
    obtain ⟨E1, hE1⟩ : ∃ E1, E1 = u1.alloc (.cells #[.int .i64 0, .slice pa ps.length pc] 35) := ⟨_, rfl⟩
    have q1 : u1.heap.size < E1.heap.size := by rw [hE1]; simp
    have D1 : Below E.heap.size E E1 := by rw [hE1]; exact hb1.alloc hb1.size _
    have W1 : Below w.heap.size w E1 := B0.trans (D1.mono B0.size)
    have V1 : Hid (∀ wx : World, Below E1.heap.size E1 wx → wx.cell? ⟨u1.heap.size, 0, none⟩ = some (.int .i64 0) ∧ wx.cell? ⟨u1.heap.size, 1, none⟩ = some (.slice pa ps.length pc) ∧ u1.heap.size < wx.heap.size) := fun wx h => ⟨(h.cell (p := ⟨u1.heap.size, 0, none⟩) q1).trans (by rw [hE1]; simp [go_sem]), (h.cell (p := ⟨u1.heap.size, 1, none⟩) q1).trans (by rw [hE1]; simp [go_sem]), Nat.lt_of_lt_of_le q1 h.size⟩
    have N1 : Hid (∀ wx : World, Below E1.heap.size E1 wx → World.ownsRow wx E.heap.size 2 1 (.slice pa (ps).length pc) (ps).length ((ps).map (.int .i64))) := fun wx h => own_below (by rw [hE1]; exact own_below O1 ((Below.refl _ _).alloc (Nat.le_refl _) _)) h
    go_wp2_with fail
    simp only [← hE1]
    refine (LS.out _ W1).mono ?_
    rintro r u2 ⟨rfl, hb2⟩
    clear hE1 hb1 O1
    clear k0 k1 k2 k3 r0 r1 r2 r3 f0 f1 f2 f3 i0 i1 i2 i3 i4
    have D2 := D1.trans (hb2.mono D1.size)
    have W2 := W1.trans (hb2.mono W1.size)
    obtain ⟨v10, v11, y1⟩ := V1.out _ hb2
    obtain ⟨⟨k0, k1, k2, k3⟩, ⟨r0, r1, r2, r3⟩, ⟨f0, f1, f2, f3⟩, i0, i1, i2, i3, i4⟩ := OB.out u2 D2
    obtain ⟨E2, hE2⟩ : ∃ E2, E2 = u2.alloc (.cells #[.int .i64 0, .int .i64 l] 40) := ⟨_, rfl⟩
    have q2 : u2.heap.size < E2.heap.size := by rw [hE2]; simp
    have DD2 : Below E.heap.size E E2 := by rw [hE2]; exact D2.alloc D2.size _
    have DE2 : Below E1.heap.size E1 E2 := by rw [hE2]; exact hb2.alloc hb2.size _
    have WE2 : Below w.heap.size w E2 := B0.trans (DD2.mono B0.size)
    have V2 : Hid (∀ wx : World, Below E2.heap.size E2 wx → wx.cell? ⟨u2.heap.size, 0, none⟩ = some (.int .i64 0) ∧ wx.cell? ⟨u2.heap.size, 1, none⟩ = some (.int .i64 l) ∧ u2.heap.size < wx.heap.size) := fun wx h => ⟨(h.cell (p := ⟨u2.heap.size, 0, none⟩) q2).trans (by rw [hE2]; simp [go_sem]), (h.cell (p := ⟨u2.heap.size, 1, none⟩) q2).trans (by rw [hE2]; simp [go_sem]), Nat.lt_of_lt_of_le q2 h.size⟩
    go_wp2_with fail
    simp only [← hE2]
    refine (CP.out _ WE2).mono ?_
    rintro r u3 ⟨rfl, hb3⟩
    clear hE2 v10 v11 y1
    clear k0 k1 k2 k3 r0 r1 r2 r3 f0 f1 f2 f3 i0 i1 i2 i3 i4
    have D3 := DD2.trans (hb3.mono DD2.size)
    have DE3 := DE2.trans (hb3.mono DE2.size)
    have W3 := WE2.trans (hb3.mono WE2.size)
    obtain ⟨v10, v11, y1⟩ := V1.out _ DE3
    obtain ⟨v20, v21, y2⟩ := V2.out _ hb3
    obtain ⟨⟨k0, k1, k2, k3⟩, ⟨r0, r1, r2, r3⟩, ⟨f0, f1, f2, f3⟩, i0, i1, i2, i3, i4⟩ := OB.out u3 D3
    go_wp2
    refine bodyPost_ret (v := .agg #[.int .i64 cc, .bool false, .slice none 0 0, .slice none 0 0]) (by simp [results, Tryd.results13, go_sem, r0, r1, r2, r3, i4]) rfl ⟨none, 0, none, 0, rfl, OwnC.nil _ _, ?_⟩
    repeat (first | exact W3 | (refine Below.alloc ?_ (by (try simp) <;> omega) _) | (refine Below.setCell ?_ (by (try simp) <;> omega) _))
  · have b1 : (cv != rv) = true := by simpa using h4
    have CP : Hid (_) := CP0 rfl
    clear h4 CP0
    have B0 : Below w.heap.size w ((((((w.alloc (.cells #[.slice x nr cx] 24)).alloc (.cells #[.int .i64 a] 2)).alloc (.cells #[.slice y nd cy] 22)).alloc (.cells #[.slice z np cz] 25)).alloc (.cells #[.int .i64 0, .bool false, .slice none 0 0, .slice none 0 0] 31))) := ((((((Below.refl _ _).alloc (Nat.le_refl _) _).alloc (by simp) _).alloc (by simp; omega) _).alloc (by simp; omega) _).alloc (by simp; omega) _)
    obtain ⟨E, hE⟩ : ∃ E, E = (((((w.alloc (.cells #[.slice x nr cx] 24)).alloc (.cells #[.int .i64 a] 2)).alloc (.cells #[.slice y nd cy] 22)).alloc (.cells #[.slice z np cz] 25)).alloc (.cells #[.int .i64 0, .bool false, .slice none 0 0, .slice none 0 0] 31)) := ⟨_, rfl⟩
    have zE : E.heap.size = w.heap.size + 5 := by rw [hE]; simp
    rw [← hE] at B0
    have OB : Hid (∀ wx : World, Below E.heap.size E wx → (wx.cell? ⟨w.heap.size, 0, none⟩ = some (.slice x nr cx) ∧ wx.cell? ⟨w.heap.size + 1, 0, none⟩ = some (.int .i64 a) ∧ wx.cell? ⟨w.heap.size + 2, 0, none⟩ = some (.slice y nd cy) ∧ wx.cell? ⟨w.heap.size + 3, 0, none⟩ = some (.slice z np cz)) ∧ (wx.cell? ⟨w.heap.size + 4, 0, none⟩ = some (.int .i64 0) ∧ wx.cell? ⟨w.heap.size + 4, 1, none⟩ = some (.bool false) ∧ wx.cell? ⟨w.heap.size + 4, 2, none⟩ = some (.slice none 0 0) ∧ wx.cell? ⟨w.heap.size + 4, 3, none⟩ = some (.slice none 0 0)) ∧ (wx.frozen? ⟨w.heap.size + 4, 0, none⟩ = false ∧ wx.frozen? ⟨w.heap.size + 4, 1, none⟩ = false ∧ wx.frozen? ⟨w.heap.size + 4, 2, none⟩ = false ∧ wx.frozen? ⟨w.heap.size + 4, 3, none⟩ = false) ∧ w.heap.size < wx.heap.size ∧ w.heap.size + 1 < wx.heap.size ∧ w.heap.size + 2 < wx.heap.size ∧ w.heap.size + 3 < wx.heap.size ∧ w.heap.size + 4 < wx.heap.size) := by
      intro wx h
      have hs := h.size
      refine ⟨⟨(h.cell (p := ⟨w.heap.size, 0, none⟩) (show w.heap.size < _ by omega)).trans ?_, (h.cell (p := ⟨w.heap.size + 1, 0, none⟩) (show w.heap.size + 1 < _ by omega)).trans ?_, (h.cell (p := ⟨w.heap.size + 2, 0, none⟩) (show w.heap.size + 2 < _ by omega)).trans ?_, (h.cell (p := ⟨w.heap.size + 3, 0, none⟩) (show w.heap.size + 3 < _ by omega)).trans ?_⟩, ⟨(h.cell (p := ⟨w.heap.size + 4, 0, none⟩) (show w.heap.size + 4 < _ by omega)).trans ?_, (h.cell (p := ⟨w.heap.size + 4, 1, none⟩) (show w.heap.size + 4 < _ by omega)).trans ?_, (h.cell (p := ⟨w.heap.size + 4, 2, none⟩) (show w.heap.size + 4 < _ by omega)).trans ?_, (h.cell (p := ⟨w.heap.size + 4, 3, none⟩) (show w.heap.size + 4 < _ by omega)).trans ?_⟩, ⟨(h.frozen (p := ⟨w.heap.size + 4, 0, none⟩) (show w.heap.size + 4 < _ by omega)).trans ?_, (h.frozen (p := ⟨w.heap.size + 4, 1, none⟩) (show w.heap.size + 4 < _ by omega)).trans ?_, (h.frozen (p := ⟨w.heap.size + 4, 2, none⟩) (show w.heap.size + 4 < _ by omega)).trans ?_, (h.frozen (p := ⟨w.heap.size + 4, 3, none⟩) (show w.heap.size + 4 < _ by omega)).trans ?_⟩, by omega, by omega, by omega, by omega, by omega⟩
      all_goals (rw [hE]; simp [go_sem])
    go_enter Tryd.func13, Tryd.ntmps13
    obtain ⟨⟨k0, k1, k2, k3⟩, ⟨r0, r1, r2, r3⟩, ⟨f0, f1, f2, f3⟩, i0, i1, i2, i3, i4⟩ := OB.out E (Below.refl _ _)
    go_wp2_with fail
    simp only [← hE]
    clear hE zE
    refine (PS.out _ B0).mono ?_
    rintro r u1 ⟨pa, pc, rfl, O1, hb1⟩
    have B1 := B0.trans (hb1.mono B0.size)
    clear k0 k1 k2 k3 r0 r1 r2 r3 f0 f1 f2 f3 i0 i1 i2 i3 i4
    obtain ⟨⟨k0, k1, k2, k3⟩, ⟨r0, r1, r2, r3⟩, ⟨f0, f1, f2, f3⟩, i0, i1, i2, i3, i4⟩ := OB.out u1 hb1
    obtain ⟨E1, hE1⟩ : ∃ E1, E1 = u1.alloc (.cells #[.int .i64 0, .slice pa ps.length pc] 35) := ⟨_, rfl⟩
    have q1 : u1.heap.size < E1.heap.size := by rw [hE1]; simp
    have D1 : Below E.heap.size E E1 := by rw [hE1]; exact hb1.alloc hb1.size _
    have W1 : Below w.heap.size w E1 := B0.trans (D1.mono B0.size)
    have V1 : Hid (∀ wx : World, Below E1.heap.size E1 wx → wx.cell? ⟨u1.heap.size, 0, none⟩ = some (.int .i64 0) ∧ wx.cell? ⟨u1.heap.size, 1, none⟩ = some (.slice pa ps.length pc) ∧ u1.heap.size < wx.heap.size) := fun wx h => ⟨(h.cell (p := ⟨u1.heap.size, 0, none⟩) q1).trans (by rw [hE1]; simp [go_sem]), (h.cell (p := ⟨u1.heap.size, 1, none⟩) q1).trans (by rw [hE1]; simp [go_sem]), Nat.lt_of_lt_of_le q1 h.size⟩
    have N1 : Hid (∀ wx : World, Below E1.heap.size E1 wx → World.ownsRow wx E.heap.size 2 1 (.slice pa (ps).length pc) (ps).length ((ps).map (.int .i64))) := fun wx h => own_below (by rw [hE1]; exact own_below O1 ((Below.refl _ _).alloc (Nat.le_refl _) _)) h
    go_wp2_with fail
    simp only [← hE1]
    refine (LS.out _ W1).mono ?_
    rintro r u2 ⟨rfl, hb2⟩
    clear hE1 hb1 O1
    clear k0 k1 k2 k3 r0 r1 r2 r3 f0 f1 f2 f3 i0 i1 i2 i3 i4
    have D2 := D1.trans (hb2.mono D1.size)
    have W2 := W1.trans (hb2.mono W1.size)
    obtain ⟨v10, v11, y1⟩ := V1.out _ hb2
    obtain ⟨⟨k0, k1, k2, k3⟩, ⟨r0, r1, r2, r3⟩, ⟨f0, f1, f2, f3⟩, i0, i1, i2, i3, i4⟩ := OB.out u2 D2
    obtain ⟨E2, hE2⟩ : ∃ E2, E2 = u2.alloc (.cells #[.int .i64 0, .int .i64 l] 40) := ⟨_, rfl⟩
    have q2 : u2.heap.size < E2.heap.size := by rw [hE2]; simp
    have DD2 : Below E.heap.size E E2 := by rw [hE2]; exact D2.alloc D2.size _
    have DE2 : Below E1.heap.size E1 E2 := by rw [hE2]; exact hb2.alloc hb2.size _
    have WE2 : Below w.heap.size w E2 := B0.trans (DD2.mono B0.size)
    have V2 : Hid (∀ wx : World, Below E2.heap.size E2 wx → wx.cell? ⟨u2.heap.size, 0, none⟩ = some (.int .i64 0) ∧ wx.cell? ⟨u2.heap.size, 1, none⟩ = some (.int .i64 l) ∧ u2.heap.size < wx.heap.size) := fun wx h => ⟨(h.cell (p := ⟨u2.heap.size, 0, none⟩) q2).trans (by rw [hE2]; simp [go_sem]), (h.cell (p := ⟨u2.heap.size, 1, none⟩) q2).trans (by rw [hE2]; simp [go_sem]), Nat.lt_of_lt_of_le q2 h.size⟩
    go_wp2_with fail
    simp only [← hE2]
    refine (CP.out _ WE2).mono ?_
    rintro r u3 ⟨rfl, hb3⟩
    clear hE2 v10 v11 y1
    clear k0 k1 k2 k3 r0 r1 r2 r3 f0 f1 f2 f3 i0 i1 i2 i3 i4
    have D3 := DD2.trans (hb3.mono DD2.size)
    have DE3 := DE2.trans (hb3.mono DE2.size)
    have W3 := WE2.trans (hb3.mono WE2.size)
    obtain ⟨v10, v11, y1⟩ := V1.out _ DE3
    obtain ⟨v20, v21, y2⟩ := V2.out _ hb3
    obtain ⟨⟨k0, k1, k2, k3⟩, ⟨r0, r1, r2, r3⟩, ⟨f0, f1, f2, f3⟩, i0, i1, i2, i3, i4⟩ := OB.out u3 D3
    obtain ⟨E3, hE3⟩ : ∃ E3, E3 = u3.alloc (.cells #[.int .i64 0, .int .i64 cv] 40) := ⟨_, rfl⟩
    have q3 : u3.heap.size < E3.heap.size := by rw [hE3]; simp
    have DD3 : Below E.heap.size E E3 := by rw [hE3]; exact D3.alloc D3.size _
    have DE31 : Below E1.heap.size E1 E3 := by rw [hE3]; exact DE3.alloc DE3.size _
    have DE32 : Below E2.heap.size E2 E3 := by rw [hE3]; exact hb3.alloc hb3.size _
    have WE3 : Below w.heap.size w E3 := B0.trans (DD3.mono B0.size)
    have g0 : ∀ wx : World, Below E3.heap.size E3 wx → wx.cell? ⟨u3.heap.size, 0, none⟩ = some (.int .i64 0) := fun wx h => (h.cell (p := ⟨u3.heap.size, 0, none⟩) q3).trans (by rw [hE3]; simp [go_sem])
    have g1 : ∀ wx : World, Below E3.heap.size E3 wx → wx.cell? ⟨u3.heap.size, 1, none⟩ = some (.int .i64 cv) := fun wx h => (h.cell (p := ⟨u3.heap.size, 1, none⟩) q3).trans (by rw [hE3]; simp [go_sem])
    have g2 : ∀ wx : World, Below E3.heap.size E3 wx → wx.cell? ⟨u1.heap.size, 1, none⟩ = some (.slice pa ps.length pc) := fun wx h => (V1.out _ (DE31.trans (h.mono DE31.size))).2.1
    have N3 : Hid (∀ wx : World, Below E3.heap.size E3 wx → World.ownsRow wx E.heap.size 2 1 (.slice pa (ps).length pc) (ps).length ((ps).map (.int .i64))) := fun wx h => N1.out _ (DE31.trans (h.mono DE31.size))
    have U0 : Below E3.heap.size E3 E3.drew := (Below.refl _ _).drew
    go_wp2_with fail
    simp only [← hE3]
    clear hE3 v10 v11 v20 v21 y1 y2
    clear k0 k1 k2 k3 r0 r1 r2 r3 f0 f1 f2 f3 i0 i1 i2 i3 i4
    have NE := neqR
    go_region_held3 (fun wx => Below E3.heap.size E3 wx)
      ((first | exact U0 | exact U1))
      ((first | (go_at_call_of 20 (Value.slice pa ps.length pc); refine (RT.out _ pa pc _ (WE3.trans (U0.mono WE3.size)) (N3.out _ U0)).mono ?_; rintro _ ua ⟨rfl, hba⟩; have U1 : Below E3.heap.size E3 ua := U0.trans (hba.mono U0.size)) | fail))
    clear hba
    have D4 : Below E.heap.size E ua := DD3.trans (U1.mono DD3.size)
    have D41 : Below E1.heap.size E1 ua := DE31.trans (U1.mono DE31.size)
    have D42 : Below E2.heap.size E2 ua := DE32.trans (U1.mono DE32.size)
    have W4 := B0.trans (D4.mono B0.size)
    obtain ⟨⟨k0, k1, k2, k3⟩, ⟨r0, r1, r2, r3⟩, ⟨f0, f1, f2, f3⟩, i0, i1, i2, i3, i4⟩ := OB.out ua D4
    go_wp2
    refine bodyPost_ret (v := .agg #[.int .i64 8, .bool false, .slice none 0 0, .slice none 0 0]) (by simp [results, Tryd.results13, go_sem, r0, r1, r2, r3, i4]) rfl ⟨none, 0, none, 0, rfl, OwnC.nil _ _, ?_⟩
    repeat (first | exact W4 | (refine Below.alloc ?_ (by (try simp) <;> omega) _) | (refine Below.setCell ?_ (by (try simp) <;> omega) _))

set_option maxHeartbeats 16000000 in
set_option maxRecDepth 100000 in
theorem implLeafClash_main (x y z : Option Addr) (cx cy cz nr nd np : Nat) (a : Int) (ps : List Int) (l cv : Int) (X : Cl) (w : World) (hnr : nr ≤ 1048576)
    (PS0 : ∀ u : World, Below w.heap.size w u → Calls Tryd.prog 15 #[.slice x nr cx] u fun r w' => ∃ pa pc, r = .returned (.agg #[.int .i64 0, .slice pa ps.length pc]) ∧ World.ownsRow w' u.heap.size 2 1 (.slice pa (ps).length pc) (ps).length ((ps).map (.int .i64)) ∧ Below u.heap.size u w')
    (LS0 : ∀ u : World, Below w.heap.size w u → Calls Tryd.prog 57 #[.slice y nd cy] u fun r w' => r = .returned (.agg #[.int .i64 0, .int .i64 l]) ∧ Below u.heap.size u w')
    (CP0 : ∀ u : World, Below w.heap.size w u → Calls Tryd.prog 58 #[.int .i64 l, .int .i64 a, .int .i64 nr, .slice z np cz] u fun r w' => r = .returned (.agg #[.int .i64 0, .int .i64 cv]) ∧ Below u.heap.size u w')
    (RT0 : ∀ (u : World) (pa : Option Addr) (pc base : Nat), Below w.heap.size w u → World.ownsRow u base 2 1 (.slice pa (ps).length pc) (ps).length ((ps).map (.int .i64)) → Calls Tryd.prog 20 #[.slice pa ps.length pc] u fun r w' => r = .returned (.agg #[.int .i64 0, .int .i64 cv]) ∧ Below u.heap.size u w')
    (LC0 : ∀ (u : World) (qv qa qp qs qd ql : Nat) (pa : Option Addr) (pc base : Nat), Below w.heap.size w u → u.cell? ⟨qv, 1, none⟩ = some (.int .i64 l) → u.cell? ⟨qa, 0, none⟩ = some (.int .i64 a) → u.cell? ⟨qp, 0, none⟩ = some (.slice z np cz) → u.cell? ⟨qs, 1, none⟩ = some (.slice pa ps.length pc) → u.cell? ⟨qd, 0, none⟩ = some (.slice y nd cy) → u.cell? ⟨ql, 0, none⟩ = some (.slice x nr cx) → qa < u.heap.size → qd < u.heap.size → ql < u.heap.size → World.ownsRow u base 2 1 (.slice pa (ps).length pc) (ps).length ((ps).map (.int .i64)) → Calls Tryd.prog 60 #[.pointer (some ⟨qv, 0, none⟩), .pointer (some ⟨qa, 0, none⟩), .pointer (some ⟨qp, 0, none⟩), .pointer (some ⟨qs, 0, none⟩), .pointer (some ⟨qd, 0, none⟩), .pointer (some ⟨ql, 0, none⟩)] u (WkE X u)) :
    Calls Tryd.prog 13 #[.slice x nr cx, .int .i64 a, .slice y nd cy, .slice z np cz] w fun r w' => ∃ a1 c1 a2 c2, r = .returned (.agg #[.int .i64 (0), .bool (X).isSome, .slice a1 (clA (X)).length c1, .slice a2 (clB (X)).length c2]) ∧ OwnC w' w.heap.size a1 a2 c1 c2 (clA (X)) (clB (X)) ∧ Below w.heap.size w w' := by
  obtain ⟨rv, hrv⟩ : ∃ rv, rv = cv := ⟨cv, rfl⟩
  have PS : Hid (_) := PS0
  have LS : Hid (_) := LS0
  have CP : Hid (_) := CP0
  have RT : Hid (∀ (u : World) (pa : Option Addr) (pc base : Nat), Below w.heap.size w u → World.ownsRow u base 2 1 (.slice pa (ps).length pc) (ps).length ((ps).map (.int .i64)) → Calls Tryd.prog 20 #[.slice pa ps.length pc] u fun r w' => r = .returned (.agg #[.int .i64 0, .int .i64 rv]) ∧ Below u.heap.size u w') := by rw [hrv]; exact RT0
  have LC : Hid (_) := LC0
  have b1 : (cv != rv) = false := by simp [hrv]
  clear PS0 LS0 CP0 RT0 LC0 hrv
  have hmf : ∀ (fn : Fn) (first cap : Array Value) (w : World), (Instr.makeFunc fn first cap).run Tryd.prog w = .ok (.func fn first cap) w := fun _ _ _ _ => rfl
  have B0 : Below w.heap.size w ((((((w.alloc (.cells #[.slice x nr cx] 24)).alloc (.cells #[.int .i64 a] 2)).alloc (.cells #[.slice y nd cy] 22)).alloc (.cells #[.slice z np cz] 25)).alloc (.cells #[.int .i64 0, .bool false, .slice none 0 0, .slice none 0 0] 31))) := ((((((Below.refl _ _).alloc (Nat.le_refl _) _).alloc (by simp) _).alloc (by simp; omega) _).alloc (by simp; omega) _).alloc (by simp; omega) _)
  obtain ⟨E, hE⟩ : ∃ E, E = (((((w.alloc (.cells #[.slice x nr cx] 24)).alloc (.cells #[.int .i64 a] 2)).alloc (.cells #[.slice y nd cy] 22)).alloc (.cells #[.slice z np cz] 25)).alloc (.cells #[.int .i64 0, .bool false, .slice none 0 0, .slice none 0 0] 31)) := ⟨_, rfl⟩
  have zE : E.heap.size = w.heap.size + 5 := by rw [hE]; simp
  rw [← hE] at B0
  have OB : Hid (∀ wx : World, Below E.heap.size E wx → (wx.cell? ⟨w.heap.size, 0, none⟩ = some (.slice x nr cx) ∧ wx.cell? ⟨w.heap.size + 1, 0, none⟩ = some (.int .i64 a) ∧ wx.cell? ⟨w.heap.size + 2, 0, none⟩ = some (.slice y nd cy) ∧ wx.cell? ⟨w.heap.size + 3, 0, none⟩ = some (.slice z np cz)) ∧ (wx.cell? ⟨w.heap.size + 4, 0, none⟩ = some (.int .i64 0) ∧ wx.cell? ⟨w.heap.size + 4, 1, none⟩ = some (.bool false) ∧ wx.cell? ⟨w.heap.size + 4, 2, none⟩ = some (.slice none 0 0) ∧ wx.cell? ⟨w.heap.size + 4, 3, none⟩ = some (.slice none 0 0)) ∧ (wx.frozen? ⟨w.heap.size + 4, 0, none⟩ = false ∧ wx.frozen? ⟨w.heap.size + 4, 1, none⟩ = false ∧ wx.frozen? ⟨w.heap.size + 4, 2, none⟩ = false ∧ wx.frozen? ⟨w.heap.size + 4, 3, none⟩ = false) ∧ w.heap.size < wx.heap.size ∧ w.heap.size + 1 < wx.heap.size ∧ w.heap.size + 2 < wx.heap.size ∧ w.heap.size + 3 < wx.heap.size ∧ w.heap.size + 4 < wx.heap.size) := by
    intro wx h
    have hs := h.size
    refine ⟨⟨(h.cell (p := ⟨w.heap.size, 0, none⟩) (show w.heap.size < _ by omega)).trans ?_, (h.cell (p := ⟨w.heap.size + 1, 0, none⟩) (show w.heap.size + 1 < _ by omega)).trans ?_, (h.cell (p := ⟨w.heap.size + 2, 0, none⟩) (show w.heap.size + 2 < _ by omega)).trans ?_, (h.cell (p := ⟨w.heap.size + 3, 0, none⟩) (show w.heap.size + 3 < _ by omega)).trans ?_⟩, ⟨(h.cell (p := ⟨w.heap.size + 4, 0, none⟩) (show w.heap.size + 4 < _ by omega)).trans ?_, (h.cell (p := ⟨w.heap.size + 4, 1, none⟩) (show w.heap.size + 4 < _ by omega)).trans ?_, (h.cell (p := ⟨w.heap.size + 4, 2, none⟩) (show w.heap.size + 4 < _ by omega)).trans ?_, (h.cell (p := ⟨w.heap.size + 4, 3, none⟩) (show w.heap.size + 4 < _ by omega)).trans ?_⟩, ⟨(h.frozen (p := ⟨w.heap.size + 4, 0, none⟩) (show w.heap.size + 4 < _ by omega)).trans ?_, (h.frozen (p := ⟨w.heap.size + 4, 1, none⟩) (show w.heap.size + 4 < _ by omega)).trans ?_, (h.frozen (p := ⟨w.heap.size + 4, 2, none⟩) (show w.heap.size + 4 < _ by omega)).trans ?_, (h.frozen (p := ⟨w.heap.size + 4, 3, none⟩) (show w.heap.size + 4 < _ by omega)).trans ?_⟩, by omega, by omega, by omega, by omega, by omega⟩
    all_goals (rw [hE]; simp [go_sem])
  go_enter Tryd.func13, Tryd.ntmps13
  obtain ⟨⟨k0, k1, k2, k3⟩, ⟨r0, r1, r2, r3⟩, ⟨f0, f1, f2, f3⟩, i0, i1, i2, i3, i4⟩ := OB.out E (Below.refl _ _)
  go_wp2_with fail
  simp only [← hE]
  clear hE zE
  refine (PS.out _ B0).mono ?_
  rintro r u1 ⟨pa, pc, rfl, O1, hb1⟩
  have B1 := B0.trans (hb1.mono B0.size)
  clear k0 k1 k2 k3 r0 r1 r2 r3 f0 f1 f2 f3 i0 i1 i2 i3 i4
  obtain ⟨⟨k0, k1, k2, k3⟩, ⟨r0, r1, r2, r3⟩, ⟨f0, f1, f2, f3⟩, i0, i1, i2, i3, i4⟩ := OB.out u1 hb1
  obtain ⟨E1, hE1⟩ : ∃ E1, E1 = u1.alloc (.cells #[.int .i64 0, .slice pa ps.length pc] 35) := ⟨_, rfl⟩
  have q1 : u1.heap.size < E1.heap.size := by rw [hE1]; simp
  have D1 : Below E.heap.size E E1 := by rw [hE1]; exact hb1.alloc hb1.size _
  have W1 : Below w.heap.size w E1 := B0.trans (D1.mono B0.size)
  have V1 : Hid (∀ wx : World, Below E1.heap.size E1 wx → wx.cell? ⟨u1.heap.size, 0, none⟩ = some (.int .i64 0) ∧ wx.cell? ⟨u1.heap.size, 1, none⟩ = some (.slice pa ps.length pc) ∧ u1.heap.size < wx.heap.size) := fun wx h => ⟨(h.cell (p := ⟨u1.heap.size, 0, none⟩) q1).trans (by rw [hE1]; simp [go_sem]), (h.cell (p := ⟨u1.heap.size, 1, none⟩) q1).trans (by rw [hE1]; simp [go_sem]), Nat.lt_of_lt_of_le q1 h.size⟩
  have N1 : Hid (∀ wx : World, Below E1.heap.size E1 wx → World.ownsRow wx E.heap.size 2 1 (.slice pa (ps).length pc) (ps).length ((ps).map (.int .i64))) := fun wx h => own_below (by rw [hE1]; exact own_below O1 ((Below.refl _ _).alloc (Nat.le_refl _) _)) h
  go_wp2_with fail
  simp only [← hE1]
  refine (LS.out _ W1).mono ?_
  rintro r u2 ⟨rfl, hb2⟩
  clear hE1 hb1 O1
  clear k0 k1 k2 k3 r0 r1 r2 r3 f0 f1 f2 f3 i0 i1 i2 i3 i4
  have D2 := D1.trans (hb2.mono D1.size)
  have W2 := W1.trans (hb2.mono W1.size)
  obtain ⟨v10, v11, y1⟩ := V1.out _ hb2
  obtain ⟨⟨k0, k1, k2, k3⟩, ⟨r0, r1, r2, r3⟩, ⟨f0, f1, f2, f3⟩, i0, i1, i2, i3, i4⟩ := OB.out u2 D2
  obtain ⟨E2, hE2⟩ : ∃ E2, E2 = u2.alloc (.cells #[.int .i64 0, .int .i64 l] 40) := ⟨_, rfl⟩
  have q2 : u2.heap.size < E2.heap.size := by rw [hE2]; simp
  have DD2 : Below E.heap.size E E2 := by rw [hE2]; exact D2.alloc D2.size _
  have DE2 : Below E1.heap.size E1 E2 := by rw [hE2]; exact hb2.alloc hb2.size _
  have WE2 : Below w.heap.size w E2 := B0.trans (DD2.mono B0.size)
  have V2 : Hid (∀ wx : World, Below E2.heap.size E2 wx → wx.cell? ⟨u2.heap.size, 0, none⟩ = some (.int .i64 0) ∧ wx.cell? ⟨u2.heap.size, 1, none⟩ = some (.int .i64 l) ∧ u2.heap.size < wx.heap.size) := fun wx h => ⟨(h.cell (p := ⟨u2.heap.size, 0, none⟩) q2).trans (by rw [hE2]; simp [go_sem]), (h.cell (p := ⟨u2.heap.size, 1, none⟩) q2).trans (by rw [hE2]; simp [go_sem]), Nat.lt_of_lt_of_le q2 h.size⟩
  go_wp2_with fail
  simp only [← hE2]
  refine (CP.out _ WE2).mono ?_
  rintro r u3 ⟨rfl, hb3⟩
  clear hE2 v10 v11 y1
  clear k0 k1 k2 k3 r0 r1 r2 r3 f0 f1 f2 f3 i0 i1 i2 i3 i4
  have D3 := DD2.trans (hb3.mono DD2.size)
  have DE3 := DE2.trans (hb3.mono DE2.size)
  have W3 := WE2.trans (hb3.mono WE2.size)
  obtain ⟨v10, v11, y1⟩ := V1.out _ DE3
  obtain ⟨v20, v21, y2⟩ := V2.out _ hb3
  obtain ⟨⟨k0, k1, k2, k3⟩, ⟨r0, r1, r2, r3⟩, ⟨f0, f1, f2, f3⟩, i0, i1, i2, i3, i4⟩ := OB.out u3 D3
  obtain ⟨E3, hE3⟩ : ∃ E3, E3 = u3.alloc (.cells #[.int .i64 0, .int .i64 cv] 40) := ⟨_, rfl⟩
  have q3 : u3.heap.size < E3.heap.size := by rw [hE3]; simp
  have DD3 : Below E.heap.size E E3 := by rw [hE3]; exact D3.alloc D3.size _
  have DE31 : Below E1.heap.size E1 E3 := by rw [hE3]; exact DE3.alloc DE3.size _
  have DE32 : Below E2.heap.size E2 E3 := by rw [hE3]; exact hb3.alloc hb3.size _
  have WE3 : Below w.heap.size w E3 := B0.trans (DD3.mono B0.size)
  have g0 : ∀ wx : World, Below E3.heap.size E3 wx → wx.cell? ⟨u3.heap.size, 0, none⟩ = some (.int .i64 0) := fun wx h => (h.cell (p := ⟨u3.heap.size, 0, none⟩) q3).trans (by rw [hE3]; simp [go_sem])
  have g1 : ∀ wx : World, Below E3.heap.size E3 wx → wx.cell? ⟨u3.heap.size, 1, none⟩ = some (.int .i64 cv) := fun wx h => (h.cell (p := ⟨u3.heap.size, 1, none⟩) q3).trans (by rw [hE3]; simp [go_sem])
  have g2 : ∀ wx : World, Below E3.heap.size E3 wx → wx.cell? ⟨u1.heap.size, 1, none⟩ = some (.slice pa ps.length pc) := fun wx h => (V1.out _ (DE31.trans (h.mono DE31.size))).2.1
  have N3 : Hid (∀ wx : World, Below E3.heap.size E3 wx → World.ownsRow wx E.heap.size 2 1 (.slice pa (ps).length pc) (ps).length ((ps).map (.int .i64))) := fun wx h => N1.out _ (DE31.trans (h.mono DE31.size))
  have U0 : Below E3.heap.size E3 E3.drew := (Below.refl _ _).drew
  go_wp2_with fail
  simp only [← hE3]
  clear hE3 v10 v11 v20 v21 y1 y2
  clear k0 k1 k2 k3 r0 r1 r2 r3 f0 f1 f2 f3 i0 i1 i2 i3 i4
  have NE := neqR
  go_region_held3 (fun wx => Below E3.heap.size E3 wx)
    ((first | exact U0 | exact U1))
    ((first | (go_at_call_of 20 (Value.slice pa ps.length pc); refine (RT.out _ pa pc _ (WE3.trans (U0.mono WE3.size)) (N3.out _ U0)).mono ?_; rintro _ ua ⟨rfl, hba⟩; have U1 : Below E3.heap.size E3 ua := U0.trans (hba.mono U0.size)) | fail))
  clear hba
  have D4 : Below E.heap.size E ua := DD3.trans (U1.mono DD3.size)
  have D41 : Below E1.heap.size E1 ua := DE31.trans (U1.mono DE31.size)
  have D42 : Below E2.heap.size E2 ua := DE32.trans (U1.mono DE32.size)
  have W4 := B0.trans (D4.mono B0.size)
  obtain ⟨⟨k0, k1, k2, k3⟩, ⟨r0, r1, r2, r3⟩, ⟨f0, f1, f2, f3⟩, i0, i1, i2, i3, i4⟩ := OB.out ua D4
  have CO : Hid (_) := clashOn_any 60 #[.pointer (some ⟨u2.heap.size, 0, none⟩), .pointer (some ⟨w.heap.size + 1, 0, none⟩), .pointer (some ⟨w.heap.size + 3, 0, none⟩), .pointer (some ⟨u1.heap.size, 0, none⟩), .pointer (some ⟨w.heap.size + 2, 0, none⟩), .pointer (some ⟨w.heap.size, 0, none⟩)] X ua (fun u hu => LC.out u u2.heap.size (w.heap.size + 1) (w.heap.size + 3) u1.heap.size (w.heap.size + 2) w.heap.size pa pc _ (W4.trans (hu.mono W4.size)) (V2.out _ (D42.trans (hu.mono D42.size))).2.1 (OB.out _ (D4.trans (hu.mono D4.size))).1.2.1 (OB.out _ (D4.trans (hu.mono D4.size))).1.2.2.2 (V1.out _ (D41.trans (hu.mono D41.size))).2.1 (OB.out _ (D4.trans (hu.mono D4.size))).1.2.2.1 (OB.out _ (D4.trans (hu.mono D4.size))).1.1 (OB.out _ (D4.trans (hu.mono D4.size))).2.2.2.2.1 (OB.out _ (D4.trans (hu.mono D4.size))).2.2.2.2.2.1 (OB.out _ (D4.trans (hu.mono D4.size))).2.2.2.1 (N1.out _ (D41.trans (hu.mono D41.size)))) (fun u => by simp [go_sem])
  have z5 : w.heap.size + 4 < ua.heap.size := i4
  have z6 : w.heap.size ≤ ua.heap.size := by omega
  clear k0 k1 k2 k3 r0 r1 r2 r3 f0 f1 f2 f3 i0 i1 i2 i3 i4
  go_wp2_with fail
  refine Calls.mono (P := Tryd.prog) (f := 59) CO.out ?_
  rintro r u4 ⟨a1', c1', a2', c2', rfl, O4, hb4⟩
  have D5 := D4.trans (hb4.mono D4.size)
  have W5 := W4.trans (hb4.mono W4.size)
  obtain ⟨⟨k0, k1, k2, k3⟩, ⟨r0, r1, r2, r3⟩, ⟨f0, f1, f2, f3⟩, i0, i1, i2, i3, i4⟩ := OB.out u4 D5
  have O4' : Hid (OwnC u4 ua.heap.size a1' a2' c1' c2' (clA X) (clB X)) := O4
  clear O4 CO hb4
  go_wp2
  refine bodyPost_ret (v := .agg #[.int .i64 0, .bool X.isSome, .slice a1' (clA X).length c1', .slice a2' (clB X).length c2']) (by simp [results, Tryd.results13, go_sem, r0, r1, r2, r3, i4]) rfl ⟨a1', c1', a2', c2', rfl, ?_, ?_⟩
  · exact ((((O4'.out.set _ _ z5).set _ _ z5).set _ _ z5).set _ _ z5).mono z6
  · repeat (first | exact W5 | (refine Below.setCell ?_ (by (try simp) <;> omega) _))

theorem psL_ok (rs : List Pc) : lvF (psL rs) = 0 ∧ (psL rs).length ≤ 24 := by
  unfold psL
  split
  · obtain ⟨h1, _⟩ := pcF_zero ‹_›
    have hl := smL_len rs
    refine ⟨?_, by omega⟩
    unfold lvF
    rw [if_neg (by omega), if_pos (smL_all rs)]
  · exact ⟨by simp [lvF, allS], by simp⟩

set_option maxHeartbeats 2000000 in
theorem implLeafClash_any (x y z : Option Addr) (cx cy cz : Nat) (rs : List Pc) (a : Int) (ds p : List Int) (w : World) (hT : Tab w) (hx : HasP w x rs) (hy : Has w .u8 y ds.length ds) (hz : Has w .i64 z p.length p) (lx : rs.length ≤ 1048576) (lr : ∀ r ∈ rs, r.zs.length ≤ 1048576) (ly : ds.length ≤ 1048576) (lz : p.length ≤ 1048576) (hcz : p.length ≤ cz) (hmz : cz ≤ maxLen) :
    Calls Tryd.prog 13 #[.slice x rs.length cx, .int .i64 a, .slice y ds.length cy, .slice z p.length cz] w fun r w' => ∃ a1 c1 a2 c2, r = .returned (.agg #[.int .i64 (lkC rs a ds p), .bool (lkX rs a ds p).isSome, .slice a1 (clA (lkX rs a ds p)).length c1, .slice a2 (clB (lkX rs a ds p)).length c2]) ∧ OwnC w' w.heap.size a1 a2 c1 c2 (clA (lkX rs a ds p)) (clB (lkX rs a ds p)) ∧ Below w.heap.size w w' := by
  have PS : ∀ u : World, Below w.heap.size w u → Calls Tryd.prog 15 #[.slice x rs.length cx] u fun r w' => ∃ pa pc, r = .returned (.agg #[.int .i64 (pcF rs), .slice pa (psL rs).length pc]) ∧ World.ownsRow w' u.heap.size 2 1 (.slice pa (psL rs).length pc) (psL rs).length ((psL rs).map (.int .i64)) ∧ Below u.heap.size u w' := fun u hu => implPieceSums_any x cx rs u (hT.below hu (Nat.le_refl _)) (hx.below hu (Nat.le_refl _)) lx lr
  have LS : ∀ u : World, Below w.heap.size w u → Calls Tryd.prog 57 #[.slice y ds.length cy] u fun r w' => r = .returned (.agg #[.int .i64 (leafC ds), .int .i64 (leafV ds)]) ∧ Below u.heap.size u w' := fun u hu => implLeafSum_any y cy ds u (hT.below hu (Nat.le_refl _)) (hy.below hu (Nat.le_refl _))
  have CP : ∀ u : World, Below w.heap.size w u → Calls Tryd.prog 58 #[.int .i64 (leafV ds), .int .i64 a, .int .i64 rs.length, .slice z p.length cz] u fun r w' => r = .returned (.agg #[.int .i64 (clC (leafV ds) a rs.length p), .int .i64 (clV (leafV ds) a rs.length p)]) ∧ Below u.heap.size u w' := fun u hu => implClimb_any (leafV ds) a rs.length z cz p u (hT.below hu (Nat.le_refl _)) (hz.below hu (Nat.le_refl _)) lz hcz hmz
  obtain ⟨pf0, pf24⟩ := psL_ok rs
  have PW : ∀ n ∈ psL rs, (Lit.int .i64 n).wf = true := by
    intro n hn
    have ha := (lvF_zero pf0).2
    unfold allS at ha
    rw [List.all_eq_true] at ha
    have := ha n hn
    simp at this
    exact WalkArith.wf_i64 (by omega)
  have RT : ∀ (u : World) (pa : Option Addr) (pc base : Nat), Below w.heap.size w u → World.ownsRow u base 2 1 (.slice pa (psL rs).length pc) (psL rs).length ((psL rs).map (.int .i64)) → Calls Tryd.prog 20 #[.slice pa (psL rs).length pc] u fun r w' => r = .returned (.agg #[.int .i64 0, .int .i64 (rtV (psL rs))]) ∧ Below u.heap.size u w' := by
    intro u pa pc base hu ho
    obtain ⟨k1, k2⟩ := own_caps6 ho
    have := implRootOf_any pa pc (psL rs) u (hT.below hu (Nat.le_refl _)) (has_of_own ho PW) (by omega) k1 k2
    rw [pf0] at this
    exact this
  by_cases hk : lkC rs a ds p = 0
  · have hk' := hk
    unfold lkC at hk'
    by_cases h0 : pcF rs = 0
    · rw [if_pos h0] at hk'
      by_cases h1 : 250 < ds.length
      · rw [if_pos h1] at hk'; omega
      · rw [if_neg h1] at hk'
        by_cases h2 : clC (sumL (leafL ds)) a rs.length p = 0
        · rw [if_pos h2] at hk'
          by_cases h3 : clM nS (sumL (leafL ds)) a rs.length p = rtM nS 11 (smL rs)
          · obtain ⟨g24, g250⟩ := pcF_zero h0
            obtain ⟨m1, m2, m3, m4, m5, m6⟩ := clC_ok h2
            have eC : leafC ds = 0 := by unfold leafC; rw [if_neg h1]
            have eV : leafV ds = sumL (leafL ds) := by unfold leafV; rw [if_neg h1]
            have eP : psL rs = smL rs := by unfold psL; rw [if_pos h0]
            have eK : clV (sumL (leafL ds)) a rs.length p = clM nS (sumL (leafL ds)) a rs.length p := by unfold clV; rw [if_pos h2]
            have eR : rtV (smL rs) = clM nS (sumL (leafL ds)) a rs.length p := by
              unfold rtV
              rw [← eP, if_pos pf0, eP]
              exact h3.symm
            rw [eP] at PS RT PW pf24
            rw [h0] at PS
            rw [eC, eV] at LS
            rw [eV, h2, eK] at CP
            rw [eR] at RT
            obtain ⟨j, hj⟩ : ∃ j : Nat, a = j := ⟨a.toNat, by omega⟩
            subst hj
            have hjl : j < rs.length := by omega
            obtain ⟨bx, ox, hx1, hbx, hcell⟩ : ∃ b off, x = some ⟨b, off, none⟩ ∧ b < w.heap.size ∧ ∀ i (h : i < rs.length), w.cell? ⟨b, off + i, none⟩ = some (.slice rs[i].ad rs[i].zs.length rs[i].cap) := by
              rcases hx.1 with c | h
              · omega
              · exact h
            subst hx1
            have hX : lkX rs j ds p = (lfC (smL rs) j (sumL (leafL ds)) p <|> lookC (leafL ds) (leafL rs[j].zs)) := by
              unfold lkX
              rw [if_pos hk]
              congr 3
              simp [List.getD, hjl]
            rw [hk, hX]
            refine implLeafClash_main _ y z cx cy cz rs.length ds.length p.length j (smL rs) (sumL (leafL ds)) _ _ w lx PS LS CP RT ?_
            intro u qv qa qp qs qd ql pa pc base hu c0 c1 c2 c3 c4 c5 l1 l2 l3 ho
            have hrow := hx.2 rs[j] (List.getElem_mem hjl)
            have hSl := smL_len rs
            refine leafClash1_any qv qa qp qs qd ql bx ox j p.length cz ds.length cy rs.length cx (smL rs).length pc rs[j].zs.length rs[j].cap _ z y pa rs[j].ad _ _ u c0 c1 c2 c3 c4 c5 ((hu.cell (p := ⟨bx, ox + j, none⟩) hbx).trans (hcell j hjl)) hjl l1 l2 l3 (Nat.lt_of_lt_of_le hbx hu.size) ?_ ?_
            · intro u' ql qp qa qf hu' d0 d1 d2 d3 e0 e1 e2 e3
              obtain ⟨k1, k2⟩ := own_caps6 ho
              exact leafWalk1_any _ ql qp qa qf _ _ pc cz (smL rs) p j _ u' (Nat.le_refl _) (by omega) (by omega) (by omega) (by omega) (by rw [hSl]; exact m4) (smL_all rs) m5 (sum_bd _) (hT.below (hu.trans (hu'.mono hu.size)) (Nat.le_refl _)) ((has_of_own ho PW).below hu' (Nat.le_refl _)) (hz.below (hu.trans (hu'.mono hu.size)) (Nat.le_refl _)) k1 k2 hcz hmz d0 d1 d2 d3 e0 e1 e2 e3
            · intro u' hu'
              have hh := hu.trans (hu'.mono hu.size)
              exact lookInLeaves_any y rs[j].ad cy rs[j].cap ds rs[j].zs u' (hT.below hh (Nat.le_refl _)) (hy.below hh (Nat.le_refl _)) (hrow.1.below hh (Nat.le_refl _)) (by omega) (g250 _ (List.getElem_mem hjl))
          · rw [if_neg h3] at hk'; omega
        · rw [if_neg h2] at hk'; exact absurd hk' h2
    · rw [if_neg h0] at hk'; exact absurd hk' h0
  · have hX : lkX rs a ds p = none := by unfold lkX; rw [if_neg hk]
    rw [hX]
    refine implLeafClash_no x y z cx cy cz rs.length ds.length p.length a (lkC rs a ds p) (psL rs) (pcF rs) (leafC ds) (clC (leafV ds) a rs.length p) (leafV ds) (clV (leafV ds) a rs.length p) (rtV (psL rs)) w ?_ lx PS LS (fun _ => CP) RT
    unfold lkC at hk ⊢
    by_cases h0 : pcF rs = 0
    · rw [if_pos h0] at hk ⊢
      by_cases h1 : 250 < ds.length
      · exact .inr (.inl ⟨h0, by unfold leafC; rw [if_pos h1]; decide, by unfold leafC; rw [if_pos h1, if_pos h1]⟩)
      · have eC : leafC ds = 0 := by unfold leafC; rw [if_neg h1]
        have eV : leafV ds = sumL (leafL ds) := by unfold leafV; rw [if_neg h1]
        rw [if_neg h1] at hk ⊢
        rw [eC, eV]
        by_cases h2 : clC (sumL (leafL ds)) a rs.length p = 0
        · rw [if_pos h2] at hk ⊢
          by_cases h3 : clM nS (sumL (leafL ds)) a rs.length p = rtM nS 11 (smL rs)
          · rw [if_pos h3] at hk; exact absurd rfl hk
          · refine .inr (.inr (.inr ⟨h0, rfl, h2, ?_, by rw [if_neg h3]⟩))
            have eP : psL rs = smL rs := by unfold psL; rw [if_pos h0]
            unfold clV rtV
            rw [if_pos h2, if_pos pf0, eP]
            exact h3
        · rw [if_neg h2] at hk ⊢
          exact .inr (.inr (.inl ⟨h0, rfl, h2, rfl⟩))
    · rw [if_neg h0] at hk ⊢
      exact .inl ⟨h0, rfl⟩

end Go.Proofs.YtklhkhlmhddmcaaDoor
