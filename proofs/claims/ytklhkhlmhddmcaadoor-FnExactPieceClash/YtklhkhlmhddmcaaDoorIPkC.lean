/- Contracts: the program's PieceClash. -/
import Derived.Test.YtklhkhlmhddmcaaDoorIPk
import Derived.Deep.DeepCutAuto
import Derived.Deep.RegionHeld2
import Derived.Deep.RegionHeld3
namespace Go.Proofs.YtklhkhlmhddmcaaDoor
open Go.ChangeShapes Go.WideShapes Go.ChangeAt Go.RowKit
set_option linter.unusedVariables false
set_option linter.unusedSimpArgs false

theorem fldI6 (x : Int) (a : Option Addr) (n c : Nat) (w : World) : (Instr.field 35 (.agg #[.int .i64 x, .slice a n c]) 1).run Tryd.prog w = .ok (.slice a n c) w := by kernel_rfl
theorem var4s {V ua : World} {c0 c1 c2 c3 : Value} {T : Nat} (h : Below (V.alloc (.cells #[c0, c1, c2, c3] T)).heap.size (V.alloc (.cells #[c0, c1, c2, c3] T)) ua) : (ua.cell? ⟨V.heap.size, 0, none⟩ = some c0 ∧ ua.cell? ⟨V.heap.size, 1, none⟩ = some c1 ∧ ua.cell? ⟨V.heap.size, 2, none⟩ = some c2 ∧ ua.cell? ⟨V.heap.size, 3, none⟩ = some c3) ∧ (ua.frozen? ⟨V.heap.size, 0, none⟩ = false ∧ ua.frozen? ⟨V.heap.size, 1, none⟩ = false ∧ ua.frozen? ⟨V.heap.size, 2, none⟩ = false ∧ ua.frozen? ⟨V.heap.size, 3, none⟩ = false) ∧ V.heap.size < ua.heap.size := by
  have hs := h.size
  simp at hs
  exact ⟨(var4 h).1, (var4 h).2, by omega⟩
theorem var_set4 {E ua : World} {b base : Nat} {x0 x1 x2 x3 v0 v1 v2 v3 : Value} {a1 a2 : Option Addr} {c1 c2 : Nat} {xs ys : List Int} (q0 : ua.cell? ⟨b, 0, none⟩ = some x0) (q1 : ua.cell? ⟨b, 1, none⟩ = some x1) (q2 : ua.cell? ⟨b, 2, none⟩ = some x2) (q3 : ua.cell? ⟨b, 3, none⟩ = some x3) (f0 : ua.frozen? ⟨b, 0, none⟩ = false) (f1 : ua.frozen? ⟨b, 1, none⟩ = false) (f2 : ua.frozen? ⟨b, 2, none⟩ = false) (f3 : ua.frozen? ⟨b, 3, none⟩ = false) (hb : E.heap.size ≤ b) (hlt : b < ua.heap.size) (D : Below E.heap.size E ua) (O : OwnC ua base a1 a2 c1 c2 xs ys) (hbase : b < base) :
    E.heap.size ≤ b ∧ b < ((((ua.setCell ⟨b, 0, none⟩ v0).setCell ⟨b, 1, none⟩ v1).setCell ⟨b, 2, none⟩ v2).setCell ⟨b, 3, none⟩ v3).heap.size ∧ (((((ua.setCell ⟨b, 0, none⟩ v0).setCell ⟨b, 1, none⟩ v1).setCell ⟨b, 2, none⟩ v2).setCell ⟨b, 3, none⟩ v3).cell? ⟨b, 0, none⟩ = some v0 ∧ ((((ua.setCell ⟨b, 0, none⟩ v0).setCell ⟨b, 1, none⟩ v1).setCell ⟨b, 2, none⟩ v2).setCell ⟨b, 3, none⟩ v3).cell? ⟨b, 1, none⟩ = some v1 ∧ ((((ua.setCell ⟨b, 0, none⟩ v0).setCell ⟨b, 1, none⟩ v1).setCell ⟨b, 2, none⟩ v2).setCell ⟨b, 3, none⟩ v3).cell? ⟨b, 2, none⟩ = some v2 ∧ ((((ua.setCell ⟨b, 0, none⟩ v0).setCell ⟨b, 1, none⟩ v1).setCell ⟨b, 2, none⟩ v2).setCell ⟨b, 3, none⟩ v3).cell? ⟨b, 3, none⟩ = some v3) ∧ OwnC ((((ua.setCell ⟨b, 0, none⟩ v0).setCell ⟨b, 1, none⟩ v1).setCell ⟨b, 2, none⟩ v2).setCell ⟨b, 3, none⟩ v3) E.heap.size a1 a2 c1 c2 xs ys ∧ Below E.heap.size E ((((ua.setCell ⟨b, 0, none⟩ v0).setCell ⟨b, 1, none⟩ v1).setCell ⟨b, 2, none⟩ v2).setCell ⟨b, 3, none⟩ v3) := by
  have e1 : (ua.setCell ⟨b, 0, none⟩ v0).cell? ⟨b, 1, none⟩ = some x1 := (World.cell?_setCell_other (h := by simp) ..).trans q1
  have e2 : ((ua.setCell ⟨b, 0, none⟩ v0).setCell ⟨b, 1, none⟩ v1).cell? ⟨b, 2, none⟩ = some x2 := (World.cell?_setCell_other (h := by simp) ..).trans ((World.cell?_setCell_other (h := by simp) ..).trans q2)
  have e3 : (((ua.setCell ⟨b, 0, none⟩ v0).setCell ⟨b, 1, none⟩ v1).setCell ⟨b, 2, none⟩ v2).cell? ⟨b, 3, none⟩ = some x3 := (World.cell?_setCell_other (h := by simp) ..).trans ((World.cell?_setCell_other (h := by simp) ..).trans ((World.cell?_setCell_other (h := by simp) ..).trans q3))
  refine ⟨hb, by simpa using hlt, ⟨?_, ?_, ?_, World.cell?_setCell_same (h := e3) ..⟩, ((((O.set _ _ hbase).set _ _ hbase).set _ _ hbase).set _ _ hbase).mono (by omega), (((D.setCell hb _).setCell hb _).setCell hb _).setCell hb _⟩
  · exact (World.cell?_setCell_other (h := by simp) ..).trans ((World.cell?_setCell_other (h := by simp) ..).trans ((World.cell?_setCell_other (h := by simp) ..).trans (World.cell?_setCell_same (h := q0) ..)))
  · exact (World.cell?_setCell_other (h := by simp) ..).trans ((World.cell?_setCell_other (h := by simp) ..).trans (World.cell?_setCell_same (h := e1) ..))
  · exact (World.cell?_setCell_other (h := by simp) ..).trans (World.cell?_setCell_same (h := e2) ..)

set_option maxHeartbeats 16000000 in
set_option maxRecDepth 100000 in
theorem implPiece_code (x y : Option Addr) (n1 n2 cx cy : Nat) (k1 k2 cc : Int) (w : World) (hno : orC k1 k2 ≠ 0 ∧ cc = orC k1 k2) (F1x : ∀ u : World, Below w.heap.size w u → Calls Tryd.prog 18 #[.slice x n1 cx] u fun r w' => r = .returned (.int .i64 k1) ∧ Below u.heap.size u w') (F2x : ∀ u : World, Below w.heap.size w u → Calls Tryd.prog 18 #[.slice y n2 cy] u fun r w' => r = .returned (.int .i64 k2) ∧ Below u.heap.size u w') :
    Calls Tryd.prog 29 #[.slice x n1 cx, .slice y n2 cy] w fun r w' => ∃ a1 c1 a2 c2, r = .returned (.agg #[.int .i64 (cc), .bool ((none : Cl)).isSome, .slice a1 (clA ((none : Cl))).length c1, .slice a2 (clB ((none : Cl))).length c2]) ∧ OwnC w' w.heap.size a1 a2 c1 c2 (clA ((none : Cl))) (clB ((none : Cl))) ∧ Below w.heap.size w w' := by
  have F1 : Hid (_) := F1x
  have F2 : Hid (_) := F2x
  have bo : (orC k1 k2 != 0) = true := by simpa using hno.1
  have HC : Hid (cc = orC k1 k2) := hno.2
  clear F1x F2x hno
  have B0 : Below w.heap.size w ((((w.alloc (.cells #[.slice x n1 cx] 24)).alloc (.cells #[.slice y n2 cy] 24)).alloc (.cells #[.int .i64 0, .bool false, .slice none 0 0, .slice none 0 0] 31))) := (((Below.refl _ _).alloc (Nat.le_refl _) _).alloc (by simp) _).alloc (by simp; omega) _
  obtain ⟨E, hE⟩ : ∃ E, E = (((w.alloc (.cells #[.slice x n1 cx] 24)).alloc (.cells #[.slice y n2 cy] 24)).alloc (.cells #[.int .i64 0, .bool false, .slice none 0 0, .slice none 0 0] 31)) := ⟨_, rfl⟩
  have zE : E.heap.size = w.heap.size + 3 := by rw [hE]; simp
  rw [← hE] at B0
  have OB : Hid (∀ wx : World, Below E.heap.size E wx → (wx.cell? ⟨w.heap.size, 0, none⟩ = some (.slice x n1 cx) ∧ wx.cell? ⟨w.heap.size + 1, 0, none⟩ = some (.slice y n2 cy)) ∧ (wx.cell? ⟨w.heap.size + 2, 0, none⟩ = some (.int .i64 0) ∧ wx.cell? ⟨w.heap.size + 2, 1, none⟩ = some (.bool false) ∧ wx.cell? ⟨w.heap.size + 2, 2, none⟩ = some (.slice none 0 0) ∧ wx.cell? ⟨w.heap.size + 2, 3, none⟩ = some (.slice none 0 0)) ∧ (wx.frozen? ⟨w.heap.size + 2, 0, none⟩ = false ∧ wx.frozen? ⟨w.heap.size + 2, 1, none⟩ = false ∧ wx.frozen? ⟨w.heap.size + 2, 2, none⟩ = false ∧ wx.frozen? ⟨w.heap.size + 2, 3, none⟩ = false) ∧ w.heap.size < wx.heap.size ∧ w.heap.size + 1 < wx.heap.size ∧ w.heap.size + 2 < wx.heap.size) := by
    intro wx h
    have hs := h.size
    refine ⟨⟨(h.cell (p := ⟨w.heap.size, 0, none⟩) (show w.heap.size < _ by omega)).trans ?_, (h.cell (p := ⟨w.heap.size + 1, 0, none⟩) (show w.heap.size + 1 < _ by omega)).trans ?_⟩, ⟨(h.cell (p := ⟨w.heap.size + 2, 0, none⟩) (show w.heap.size + 2 < _ by omega)).trans ?_, (h.cell (p := ⟨w.heap.size + 2, 1, none⟩) (show w.heap.size + 2 < _ by omega)).trans ?_, (h.cell (p := ⟨w.heap.size + 2, 2, none⟩) (show w.heap.size + 2 < _ by omega)).trans ?_, (h.cell (p := ⟨w.heap.size + 2, 3, none⟩) (show w.heap.size + 2 < _ by omega)).trans ?_⟩, ⟨(h.frozen (p := ⟨w.heap.size + 2, 0, none⟩) (show w.heap.size + 2 < _ by omega)).trans ?_, (h.frozen (p := ⟨w.heap.size + 2, 1, none⟩) (show w.heap.size + 2 < _ by omega)).trans ?_, (h.frozen (p := ⟨w.heap.size + 2, 2, none⟩) (show w.heap.size + 2 < _ by omega)).trans ?_, (h.frozen (p := ⟨w.heap.size + 2, 3, none⟩) (show w.heap.size + 2 < _ by omega)).trans ?_⟩, by omega, by omega, by omega⟩
    all_goals (rw [hE]; simp [go_sem])
  have WE : Hid (∀ wx : World, Below E.heap.size E wx → Below w.heap.size w wx) := fun wx h => B0.trans (h.mono B0.size)
  have e0 : ∀ wx : World, Below E.heap.size E wx → wx.cell? ⟨w.heap.size, 0, none⟩ = some (.slice x n1 cx) := fun wx h => (OB.out _ h).1.1
  have e1 : ∀ wx : World, Below E.heap.size E wx → wx.cell? ⟨w.heap.size + 1, 0, none⟩ = some (.slice y n2 cy) := fun wx h => (OB.out _ h).1.2
  have U0 : Below E.heap.size E E.drew := (Below.refl _ _).drew
  go_enter Tryd.func29, Tryd.ntmps29
  go_wp2_with fail
  simp only [← hE]
  clear hE zE
  go_cut [5] (fun s5 wx => s5 = .int .i64 (orC k1 k2) ∧ Below E.heap.size E wx)
  case first =>
    go_region_held2 (fun wx => Below E.heap.size E wx)
      ((first | exact U0 | exact D2 | exact D1 | exact D2.alloc D2.size _ | assumption))
      ((first | (go_at_call_of 18 (Value.slice x n1 cx); refine (F1.out _ (WE.out _ U0)).mono ?_; rintro _ ua ⟨rfl, hba⟩; have D1 : Below E.heap.size E ua := U0.trans (hba.mono U0.size)) | (go_at_call_of 18 (Value.slice y n2 cy); refine (F2.out _ (WE.out _ D1)).mono ?_; rintro _ ub ⟨rfl, hbb⟩; have D2 : Below E.heap.size E ub := D1.trans (hbb.mono D1.size)) | (go_at_call 78; refine (cmpOr_any k1 k2 _ _ (by simp [go_sem]) (by simp [go_sem])).mono ?_; rintro _ uc ⟨rfl, huc⟩; have hu2 := huc.symm; subst hu2; clear huc) | fail))
    all_goals go_wp2_with fail
    all_goals go_meet
    all_goals exact ⟨rfl, by first | exact D2.alloc D2.size _ | exact D2⟩
  case rest =>
    obtain ⟨rfl, hcb⟩ := hcut
    generalize wc = Y at *
    clear e0 e1 U0
    obtain ⟨⟨b0, b1⟩, ⟨r0, r1, r2, r3⟩, ⟨g0, g1, g2, g3⟩, i0, i1, i2⟩ := OB.out Y hcb
    have BY := WE.out _ hcb
    generalize orC k1 k2 = cc' at *
    obtain rfl := HC.out
    go_wp2
    refine bodyPost_ret (v := .agg #[.int .i64 cc, .bool false, .slice none 0 0, .slice none 0 0]) (by simp [results, Tryd.results29, go_sem, r0, r1, r2, r3]) rfl ⟨none, 0, none, 0, rfl, OwnC.nil _ _, ?_⟩
    repeat (first | exact BY | (refine Below.setCell ?_ (by (try simp) <;> omega) _))

set_option maxHeartbeats 16000000 in
set_option maxRecDepth 100000 in
theorem implPiece_tree (x y : Option Addr) (n1 n2 cx cy : Nat) (k1 k2 kc : Int) (KX : Cl) (ps qs : List Int) (w : World) (hor : orC k1 k2 = 0) (hbad : kc ≠ 0 ∨ (kc = 0 ∧ ∃ y, KX = some y)) (F1x : ∀ u : World, Below w.heap.size w u → Calls Tryd.prog 18 #[.slice x n1 cx] u fun r w' => r = .returned (.int .i64 k1) ∧ Below u.heap.size u w') (F2x : ∀ u : World, Below w.heap.size w u → Calls Tryd.prog 18 #[.slice y n2 cy] u fun r w' => r = .returned (.int .i64 k2) ∧ Below u.heap.size u w') (S1x : ∀ u : World, Below w.heap.size w u → Calls Tryd.prog 15 #[.slice x n1 cx] u fun r w' => ∃ pa pc, r = .returned (.agg #[.int .i64 0, .slice pa ps.length pc]) ∧ World.ownsRow w' u.heap.size 2 1 (.slice pa (ps).length pc) (ps).length ((ps).map (.int .i64)) ∧ Below u.heap.size u w') (S2x : ∀ u : World, Below w.heap.size w u → Calls Tryd.prog 15 #[.slice y n2 cy] u fun r w' => ∃ pa pc, r = .returned (.agg #[.int .i64 0, .slice pa qs.length pc]) ∧ World.ownsRow w' u.heap.size 2 1 (.slice pa (qs).length pc) (qs).length ((qs).map (.int .i64)) ∧ Below u.heap.size u w') (TCx : ∀ (u : World) (pa1 : Option Addr) (pc1 : Nat) (pa2 : Option Addr) (pc2 base1 base2 : Nat), Below w.heap.size w u → World.ownsRow u base1 2 1 (.slice pa1 ps.length pc1) ps.length (ps.map (.int .i64)) → World.ownsRow u base2 2 1 (.slice pa2 qs.length pc2) qs.length (qs.map (.int .i64)) → Calls Tryd.prog 31 #[.slice pa1 ps.length pc1, .slice pa2 qs.length pc2] u fun r w' => ∃ a1 c1 a2 c2, r = .returned (.agg #[.int .i64 (kc), .bool (KX).isSome, .slice a1 (clA (KX)).length c1, .slice a2 (clB (KX)).length c2]) ∧ OwnC w' u.heap.size a1 a2 c1 c2 (clA (KX)) (clB (KX)) ∧ Below u.heap.size u w') :
    Calls Tryd.prog 29 #[.slice x n1 cx, .slice y n2 cy] w fun r w' => ∃ a1 c1 a2 c2, r = .returned (.agg #[.int .i64 (kc), .bool (KX).isSome, .slice a1 (clA (KX)).length c1, .slice a2 (clB (KX)).length c2]) ∧ OwnC w' w.heap.size a1 a2 c1 c2 (clA (KX)) (clB (KX)) ∧ Below w.heap.size w w' := by
  have F1 : Hid (_) := F1x
  have F2 : Hid (_) := F2x
  have S1 : Hid (_) := S1x
  have S2 : Hid (_) := S2x
  have TC : Hid (_) := TCx
  have bo : (orC k1 k2 != 0) = false := by simpa using hor
  clear F1x F2x S1x S2x TCx hor
  have HB : Hid (kc ≠ 0 ∨ (kc = 0 ∧ ∃ y, KX = some y)) := hbad
  clear hbad
  have B0 : Below w.heap.size w ((((w.alloc (.cells #[.slice x n1 cx] 24)).alloc (.cells #[.slice y n2 cy] 24)).alloc (.cells #[.int .i64 0, .bool false, .slice none 0 0, .slice none 0 0] 31))) := (((Below.refl _ _).alloc (Nat.le_refl _) _).alloc (by simp) _).alloc (by simp; omega) _
  obtain ⟨E, hE⟩ : ∃ E, E = (((w.alloc (.cells #[.slice x n1 cx] 24)).alloc (.cells #[.slice y n2 cy] 24)).alloc (.cells #[.int .i64 0, .bool false, .slice none 0 0, .slice none 0 0] 31)) := ⟨_, rfl⟩
  have zE : E.heap.size = w.heap.size + 3 := by rw [hE]; simp
  rw [← hE] at B0
  have OB : Hid (∀ wx : World, Below E.heap.size E wx → (wx.cell? ⟨w.heap.size, 0, none⟩ = some (.slice x n1 cx) ∧ wx.cell? ⟨w.heap.size + 1, 0, none⟩ = some (.slice y n2 cy)) ∧ (wx.cell? ⟨w.heap.size + 2, 0, none⟩ = some (.int .i64 0) ∧ wx.cell? ⟨w.heap.size + 2, 1, none⟩ = some (.bool false) ∧ wx.cell? ⟨w.heap.size + 2, 2, none⟩ = some (.slice none 0 0) ∧ wx.cell? ⟨w.heap.size + 2, 3, none⟩ = some (.slice none 0 0)) ∧ (wx.frozen? ⟨w.heap.size + 2, 0, none⟩ = false ∧ wx.frozen? ⟨w.heap.size + 2, 1, none⟩ = false ∧ wx.frozen? ⟨w.heap.size + 2, 2, none⟩ = false ∧ wx.frozen? ⟨w.heap.size + 2, 3, none⟩ = false) ∧ w.heap.size < wx.heap.size ∧ w.heap.size + 1 < wx.heap.size ∧ w.heap.size + 2 < wx.heap.size) := by
    intro wx h
    have hs := h.size
    refine ⟨⟨(h.cell (p := ⟨w.heap.size, 0, none⟩) (show w.heap.size < _ by omega)).trans ?_, (h.cell (p := ⟨w.heap.size + 1, 0, none⟩) (show w.heap.size + 1 < _ by omega)).trans ?_⟩, ⟨(h.cell (p := ⟨w.heap.size + 2, 0, none⟩) (show w.heap.size + 2 < _ by omega)).trans ?_, (h.cell (p := ⟨w.heap.size + 2, 1, none⟩) (show w.heap.size + 2 < _ by omega)).trans ?_, (h.cell (p := ⟨w.heap.size + 2, 2, none⟩) (show w.heap.size + 2 < _ by omega)).trans ?_, (h.cell (p := ⟨w.heap.size + 2, 3, none⟩) (show w.heap.size + 2 < _ by omega)).trans ?_⟩, ⟨(h.frozen (p := ⟨w.heap.size + 2, 0, none⟩) (show w.heap.size + 2 < _ by omega)).trans ?_, (h.frozen (p := ⟨w.heap.size + 2, 1, none⟩) (show w.heap.size + 2 < _ by omega)).trans ?_, (h.frozen (p := ⟨w.heap.size + 2, 2, none⟩) (show w.heap.size + 2 < _ by omega)).trans ?_, (h.frozen (p := ⟨w.heap.size + 2, 3, none⟩) (show w.heap.size + 2 < _ by omega)).trans ?_⟩, by omega, by omega, by omega⟩
    all_goals (rw [hE]; simp [go_sem])
  have WE : Hid (∀ wx : World, Below E.heap.size E wx → Below w.heap.size w wx) := fun wx h => B0.trans (h.mono B0.size)
  have e0 : ∀ wx : World, Below E.heap.size E wx → wx.cell? ⟨w.heap.size, 0, none⟩ = some (.slice x n1 cx) := fun wx h => (OB.out _ h).1.1
  have e1 : ∀ wx : World, Below E.heap.size E wx → wx.cell? ⟨w.heap.size + 1, 0, none⟩ = some (.slice y n2 cy) := fun wx h => (OB.out _ h).1.2
  have U0 : Below E.heap.size E E.drew := (Below.refl _ _).drew
  go_enter Tryd.func29, Tryd.ntmps29
  go_wp2_with fail
  simp only [← hE]
  clear hE zE
  go_cut [5] (fun s5 wx => s5 = .int .i64 (orC k1 k2) ∧ Below E.heap.size E wx)
  case first =>
    go_region_held2 (fun wx => Below E.heap.size E wx)
      ((first | exact U0 | exact D2 | exact D1 | exact D2.alloc D2.size _ | assumption))
      ((first | (go_at_call_of 18 (Value.slice x n1 cx); refine (F1.out _ (WE.out _ U0)).mono ?_; rintro _ ua ⟨rfl, hba⟩; have D1 : Below E.heap.size E ua := U0.trans (hba.mono U0.size)) | (go_at_call_of 18 (Value.slice y n2 cy); refine (F2.out _ (WE.out _ D1)).mono ?_; rintro _ ub ⟨rfl, hbb⟩; have D2 : Below E.heap.size E ub := D1.trans (hbb.mono D1.size)) | (go_at_call 78; refine (cmpOr_any k1 k2 _ _ (by simp [go_sem]) (by simp [go_sem])).mono ?_; rintro _ uc ⟨rfl, huc⟩; have hu2 := huc.symm; subst hu2; clear huc) | fail))
    all_goals go_wp2_with fail
    all_goals go_meet
    all_goals exact ⟨rfl, by first | exact D2.alloc D2.size _ | exact D2⟩
  case rest =>
    obtain ⟨rfl, hcb⟩ := hcut
    generalize wc = Y at *
    have WY : Hid (∀ wx : World, Below Y.heap.size Y wx → Below w.heap.size w wx) := fun wx h => WE.out _ (hcb.trans (h.mono hcb.size))
    have y0 : ∀ wx : World, Below Y.heap.size Y wx → wx.cell? ⟨w.heap.size, 0, none⟩ = some (.slice x n1 cx) := fun wx h => e0 _ (hcb.trans (h.mono hcb.size))
    have y1 : ∀ wx : World, Below Y.heap.size Y wx → wx.cell? ⟨w.heap.size + 1, 0, none⟩ = some (.slice y n2 cy) := fun wx h => e1 _ (hcb.trans (h.mono hcb.size))
    have V0 : Below Y.heap.size Y Y.drew := (Below.refl _ _).drew
    have FI := fldI6
    clear e0 e1 U0 F1 F2
    go_wp2_with fail
    go_cut [6] (fun s6 wx => ∃ b a1 c1 a2 c2, s6 = .pointer (some ⟨b, 0, none⟩) ∧ Y.heap.size ≤ b ∧ b < wx.heap.size ∧ (wx.cell? ⟨b, 0, none⟩ = some (.int .i64 kc) ∧ wx.cell? ⟨b, 1, none⟩ = some (.bool KX.isSome) ∧ wx.cell? ⟨b, 2, none⟩ = some (.slice a1 (clA KX).length c1) ∧ wx.cell? ⟨b, 3, none⟩ = some (.slice a2 (clB KX).length c2)) ∧ OwnC wx Y.heap.size a1 a2 c1 c2 (clA KX) (clB KX) ∧ Below Y.heap.size Y wx)
    case first =>
      go_region_held3 (fun wx => Below Y.heap.size Y wx)
        ((first | exact V0 | exact D1 | assumption | exact (V0.alloc (by first | omega | (simp; omega) | simp) _) | exact (D1.alloc D1.size _) | exact (((D1.setCell (by first | omega | (simp; omega) | simp) _).setCell (by first | omega | (simp; omega) | simp) _).setCell (by first | omega | (simp; omega) | simp) _).setCell (by first | omega | (simp; omega) | simp) _))
        ((first | (go_at_call_of 15 (Value.slice x n1 cx); refine (S1.out _ (WY.out _ (by assumption))).mono ?_; rintro _ ua ⟨pa1, pc1, rfl, O1, hba⟩; have D1 : Below Y.heap.size Y ua := Below.trans (by assumption) (hba.mono (Below.size (by assumption))); have zD := D1.size; (try (first | (have hvv := var4s hba) | (have hbb := var_drew hba; have hvv := var4s hbb) | (have hbb := var_on (A := World.alloc _ _) (by assumption) hba; have hvv := var4s hbb)); obtain ⟨⟨q0, q1, q2, q3⟩, ⟨f0, f1, f2, f3⟩, q4⟩ := hvv; (try simp at q0 q1 q2 q3 q4 f0 f1 f2 f3))) | (go_at_call_of 15 (Value.slice y n2 cy); refine (S2.out _ (WY.out _ (by assumption))).mono ?_; rintro _ ua ⟨pa2, pc2, rfl, O2, hba⟩; have D1 : Below Y.heap.size Y ua := Below.trans (by assumption) (hba.mono (Below.size (by assumption))); have zD := D1.size; (try (first | (have hvv := var4s hba) | (have hbb := var_drew hba; have hvv := var4s hbb) | (have hbb := var_on (A := World.alloc _ _) (by assumption) hba; have hvv := var4s hbb)); obtain ⟨⟨q0, q1, q2, q3⟩, ⟨f0, f1, f2, f3⟩, q4⟩ := hvv; (try simp at q0 q1 q2 q3 q4 f0 f1 f2 f3)); have O1b := (by first | exact own_below O1 hba | exact own_below (own_below O1 ((Below.refl _ _).alloc (Nat.le_refl _) _)) hba : ua.ownsRow _ 2 1 (.slice pa1 ps.length pc1) ps.length (ps.map (.int .i64)))) | (go_at_call 31; refine (TC.out _ pa1 pc1 pa2 pc2 _ _ (WY.out _ (by assumption)) (by first | exact O1b | exact own_below O1b ((Below.refl _ _).alloc (Nat.le_refl _) _)) (by first | exact O2 | exact own_below O2 ((Below.refl _ _).alloc (Nat.le_refl _) _))).mono ?_; rintro _ ua ⟨a1, c1, a2, c2, rfl, O3, hba⟩; have D1 : Below Y.heap.size Y ua := Below.trans (by assumption) (hba.mono (Below.size (by assumption))); have zD := D1.size; (try (first | (have hvv := var4s hba) | (have hbb := var_drew hba; have hvv := var4s hbb) | (have hbb := var_on (A := World.alloc _ _) (by assumption) hba; have hvv := var4s hbb)); obtain ⟨⟨q0, q1, q2, q3⟩, ⟨f0, f1, f2, f3⟩, q4⟩ := hvv; (try simp at q0 q1 q2 q3 q4 f0 f1 f2 f3))) | fail))
      all_goals go_wp2_with fail
      all_goals go_meet
      all_goals first
        | exact ⟨_, a1, c1, a2, c2, rfl, D1.size, by simp, ⟨by simp [go_sem], by simp [go_sem], by simp [go_sem], by simp [go_sem]⟩, (O3.mono (by first | assumption | (simp; omega) | omega)).below ((Below.refl _ _).alloc (Nat.le_refl _) _), D1.alloc D1.size _⟩
        | exact ⟨_, a1, c1, a2, c2, rfl, var_set4 q0 q1 q2 q3 f0 f1 f2 f3 (by omega) q4 D1 O3 (by first | assumption | simp)⟩
    case rest =>
      obtain ⟨b, a1, c1, a2, c2, rfl, hb0, hb1, ⟨k0, k1', k2', k3⟩, O1, hcz⟩ := hcut
      generalize wc = Z at *
      have DZ := hcb.trans (hcz.mono hcb.size)
      have BZ := WE.out _ DZ
      have zY : w.heap.size + 2 < Y.heap.size := (OB.out _ hcb).2.2.2.2.2
      clear y0 y1 V0 S1 S2 TC
      obtain ⟨⟨b0, b1⟩, ⟨r0, r1, r2, r3⟩, ⟨g0, g1, g2, g3⟩, i0, i1, i2⟩ := OB.out Z DZ
      rcases HB.out with h | ⟨rfl, yy, rfl⟩
      · have b1 : (kc != 0) = true := by simpa using h
        have O1' : Hid (OwnC Z Y.heap.size a1 a2 c1 c2 (clA KX) (clB KX)) := O1
        clear h O1 HB
        go_wp2
        refine bodyPost_ret (v := .agg #[.int .i64 kc, .bool KX.isSome, .slice a1 (clA KX).length c1, .slice a2 (clB KX).length c2]) (by simp [results, Tryd.results29, go_sem, r0, r1, r2, r3]) rfl ⟨a1, c1, a2, c2, rfl, ?_, ?_⟩
        · exact ((((O1'.out.set _ _ zY).set _ _ zY).set _ _ zY).set _ _ zY).mono (by omega)
        · repeat (first | exact BZ | (refine Below.setCell ?_ (by (try simp) <;> omega) _))
      · have O1' : Hid (OwnC Z Y.heap.size a1 a2 c1 c2 yy.1 yy.2) := O1
        clear O1 HB
        simp only [Option.isSome_some, clA, clB] at k0 k1' k2' k3
        go_wp2
        refine bodyPost_ret (v := .agg #[.int .i64 0, .bool true, .slice a1 yy.1.length c1, .slice a2 yy.2.length c2]) (by simp [results, Tryd.results29, go_sem, r0, r1, r2, r3]) rfl ⟨a1, c1, a2, c2, rfl, ?_, ?_⟩
        · exact ((((O1'.out.set _ _ zY).set _ _ zY).set _ _ zY).set _ _ zY).mono (by omega)
        · repeat (first | exact BZ | (refine Below.setCell ?_ (by (try simp) <;> omega) _))

set_option maxHeartbeats 16000000 in
set_option maxRecDepth 100000 in
theorem implPiece_loop (x y : Option Addr) (n1 n2 cx cy : Nat) (k1 k2 kc : Int) (KX X : Cl) (ps qs : List Int) (w : World) (hor : orC k1 k2 = 0) (hkc : kc = 0) (hKX : KX = none) (F1x : ∀ u : World, Below w.heap.size w u → Calls Tryd.prog 18 #[.slice x n1 cx] u fun r w' => r = .returned (.int .i64 k1) ∧ Below u.heap.size u w') (F2x : ∀ u : World, Below w.heap.size w u → Calls Tryd.prog 18 #[.slice y n2 cy] u fun r w' => r = .returned (.int .i64 k2) ∧ Below u.heap.size u w') (S1x : ∀ u : World, Below w.heap.size w u → Calls Tryd.prog 15 #[.slice x n1 cx] u fun r w' => ∃ pa pc, r = .returned (.agg #[.int .i64 0, .slice pa ps.length pc]) ∧ World.ownsRow w' u.heap.size 2 1 (.slice pa (ps).length pc) (ps).length ((ps).map (.int .i64)) ∧ Below u.heap.size u w') (S2x : ∀ u : World, Below w.heap.size w u → Calls Tryd.prog 15 #[.slice y n2 cy] u fun r w' => ∃ pa pc, r = .returned (.agg #[.int .i64 0, .slice pa qs.length pc]) ∧ World.ownsRow w' u.heap.size 2 1 (.slice pa (qs).length pc) (qs).length ((qs).map (.int .i64)) ∧ Below u.heap.size u w') (TCx : ∀ (u : World) (pa1 : Option Addr) (pc1 : Nat) (pa2 : Option Addr) (pc2 base1 base2 : Nat), Below w.heap.size w u → World.ownsRow u base1 2 1 (.slice pa1 ps.length pc1) ps.length (ps.map (.int .i64)) → World.ownsRow u base2 2 1 (.slice pa2 qs.length pc2) qs.length (qs.map (.int .i64)) → Calls Tryd.prog 31 #[.slice pa1 ps.length pc1, .slice pa2 qs.length pc2] u fun r w' => ∃ a1 c1 a2 c2, r = .returned (.agg #[.int .i64 (kc), .bool (KX).isSome, .slice a1 (clA (KX)).length c1, .slice a2 (clB (KX)).length c2]) ∧ OwnC w' u.heap.size a1 a2 c1 c2 (clA (KX)) (clB (KX)) ∧ Below u.heap.size u w')
    (PCx : ∀ (u : World) (pa pb : Nat), Below w.heap.size w u → u.cell? ⟨pa, 0, none⟩ = some (.slice x n1 cx) → u.cell? ⟨pb, 0, none⟩ = some (.slice y n2 cy) → pa < u.heap.size → pb < u.heap.size → Calls Tryd.prog 85 #[.pointer (some ⟨pa, 0, none⟩), .pointer (some ⟨pb, 0, none⟩)] u (WkE X u)) :
    Calls Tryd.prog 29 #[.slice x n1 cx, .slice y n2 cy] w fun r w' => ∃ a1 c1 a2 c2, r = .returned (.agg #[.int .i64 (0), .bool (X).isSome, .slice a1 (clA (X)).length c1, .slice a2 (clB (X)).length c2]) ∧ OwnC w' w.heap.size a1 a2 c1 c2 (clA (X)) (clB (X)) ∧ Below w.heap.size w w' := by
  have F1 : Hid (_) := F1x
  have F2 : Hid (_) := F2x
  have S1 : Hid (_) := S1x
  have S2 : Hid (_) := S2x
  have TC : Hid (_) := TCx
  have PC : Hid (_) := PCx
  have bo : (orC k1 k2 != 0) = false := by simpa using hor
  clear F1x F2x S1x S2x TCx PCx hor
  have HK : Hid (kc = 0 ∧ KX = none) := ⟨hkc, hKX⟩
  clear hkc hKX
  have hmf : ∀ (fn : Fn) (first cap : Array Value) (w : World), (Instr.makeFunc fn first cap).run Tryd.prog w = .ok (.func fn first cap) w := fun _ _ _ _ => rfl
  have B0 : Below w.heap.size w ((((w.alloc (.cells #[.slice x n1 cx] 24)).alloc (.cells #[.slice y n2 cy] 24)).alloc (.cells #[.int .i64 0, .bool false, .slice none 0 0, .slice none 0 0] 31))) := (((Below.refl _ _).alloc (Nat.le_refl _) _).alloc (by simp) _).alloc (by simp; omega) _
  obtain ⟨E, hE⟩ : ∃ E, E = (((w.alloc (.cells #[.slice x n1 cx] 24)).alloc (.cells #[.slice y n2 cy] 24)).alloc (.cells #[.int .i64 0, .bool false, .slice none 0 0, .slice none 0 0] 31)) := ⟨_, rfl⟩
  have zE : E.heap.size = w.heap.size + 3 := by rw [hE]; simp
  rw [← hE] at B0
  have OB : Hid (∀ wx : World, Below E.heap.size E wx → (wx.cell? ⟨w.heap.size, 0, none⟩ = some (.slice x n1 cx) ∧ wx.cell? ⟨w.heap.size + 1, 0, none⟩ = some (.slice y n2 cy)) ∧ (wx.cell? ⟨w.heap.size + 2, 0, none⟩ = some (.int .i64 0) ∧ wx.cell? ⟨w.heap.size + 2, 1, none⟩ = some (.bool false) ∧ wx.cell? ⟨w.heap.size + 2, 2, none⟩ = some (.slice none 0 0) ∧ wx.cell? ⟨w.heap.size + 2, 3, none⟩ = some (.slice none 0 0)) ∧ (wx.frozen? ⟨w.heap.size + 2, 0, none⟩ = false ∧ wx.frozen? ⟨w.heap.size + 2, 1, none⟩ = false ∧ wx.frozen? ⟨w.heap.size + 2, 2, none⟩ = false ∧ wx.frozen? ⟨w.heap.size + 2, 3, none⟩ = false) ∧ w.heap.size < wx.heap.size ∧ w.heap.size + 1 < wx.heap.size ∧ w.heap.size + 2 < wx.heap.size) := by
    intro wx h
    have hs := h.size
    refine ⟨⟨(h.cell (p := ⟨w.heap.size, 0, none⟩) (show w.heap.size < _ by omega)).trans ?_, (h.cell (p := ⟨w.heap.size + 1, 0, none⟩) (show w.heap.size + 1 < _ by omega)).trans ?_⟩, ⟨(h.cell (p := ⟨w.heap.size + 2, 0, none⟩) (show w.heap.size + 2 < _ by omega)).trans ?_, (h.cell (p := ⟨w.heap.size + 2, 1, none⟩) (show w.heap.size + 2 < _ by omega)).trans ?_, (h.cell (p := ⟨w.heap.size + 2, 2, none⟩) (show w.heap.size + 2 < _ by omega)).trans ?_, (h.cell (p := ⟨w.heap.size + 2, 3, none⟩) (show w.heap.size + 2 < _ by omega)).trans ?_⟩, ⟨(h.frozen (p := ⟨w.heap.size + 2, 0, none⟩) (show w.heap.size + 2 < _ by omega)).trans ?_, (h.frozen (p := ⟨w.heap.size + 2, 1, none⟩) (show w.heap.size + 2 < _ by omega)).trans ?_, (h.frozen (p := ⟨w.heap.size + 2, 2, none⟩) (show w.heap.size + 2 < _ by omega)).trans ?_, (h.frozen (p := ⟨w.heap.size + 2, 3, none⟩) (show w.heap.size + 2 < _ by omega)).trans ?_⟩, by omega, by omega, by omega⟩
    all_goals (rw [hE]; simp [go_sem])
  have WE : Hid (∀ wx : World, Below E.heap.size E wx → Below w.heap.size w wx) := fun wx h => B0.trans (h.mono B0.size)
  have e0 : ∀ wx : World, Below E.heap.size E wx → wx.cell? ⟨w.heap.size, 0, none⟩ = some (.slice x n1 cx) := fun wx h => (OB.out _ h).1.1
  have e1 : ∀ wx : World, Below E.heap.size E wx → wx.cell? ⟨w.heap.size + 1, 0, none⟩ = some (.slice y n2 cy) := fun wx h => (OB.out _ h).1.2
  have U0 : Below E.heap.size E E.drew := (Below.refl _ _).drew
  go_enter Tryd.func29, Tryd.ntmps29
  go_wp2_with fail
  simp only [← hE]
  clear hE zE
  go_cut [5] (fun s5 wx => s5 = .int .i64 (orC k1 k2) ∧ Below E.heap.size E wx)
  case first =>
    go_region_held2 (fun wx => Below E.heap.size E wx)
      ((first | exact U0 | exact D2 | exact D1 | exact D2.alloc D2.size _ | assumption))
      ((first | (go_at_call_of 18 (Value.slice x n1 cx); refine (F1.out _ (WE.out _ U0)).mono ?_; rintro _ ua ⟨rfl, hba⟩; have D1 : Below E.heap.size E ua := U0.trans (hba.mono U0.size)) | (go_at_call_of 18 (Value.slice y n2 cy); refine (F2.out _ (WE.out _ D1)).mono ?_; rintro _ ub ⟨rfl, hbb⟩; have D2 : Below E.heap.size E ub := D1.trans (hbb.mono D1.size)) | (go_at_call 78; refine (cmpOr_any k1 k2 _ _ (by simp [go_sem]) (by simp [go_sem])).mono ?_; rintro _ uc ⟨rfl, huc⟩; have hu2 := huc.symm; subst hu2; clear huc) | fail))
    all_goals go_wp2_with fail
    all_goals go_meet
    all_goals exact ⟨rfl, by first | exact D2.alloc D2.size _ | exact D2⟩
  case rest =>
    obtain ⟨rfl, hcb⟩ := hcut
    generalize wc = Y at *
    have WY : Hid (∀ wx : World, Below Y.heap.size Y wx → Below w.heap.size w wx) := fun wx h => WE.out _ (hcb.trans (h.mono hcb.size))
    have y0 : ∀ wx : World, Below Y.heap.size Y wx → wx.cell? ⟨w.heap.size, 0, none⟩ = some (.slice x n1 cx) := fun wx h => e0 _ (hcb.trans (h.mono hcb.size))
    have y1 : ∀ wx : World, Below Y.heap.size Y wx → wx.cell? ⟨w.heap.size + 1, 0, none⟩ = some (.slice y n2 cy) := fun wx h => e1 _ (hcb.trans (h.mono hcb.size))
    have V0 : Below Y.heap.size Y Y.drew := (Below.refl _ _).drew
    have FI := fldI6
    clear e0 e1 U0 F1 F2
    go_wp2_with fail
    go_cut [6] (fun s6 wx => ∃ b a1 c1 a2 c2, s6 = .pointer (some ⟨b, 0, none⟩) ∧ Y.heap.size ≤ b ∧ b < wx.heap.size ∧ (wx.cell? ⟨b, 0, none⟩ = some (.int .i64 kc) ∧ wx.cell? ⟨b, 1, none⟩ = some (.bool KX.isSome) ∧ wx.cell? ⟨b, 2, none⟩ = some (.slice a1 (clA KX).length c1) ∧ wx.cell? ⟨b, 3, none⟩ = some (.slice a2 (clB KX).length c2)) ∧ OwnC wx Y.heap.size a1 a2 c1 c2 (clA KX) (clB KX) ∧ Below Y.heap.size Y wx)
    case first =>
      go_region_held3 (fun wx => Below Y.heap.size Y wx)
        ((first | exact V0 | exact D1 | assumption | exact (V0.alloc (by first | omega | (simp; omega) | simp) _) | exact (D1.alloc D1.size _) | exact (((D1.setCell (by first | omega | (simp; omega) | simp) _).setCell (by first | omega | (simp; omega) | simp) _).setCell (by first | omega | (simp; omega) | simp) _).setCell (by first | omega | (simp; omega) | simp) _))
        ((first | (go_at_call_of 15 (Value.slice x n1 cx); refine (S1.out _ (WY.out _ (by assumption))).mono ?_; rintro _ ua ⟨pa1, pc1, rfl, O1, hba⟩; have D1 : Below Y.heap.size Y ua := Below.trans (by assumption) (hba.mono (Below.size (by assumption))); have zD := D1.size; (try (first | (have hvv := var4s hba) | (have hbb := var_drew hba; have hvv := var4s hbb) | (have hbb := var_on (A := World.alloc _ _) (by assumption) hba; have hvv := var4s hbb)); obtain ⟨⟨q0, q1, q2, q3⟩, ⟨f0, f1, f2, f3⟩, q4⟩ := hvv; (try simp at q0 q1 q2 q3 q4 f0 f1 f2 f3))) | (go_at_call_of 15 (Value.slice y n2 cy); refine (S2.out _ (WY.out _ (by assumption))).mono ?_; rintro _ ua ⟨pa2, pc2, rfl, O2, hba⟩; have D1 : Below Y.heap.size Y ua := Below.trans (by assumption) (hba.mono (Below.size (by assumption))); have zD := D1.size; (try (first | (have hvv := var4s hba) | (have hbb := var_drew hba; have hvv := var4s hbb) | (have hbb := var_on (A := World.alloc _ _) (by assumption) hba; have hvv := var4s hbb)); obtain ⟨⟨q0, q1, q2, q3⟩, ⟨f0, f1, f2, f3⟩, q4⟩ := hvv; (try simp at q0 q1 q2 q3 q4 f0 f1 f2 f3)); have O1b := (by first | exact own_below O1 hba | exact own_below (own_below O1 ((Below.refl _ _).alloc (Nat.le_refl _) _)) hba : ua.ownsRow _ 2 1 (.slice pa1 ps.length pc1) ps.length (ps.map (.int .i64)))) | (go_at_call 31; refine (TC.out _ pa1 pc1 pa2 pc2 _ _ (WY.out _ (by assumption)) (by first | exact O1b | exact own_below O1b ((Below.refl _ _).alloc (Nat.le_refl _) _)) (by first | exact O2 | exact own_below O2 ((Below.refl _ _).alloc (Nat.le_refl _) _))).mono ?_; rintro _ ua ⟨a1, c1, a2, c2, rfl, O3, hba⟩; have D1 : Below Y.heap.size Y ua := Below.trans (by assumption) (hba.mono (Below.size (by assumption))); have zD := D1.size; (try (first | (have hvv := var4s hba) | (have hbb := var_drew hba; have hvv := var4s hbb) | (have hbb := var_on (A := World.alloc _ _) (by assumption) hba; have hvv := var4s hbb)); obtain ⟨⟨q0, q1, q2, q3⟩, ⟨f0, f1, f2, f3⟩, q4⟩ := hvv; (try simp at q0 q1 q2 q3 q4 f0 f1 f2 f3))) | fail))
      all_goals go_wp2_with fail
      all_goals go_meet
      all_goals first
        | exact ⟨_, a1, c1, a2, c2, rfl, D1.size, by simp, ⟨by simp [go_sem], by simp [go_sem], by simp [go_sem], by simp [go_sem]⟩, (O3.mono (by first | assumption | (simp; omega) | omega)).below ((Below.refl _ _).alloc (Nat.le_refl _) _), D1.alloc D1.size _⟩
        | exact ⟨_, a1, c1, a2, c2, rfl, var_set4 q0 q1 q2 q3 f0 f1 f2 f3 (by omega) q4 D1 O3 (by first | assumption | simp)⟩
    case rest =>
      obtain ⟨b, a1, c1, a2, c2, rfl, hb0, hb1, ⟨k0, k1', k2', k3⟩, O1, hcz⟩ := hcut
      generalize wc = Z at *
      have DZ := hcb.trans (hcz.mono hcb.size)
      have BZ := WE.out _ DZ
      have zY : w.heap.size + 2 < Y.heap.size := (OB.out _ hcb).2.2.2.2.2
      clear y0 y1 V0 S1 S2 TC
      obtain ⟨rfl, rfl⟩ := HK.out
      clear O1 HK
      simp only [Option.isSome_none, clA, clB] at k0 k1' k2' k3
      have CO : Hid (_) := clashOn_any 85 #[.pointer (some ⟨w.heap.size, 0, none⟩), .pointer (some ⟨w.heap.size + 1, 0, none⟩)] X Z (fun u hu => PC.out u w.heap.size (w.heap.size + 1) (BZ.trans (hu.mono BZ.size)) (OB.out _ (DZ.trans (hu.mono DZ.size))).1.1 (OB.out _ (DZ.trans (hu.mono DZ.size))).1.2 (OB.out _ (DZ.trans (hu.mono DZ.size))).2.2.2.1 (OB.out _ (DZ.trans (hu.mono DZ.size))).2.2.2.2.1) (fun u => by simp [go_sem])
      have zZ : w.heap.size + 2 < Z.heap.size := (OB.out _ DZ).2.2.2.2.2
      go_wp2_with fail
      refine Calls.mono (P := Tryd.prog) (f := 59) CO.out ?_
      rintro r u6 ⟨a1', c1', a2', c2', rfl, O6, hb6⟩
      have D6 := DZ.trans (hb6.mono DZ.size)
      have B6 := BZ.trans (hb6.mono BZ.size)
      obtain ⟨⟨b0, b1⟩, ⟨r0, r1, r2, r3⟩, ⟨g0, g1, g2, g3⟩, i0, i1, i2⟩ := OB.out u6 D6
      have O6' : Hid (OwnC u6 Z.heap.size a1' a2' c1' c2' (clA X) (clB X)) := O6
      clear O6 CO k0 k1' k2' k3
      go_wp2
      refine bodyPost_ret (v := .agg #[.int .i64 0, .bool X.isSome, .slice a1' (clA X).length c1', .slice a2' (clB X).length c2']) (by simp [results, Tryd.results29, go_sem, r0, r1, r2, r3]) rfl ⟨a1', c1', a2', c2', rfl, ?_, ?_⟩
      · exact ((((O6'.out.set _ _ zZ).set _ _ zZ).set _ _ zZ).set _ _ zZ).mono (by omega)
      · repeat (first | exact B6 | (refine Below.setCell ?_ (by (try simp) <;> omega) _))

end Go.Proofs.YtklhkhlmhddmcaaDoor
