/- Contracts: the model's PieceClash. -/
import Derived.Test.YtklhkhlmhddmcaaDoorExt6C
import Derived.Test.YtklhkhlmhddmcaaDoorSums6
import Derived.Deep.DeepCutAuto
namespace Go.Proofs.YtklhkhlmhddmcaaDoor
open Go.ChangeShapes Go.WideShapes Go.ChangeAt Go.RowKit
set_option linter.unusedVariables false
set_option linter.unusedSimpArgs false

/-- The clash of the first two pieces of one place. -/
def lpC : List (List Int) → List (List Int) → Cl
  | x :: xs, y :: ys => lookC (leafL x) (leafL y) <|> lpC xs ys
  | _, _ => none
theorem lpC_drop {xs ys : List (List Int)} {k : Nat} (h : k < xs.length) (h2 : k < ys.length) : lpC (xs.drop k) (ys.drop k) = (lookC (leafL xs[k]) (leafL ys[k]) <|> lpC (xs.drop (k + 1)) (ys.drop (k + 1))) := by
  rw [List.drop_eq_getElem_cons h, List.drop_eq_getElem_cons h2, lpC]
theorem lpC_end {xs : List (List Int)} (ys : List (List Int)) {k : Nat} (h : xs.length ≤ k) : lpC (xs.drop k) ys = none := by
  rw [List.drop_of_length_le h]; unfold lpC; rfl
/-- The code of PieceClash. -/
def pkC (rs qs : List Pc) : Int := if pcF rs = 0 then (if pcF qs = 0 then tkC (smL rs) (smL qs) else pcF qs) else pcF rs
/-- The clash of PieceClash. -/
def pkX (rs qs : List Pc) : Cl := if pkC rs qs = 0 then (trC (smL rs) (smL qs) <|> lpC (rs.map Pc.zs) (qs.map Pc.zs)) else none

set_option maxHeartbeats 8000000 in
set_option maxRecDepth 100000 in
theorem specPiece_code (x y : Option Addr) (n1 n2 cx cy : Nat) (k1 k2 cc kc : Int) (KX : Cl) (ps qs : List Int) (w : World) (hno : (k1 ≠ 0 ∧ cc = k1) ∨ (k1 = 0 ∧ k2 ≠ 0 ∧ cc = k2)) (F1x : ∀ u : World, Below w.heap.size w u → Calls Tryd.prog 64 #[.slice x n1 cx] u fun r w' => r = .returned (.int .i64 k1) ∧ Below u.heap.size u w') (F2x : ∀ u : World, Below w.heap.size w u → Calls Tryd.prog 64 #[.slice y n2 cy] u fun r w' => r = .returned (.int .i64 k2) ∧ Below u.heap.size u w') (S1x : k1 = 0 → ∀ u : World, Below w.heap.size w u → Calls Tryd.prog 54 #[.slice x n1 cx] u fun r w' => ∃ pa pc, r = .returned (.slice pa ps.length pc) ∧ World.ownsRow w' u.heap.size 2 1 (.slice pa (ps).length pc) (ps).length ((ps).map (.int .i64)) ∧ Below u.heap.size u w') (S2x : k2 = 0 → ∀ u : World, Below w.heap.size w u → Calls Tryd.prog 54 #[.slice y n2 cy] u fun r w' => ∃ pa pc, r = .returned (.slice pa qs.length pc) ∧ World.ownsRow w' u.heap.size 2 1 (.slice pa (qs).length pc) (qs).length ((qs).map (.int .i64)) ∧ Below u.heap.size u w') (TCx : k1 = 0 → k2 = 0 → ∀ (u : World) (pa1 : Option Addr) (pc1 : Nat) (pa2 : Option Addr) (pc2 base1 base2 : Nat), Below w.heap.size w u → World.ownsRow u base1 2 1 (.slice pa1 ps.length pc1) ps.length (ps.map (.int .i64)) → World.ownsRow u base2 2 1 (.slice pa2 qs.length pc2) qs.length (qs.map (.int .i64)) → Calls Tryd.prog 32 #[.slice pa1 ps.length pc1, .slice pa2 qs.length pc2] u fun r w' => ∃ a1 c1 a2 c2, r = .returned (.agg #[.int .i64 (kc), .bool (KX).isSome, .slice a1 (clA (KX)).length c1, .slice a2 (clB (KX)).length c2]) ∧ OwnC w' u.heap.size a1 a2 c1 c2 (clA (KX)) (clB (KX)) ∧ Below u.heap.size u w') :
    Calls Tryd.prog 33 #[.slice x n1 cx, .slice y n2 cy] w fun r w' => ∃ a1 c1 a2 c2, r = .returned (.agg #[.int .i64 (cc), .bool ((none : Cl)).isSome, .slice a1 (clA ((none : Cl))).length c1, .slice a2 (clB ((none : Cl))).length c2]) ∧ OwnC w' w.heap.size a1 a2 c1 c2 (clA ((none : Cl))) (clB ((none : Cl))) ∧ Below w.heap.size w w' := by
  have F1 : Hid (_) := F1x
  have F2 : Hid (_) := F2x
  clear F1x F2x S1x S2x TCx
  rcases hno with ⟨h1, rfl⟩ | ⟨rfl, h2, rfl⟩
  · have b1 : (cc != 0) = true := by simpa using h1
    clear h1
    have B0 : Below w.heap.size w (w.alloc (.cells #[.int .i64 0, .bool false, .slice none 0 0, .slice none 0 0] 31)) := (Below.refl _ _).alloc (Nat.le_refl _) _
    obtain ⟨E, hE⟩ : ∃ E, E = w.alloc (.cells #[.int .i64 0, .bool false, .slice none 0 0, .slice none 0 0] 31) := ⟨_, rfl⟩
    rw [← hE] at B0
    have zE : w.heap.size < E.heap.size := by rw [hE]; simp
    have RV : Hid (∀ u : World, Below E.heap.size E u → (u.cell? ⟨w.heap.size, 0, none⟩ = some (.int .i64 0) ∧ u.cell? ⟨w.heap.size, 1, none⟩ = some (.bool false) ∧ u.cell? ⟨w.heap.size, 2, none⟩ = some (.slice none 0 0) ∧ u.cell? ⟨w.heap.size, 3, none⟩ = some (.slice none 0 0)) ∧ (u.frozen? ⟨w.heap.size, 0, none⟩ = false ∧ u.frozen? ⟨w.heap.size, 1, none⟩ = false ∧ u.frozen? ⟨w.heap.size, 2, none⟩ = false ∧ u.frozen? ⟨w.heap.size, 3, none⟩ = false)) := fun u h => var4 (by rw [← hE]; exact h)
    go_enter Tryd.func33, Tryd.ntmps33
    go_wp2_with fail
    simp only [← hE]
    clear hE
    refine (F1.out _ B0).mono ?_
    rintro r u1 ⟨rfl, hb1⟩
    have B1 := B0.trans (hb1.mono B0.size)
    obtain ⟨⟨r0, r1, r2, r3⟩, ⟨g0, g1, g2, g3⟩⟩ := RV.out u1 hb1
    go_wp2
    refine bodyPost_ret (v := .agg #[.int .i64 cc, .bool false, .slice none 0 0, .slice none 0 0]) (by simp [results, Tryd.results33, go_sem, r0, r1, r2, r3]) rfl ⟨none, 0, none, 0, rfl, OwnC.nil _ _, ?_⟩
    repeat (first | exact B1 | (refine Below.alloc ?_ (by (try simp) <;> omega) _) | (refine Below.setCell ?_ (by (try simp) <;> omega) _))
  · have b1 : (cc != 0) = true := by simpa using h2
    clear h2
    have B0 : Below w.heap.size w (w.alloc (.cells #[.int .i64 0, .bool false, .slice none 0 0, .slice none 0 0] 31)) := (Below.refl _ _).alloc (Nat.le_refl _) _
    obtain ⟨E, hE⟩ : ∃ E, E = w.alloc (.cells #[.int .i64 0, .bool false, .slice none 0 0, .slice none 0 0] 31) := ⟨_, rfl⟩
    rw [← hE] at B0
    have zE : w.heap.size < E.heap.size := by rw [hE]; simp
    have RV : Hid (∀ u : World, Below E.heap.size E u → (u.cell? ⟨w.heap.size, 0, none⟩ = some (.int .i64 0) ∧ u.cell? ⟨w.heap.size, 1, none⟩ = some (.bool false) ∧ u.cell? ⟨w.heap.size, 2, none⟩ = some (.slice none 0 0) ∧ u.cell? ⟨w.heap.size, 3, none⟩ = some (.slice none 0 0)) ∧ (u.frozen? ⟨w.heap.size, 0, none⟩ = false ∧ u.frozen? ⟨w.heap.size, 1, none⟩ = false ∧ u.frozen? ⟨w.heap.size, 2, none⟩ = false ∧ u.frozen? ⟨w.heap.size, 3, none⟩ = false)) := fun u h => var4 (by rw [← hE]; exact h)
    go_enter Tryd.func33, Tryd.ntmps33
    go_wp2_with fail
    simp only [← hE]
    clear hE
    refine (F1.out _ B0).mono ?_
    rintro r u1 ⟨rfl, hb1⟩
    have B1 := B0.trans (hb1.mono B0.size)
    go_wp2_with fail
    refine (F2.out _ B1).mono ?_
    rintro r u2 ⟨rfl, hb2⟩
    have B2 := B1.trans (hb2.mono B1.size)
    have D2 := hb1.trans (hb2.mono hb1.size)
    obtain ⟨⟨r0, r1, r2, r3⟩, ⟨g0, g1, g2, g3⟩⟩ := RV.out u2 D2
    go_wp2
    refine bodyPost_ret (v := .agg #[.int .i64 cc, .bool false, .slice none 0 0, .slice none 0 0]) (by simp [results, Tryd.results33, go_sem, r0, r1, r2, r3]) rfl ⟨none, 0, none, 0, rfl, OwnC.nil _ _, ?_⟩
    repeat (first | exact B2 | (refine Below.alloc ?_ (by (try simp) <;> omega) _) | (refine Below.setCell ?_ (by (try simp) <;> omega) _))

set_option maxHeartbeats 8000000 in
set_option maxRecDepth 100000 in
theorem specPiece_tree (x y : Option Addr) (n1 n2 cx cy : Nat) (k1 k2 kc : Int) (KX : Cl) (ps qs : List Int) (w : World) (h1 : k1 = 0) (h2 : k2 = 0) (hbad : kc ≠ 0 ∨ (kc = 0 ∧ ∃ y, KX = some y)) (F1x : ∀ u : World, Below w.heap.size w u → Calls Tryd.prog 64 #[.slice x n1 cx] u fun r w' => r = .returned (.int .i64 k1) ∧ Below u.heap.size u w') (F2x : ∀ u : World, Below w.heap.size w u → Calls Tryd.prog 64 #[.slice y n2 cy] u fun r w' => r = .returned (.int .i64 k2) ∧ Below u.heap.size u w') (S1x : k1 = 0 → ∀ u : World, Below w.heap.size w u → Calls Tryd.prog 54 #[.slice x n1 cx] u fun r w' => ∃ pa pc, r = .returned (.slice pa ps.length pc) ∧ World.ownsRow w' u.heap.size 2 1 (.slice pa (ps).length pc) (ps).length ((ps).map (.int .i64)) ∧ Below u.heap.size u w') (S2x : k2 = 0 → ∀ u : World, Below w.heap.size w u → Calls Tryd.prog 54 #[.slice y n2 cy] u fun r w' => ∃ pa pc, r = .returned (.slice pa qs.length pc) ∧ World.ownsRow w' u.heap.size 2 1 (.slice pa (qs).length pc) (qs).length ((qs).map (.int .i64)) ∧ Below u.heap.size u w') (TCx : k1 = 0 → k2 = 0 → ∀ (u : World) (pa1 : Option Addr) (pc1 : Nat) (pa2 : Option Addr) (pc2 base1 base2 : Nat), Below w.heap.size w u → World.ownsRow u base1 2 1 (.slice pa1 ps.length pc1) ps.length (ps.map (.int .i64)) → World.ownsRow u base2 2 1 (.slice pa2 qs.length pc2) qs.length (qs.map (.int .i64)) → Calls Tryd.prog 32 #[.slice pa1 ps.length pc1, .slice pa2 qs.length pc2] u fun r w' => ∃ a1 c1 a2 c2, r = .returned (.agg #[.int .i64 (kc), .bool (KX).isSome, .slice a1 (clA (KX)).length c1, .slice a2 (clB (KX)).length c2]) ∧ OwnC w' u.heap.size a1 a2 c1 c2 (clA (KX)) (clB (KX)) ∧ Below u.heap.size u w') :
    Calls Tryd.prog 33 #[.slice x n1 cx, .slice y n2 cy] w fun r w' => ∃ a1 c1 a2 c2, r = .returned (.agg #[.int .i64 (kc), .bool (KX).isSome, .slice a1 (clA (KX)).length c1, .slice a2 (clB (KX)).length c2]) ∧ OwnC w' w.heap.size a1 a2 c1 c2 (clA (KX)) (clB (KX)) ∧ Below w.heap.size w w' := by
  have F1 : Hid (_) := F1x
  have F2 : Hid (_) := F2x
  have S1 : Hid (_) := S1x h1
  have S2 : Hid (_) := S2x h2
  have TC : Hid (_) := TCx h1 h2
  clear F1x F2x S1x S2x TCx
  subst h1 h2
  rcases hbad with h | ⟨rfl, yy, rfl⟩
  · have b1 : (kc != 0) = true := by simpa using h
    clear h
    have B0 : Below w.heap.size w (w.alloc (.cells #[.int .i64 0, .bool false, .slice none 0 0, .slice none 0 0] 31)) := (Below.refl _ _).alloc (Nat.le_refl _) _
    obtain ⟨E, hE⟩ : ∃ E, E = w.alloc (.cells #[.int .i64 0, .bool false, .slice none 0 0, .slice none 0 0] 31) := ⟨_, rfl⟩
    rw [← hE] at B0
    have zE : w.heap.size < E.heap.size := by rw [hE]; simp
    have RV : Hid (∀ u : World, Below E.heap.size E u → (u.cell? ⟨w.heap.size, 0, none⟩ = some (.int .i64 0) ∧ u.cell? ⟨w.heap.size, 1, none⟩ = some (.bool false) ∧ u.cell? ⟨w.heap.size, 2, none⟩ = some (.slice none 0 0) ∧ u.cell? ⟨w.heap.size, 3, none⟩ = some (.slice none 0 0)) ∧ (u.frozen? ⟨w.heap.size, 0, none⟩ = false ∧ u.frozen? ⟨w.heap.size, 1, none⟩ = false ∧ u.frozen? ⟨w.heap.size, 2, none⟩ = false ∧ u.frozen? ⟨w.heap.size, 3, none⟩ = false)) := fun u h => var4 (by rw [← hE]; exact h)
    go_enter Tryd.func33, Tryd.ntmps33
    go_wp2_with fail
    simp only [← hE]
    clear hE
    refine (F1.out _ B0).mono ?_
    rintro r u1 ⟨rfl, hb1⟩
    have B1 := B0.trans (hb1.mono B0.size)
    go_wp2_with fail
    refine (F2.out _ B1).mono ?_
    rintro r u2 ⟨rfl, hb2⟩
    have B2 := B1.trans (hb2.mono B1.size)
    have D2 := hb1.trans (hb2.mono hb1.size)
    go_wp2_with fail
    refine (S1.out _ B2).mono ?_
    rintro r u3 ⟨pa1, pc1, rfl, O3, hb3⟩
    have B3 := B2.trans (hb3.mono B2.size)
    go_wp2_with fail
    refine (S2.out _ B3).mono ?_
    rintro r u4 ⟨pa2, pc2, rfl, O4, hb4⟩
    have B4 := B3.trans (hb4.mono B3.size)
    have D4 := (D2.trans (hb3.mono D2.size)).trans (hb4.mono (D2.trans (hb3.mono D2.size)).size)
    have TT := TC.out u4 pa1 pc1 pa2 pc2 _ _ B4 (own_below O3 hb4) O4
    have TTH : Hid (_) := TT
    clear TT O3 O4 hb1 hb2 hb3 hb4
    go_wp2_with fail
    refine Calls.mono (P := Tryd.prog) (f := 32) TTH.out ?_
    rintro r u5 ⟨a1, c1, a2, c2, rfl, O5, hb5⟩
    have B5 := B4.trans (hb5.mono B4.size)
    have D5 := D4.trans (hb5.mono D4.size)
    have z4 : w.heap.size < u4.heap.size := Nat.lt_of_lt_of_le zE D4.size
    have z5 : w.heap.size < u5.heap.size := Nat.lt_of_lt_of_le zE D5.size
    clear hb5 TTH D2 B1 B2 B3
    have O5' : Hid (OwnC u5 u4.heap.size a1 a2 c1 c2 (clA KX) (clB KX)) := O5
    clear O5
    obtain ⟨⟨r0, r1, r2, r3⟩, ⟨g0, g1, g2, g3⟩⟩ := RV.out u5 D5
    go_wp2
    refine bodyPost_ret (v := .agg #[.int .i64 kc, .bool KX.isSome, .slice a1 (clA KX).length c1, .slice a2 (clB KX).length c2]) (by simp [results, Tryd.results33, go_sem, r0, r1, r2, r3, z5]) rfl ⟨a1, c1, a2, c2, rfl, ?_, ?_⟩
    · have O7 := O5'.out.below ((Below.refl u5.heap.size u5).alloc (Nat.le_refl _) (.cells #[.int .i64 kc, .bool KX.isSome, .slice a1 (clA KX).length c1, .slice a2 (clB KX).length c2] 31))
      refine OwnC.mono ?_ (Nat.le_of_lt z4)
      first
        | exact ((((O7.set _ _ z4).set _ _ z4).set _ _ z4).set _ _ z4)
        | exact ((((O5'.out.set _ _ z4).set _ _ z4).set _ _ z4).set _ _ z4).below ((Below.refl _ _).alloc (Nat.le_refl _) _)
    · repeat (first | exact B5 | (refine Below.setCell ?_ (by (try simp) <;> omega) _) | (refine Below.alloc ?_ (by (try simp) <;> omega) _))
  · have _t : True := trivial
    have B0 : Below w.heap.size w (w.alloc (.cells #[.int .i64 0, .bool false, .slice none 0 0, .slice none 0 0] 31)) := (Below.refl _ _).alloc (Nat.le_refl _) _
    obtain ⟨E, hE⟩ : ∃ E, E = w.alloc (.cells #[.int .i64 0, .bool false, .slice none 0 0, .slice none 0 0] 31) := ⟨_, rfl⟩
    rw [← hE] at B0
    have zE : w.heap.size < E.heap.size := by rw [hE]; simp
    have RV : Hid (∀ u : World, Below E.heap.size E u → (u.cell? ⟨w.heap.size, 0, none⟩ = some (.int .i64 0) ∧ u.cell? ⟨w.heap.size, 1, none⟩ = some (.bool false) ∧ u.cell? ⟨w.heap.size, 2, none⟩ = some (.slice none 0 0) ∧ u.cell? ⟨w.heap.size, 3, none⟩ = some (.slice none 0 0)) ∧ (u.frozen? ⟨w.heap.size, 0, none⟩ = false ∧ u.frozen? ⟨w.heap.size, 1, none⟩ = false ∧ u.frozen? ⟨w.heap.size, 2, none⟩ = false ∧ u.frozen? ⟨w.heap.size, 3, none⟩ = false)) := fun u h => var4 (by rw [← hE]; exact h)
    go_enter Tryd.func33, Tryd.ntmps33
    go_wp2_with fail
    simp only [← hE]
    clear hE
    refine (F1.out _ B0).mono ?_
    rintro r u1 ⟨rfl, hb1⟩
    have B1 := B0.trans (hb1.mono B0.size)
    go_wp2_with fail
    refine (F2.out _ B1).mono ?_
    rintro r u2 ⟨rfl, hb2⟩
    have B2 := B1.trans (hb2.mono B1.size)
    have D2 := hb1.trans (hb2.mono hb1.size)
    go_wp2_with fail
    refine (S1.out _ B2).mono ?_
    rintro r u3 ⟨pa1, pc1, rfl, O3, hb3⟩
    have B3 := B2.trans (hb3.mono B2.size)
    go_wp2_with fail
    refine (S2.out _ B3).mono ?_
    rintro r u4 ⟨pa2, pc2, rfl, O4, hb4⟩
    have B4 := B3.trans (hb4.mono B3.size)
    have D4 := (D2.trans (hb3.mono D2.size)).trans (hb4.mono (D2.trans (hb3.mono D2.size)).size)
    have TT := TC.out u4 pa1 pc1 pa2 pc2 _ _ B4 (own_below O3 hb4) O4
    have TTH : Hid (_) := TT
    clear TT O3 O4 hb1 hb2 hb3 hb4
    go_wp2_with fail
    refine Calls.mono (P := Tryd.prog) (f := 32) TTH.out ?_
    rintro r u5 ⟨a1, c1, a2, c2, rfl, O5, hb5⟩
    have B5 := B4.trans (hb5.mono B4.size)
    have D5 := D4.trans (hb5.mono D4.size)
    have z4 : w.heap.size < u4.heap.size := Nat.lt_of_lt_of_le zE D4.size
    have z5 : w.heap.size < u5.heap.size := Nat.lt_of_lt_of_le zE D5.size
    clear hb5 TTH D2 B1 B2 B3
    have O5' : Hid (OwnC u5 u4.heap.size a1 a2 c1 c2 yy.1 yy.2) := O5
    clear O5
    simp only [Option.isSome_some, clA, clB]
    obtain ⟨⟨r0, r1, r2, r3⟩, ⟨g0, g1, g2, g3⟩⟩ := RV.out u5 D5
    go_wp2
    refine bodyPost_ret (v := .agg #[.int .i64 0, .bool true, .slice a1 yy.1.length c1, .slice a2 yy.2.length c2]) (by simp [results, Tryd.results33, go_sem, r0, r1, r2, r3, z5]) rfl ⟨a1, c1, a2, c2, rfl, ?_, ?_⟩
    · have O7 := O5'.out.below ((Below.refl u5.heap.size u5).alloc (Nat.le_refl _) (.cells #[.int .i64 0, .bool true, .slice a1 yy.1.length c1, .slice a2 yy.2.length c2] 31))
      refine OwnC.mono ?_ (Nat.le_of_lt z4)
      first
        | exact ((((O7.set _ _ z4).set _ _ z4).set _ _ z4).set _ _ z4)
        | exact ((((O5'.out.set _ _ z4).set _ _ z4).set _ _ z4).set _ _ z4).below ((Below.refl _ _).alloc (Nat.le_refl _) _)
    · repeat (first | exact B5 | (refine Below.setCell ?_ (by (try simp) <;> omega) _) | (refine Below.alloc ?_ (by (try simp) <;> omega) _))

end Go.Proofs.YtklhkhlmhddmcaaDoor
