/- Contracts: the model's clash on the way down to a leaf. Contracts: the model's clash on the way down to a leaf, by the size of the log. Contracts: the model's LeafClash: what it tells, and its first two codes. Contracts: the model's LeafClash, its other codes and its clash. Contracts: the model's LeafClash, where its proof leads to some root. Contracts: the model's LeafClash, its clash. Contracts: the model's LeafClash, whole. -/
import Derived.Test.YtklhkhlmhddmcaaDoorExt6C
import Derived.Test.YtklhkhlmhddmcaaDoorGrowC
import Derived.Test.YtklhkhlmhddmcaaDoorSums6
namespace Go.Proofs.YtklhkhlmhddmcaaDoor
open Go.ChangeShapes Go.WideShapes Go.ChangeAt Go.RowKit
set_option linter.unusedVariables false
set_option linter.unusedSimpArgs false

set_option maxRecDepth 100000 in
set_option maxHeartbeats 8000000 in
theorem l6Leaf_lo (b1 o1 b3 o3 cx cz q m : Nat) (xs : List Int) (a l v cl v1 v2 : Int) (X1 X2 : Cl) (w : World) (h2 : 2 ≤ xs.length) (h32 : xs.length ≤ 32) (hm : splN xs.length = m) (ha0 : 0 ≤ a) (ha : a < m) (hcx : xs.length ≤ cx) (hmx : cx ≤ maxLen) (hcz : q + 1 ≤ cz) (hmz : cz ≤ maxLen)
    (hv : w.cell? ⟨b3, o3 + q, none⟩ = some (.int .i64 v)) (hb3 : b3 < w.heap.size)
    (R5 : Hid (∀ u : World, Below w.heap.size w u → Calls Tryd.prog 117 #[.int .i64 l, .int .i64 a, .int .i64 m, .slice (some ⟨b3, o3, none⟩) q cz] u fun e w' => e = .returned (.int .i64 cl) ∧ Below u.heap.size u w'))
    (R1 : Hid (∀ u : World, Below w.heap.size w u → Calls Tryd.prog 69 #[.slice (some ⟨b1, o1, none⟩) m cx] u fun r w' => r = .returned (.int .i64 v1) ∧ Below u.heap.size u w'))
    (R2 : Hid (∀ u : World, Below w.heap.size w u → Calls Tryd.prog 69 #[.slice (some ⟨b1, o1 + m, none⟩) (xs.length - m) (cx - m)] u fun r w' => r = .returned (.int .i64 v2) ∧ Below u.heap.size u w'))
    (ND : Hid (∀ u : World, Calls Tryd.prog 119 #[.int .i64 cl, .int .i64 v, .int .i64 v1, .int .i64 v2] u fun r' w' => ∃ a1 c1 a2 c2, r' = .returned (.agg #[.bool (X1).isSome, .slice a1 (clA (X1)).length c1, .slice a2 (clB (X1)).length c2]) ∧ OwnC w' u.heap.size a1 a2 c1 c2 (clA (X1)) (clB (X1)) ∧ Below u.heap.size u w'))
    (IG : Hid (∀ u : World, Below w.heap.size w u → Calls Tryd.prog 70 #[.slice (some ⟨b1, o1, none⟩) m cx, .int .i64 a, .int .i64 l, .slice (some ⟨b3, o3, none⟩) q cz] u fun r' w' => ∃ a1 c1 a2 c2, r' = .returned (.agg #[.bool (X2).isSome, .slice a1 (clA (X2)).length c1, .slice a2 (clB (X2)).length c2]) ∧ OwnC w' u.heap.size a1 a2 c1 c2 (clA (X2)) (clB (X2)) ∧ Below u.heap.size u w')) :
    Calls Tryd.prog 70 #[.slice (some ⟨b1, o1, none⟩) xs.length cx, .int .i64 a, .int .i64 l, .slice (some ⟨b3, o3, none⟩) (q + 1) cz] w fun r' w' => ∃ a1 c1 a2 c2, r' = .returned (.agg #[.bool (X1 <|> X2 : Cl).isSome, .slice a1 (clA (X1 <|> X2)).length c1, .slice a2 (clB (X1 <|> X2)).length c2]) ∧ OwnC w' w.heap.size a1 a2 c1 c2 (clA (X1 <|> X2)) (clB (X1 <|> X2)) ∧ Below w.heap.size w w' := by
  unfold maxLen at hmx hmz
  obtain ⟨s1, s2, s3⟩ := splN_bd (n := xs.length) (by omega) (by omega)
  have HM : Hid (splN (xs.length : Int) = m) := hm
  have h1' : ¬ (xs.length : Int) ≤ 1 := by omega
  have m1 : (1 : Int) ≤ m := by omega
  have m2 : (m : Int) < xs.length := by omega
  have m3 : (xs.length : Int) ≤ cx := by omega
  have m4 : ¬ (cx : Int) = m := by omega
  have m5 : (0 : Int) ≤ m := by omega
  have m8 : ¬ cx = m := by omega
  have m6 : (m : Int) ≤ cx := by omega
  have m7 : (m : Int) ≤ xs.length := by omega
  have n1 : (q : Int) ≤ cz := by omega
  have hq : q ≤ 9223372036854775806 := by omega
  have n2 : (0 : Int) ≤ (q : Int) := by omega
  have n3 : (q : Int) < (q : Int) + 1 := by omega
  have n4 : (q : Int) < ((q + 1 : Nat) : Int) := by omega
  have n5 : q < q + 1 := by omega
  clear hm s1 s2 s3
  go_enter Tryd.func70, Tryd.ntmps70
  go_wp2_with fail
  refine (split_any xs.length _ (by omega) (by omega)).mono ?_
  rintro e u ⟨rfl, hu⟩
  have hu2 := hu.symm
  subst hu2
  clear hu
  rw [HM.out]
  go_wp2_with fail
  refine (R1.out _ ((Below.refl _ _).alloc (Nat.le_refl _) _)).mono ?_
  have B0 : Below w.heap.size w (w.alloc (.cells #[.bool false, .slice none 0 0, .slice none 0 0] 29)) := (Below.refl _ _).alloc (Nat.le_refl _) _
  generalize hE : w.alloc (.cells #[.bool false, .slice none 0 0, .slice none 0 0] 29) = E at *
  have WE : Hid (∀ u : World, Below E.heap.size E u → Below w.heap.size w u) := fun u h => B0.trans (h.mono B0.size)
  have zE : w.heap.size < E.heap.size := by rw [← hE]; simp
  have e0 : E.cell? ⟨w.heap.size, 0, none⟩ = some (.bool false) := by rw [← hE]; simp [go_sem]
  have e1 : E.cell? ⟨w.heap.size, 1, none⟩ = some (.slice none 0 0) := by rw [← hE]; simp [go_sem]
  have e2 : E.cell? ⟨w.heap.size, 2, none⟩ = some (.slice none 0 0) := by rw [← hE]; simp [go_sem]
  have e3 : ∀ o, E.frozen? ⟨w.heap.size, o, none⟩ = false := by intro o; rw [← hE]; simp [go_sem]
  have RV : Hid (∀ u : World, Below E.heap.size E u → (u.cell? ⟨w.heap.size, 0, none⟩ = some (.bool false) ∧ u.cell? ⟨w.heap.size, 1, none⟩ = some (.slice none 0 0) ∧ u.cell? ⟨w.heap.size, 2, none⟩ = some (.slice none 0 0)) ∧ (u.frozen? ⟨w.heap.size, 0, none⟩ = false ∧ u.frozen? ⟨w.heap.size, 1, none⟩ = false ∧ u.frozen? ⟨w.heap.size, 2, none⟩ = false)) := fun u h => ⟨⟨(h.cell (p := ⟨w.heap.size, 0, none⟩) zE).trans e0, (h.cell (p := ⟨w.heap.size, 1, none⟩) zE).trans e1, (h.cell (p := ⟨w.heap.size, 2, none⟩) zE).trans e2⟩, (h.frozen (p := ⟨w.heap.size, 0, none⟩) zE).trans (e3 0), (h.frozen (p := ⟨w.heap.size, 1, none⟩) zE).trans (e3 1), (h.frozen (p := ⟨w.heap.size, 2, none⟩) zE).trans (e3 2)⟩
  clear hE e0 e1 e2 e3 B0
  rintro e Z0 ⟨rfl, hbZ⟩
  have hZ0 : Below E.heap.size E Z0 := hbZ
  clear R1 hbZ
  go_wp2_with fail
  refine (R2.out _ (WE.out _ hZ0)).mono ?_
  rintro e Z ⟨rfl, hbZ⟩
  have hZ : Below E.heap.size E Z := hZ0.trans (hbZ.mono hZ0.size)
  have zZ := hZ.size
  have D0 : Below E.heap.size E Z.drew := hZ.drew
  have CV : ∀ wx : World, Below E.heap.size E wx → wx.cell? ⟨b3, o3 + q, none⟩ = some (.int .i64 v) := fun wx h => ((WE.out _ h).cell (p := ⟨b3, o3 + q, none⟩) hb3).trans hv
  clear R2 hbZ hZ0
  go_wp2_with fail
  go_cut [14] (fun sv wx => ∃ b a1 c1 a2 c2, sv = .pointer (some ⟨b, 0, none⟩) ∧ E.heap.size ≤ b ∧ b < wx.heap.size ∧ wx.cell? ⟨b, 0, none⟩ = some (.bool (X1).isSome) ∧ wx.cell? ⟨b, 1, none⟩ = some (.slice a1 (clA (X1)).length c1) ∧ wx.cell? ⟨b, 2, none⟩ = some (.slice a2 (clB (X1)).length c2) ∧ (wx.frozen? ⟨b, 0, none⟩ = false ∧ wx.frozen? ⟨b, 1, none⟩ = false ∧ wx.frozen? ⟨b, 2, none⟩ = false) ∧ OwnC wx E.heap.size a1 a2 c1 c2 (clA (X1)) (clB (X1)) ∧ Below E.heap.size E wx)
  case first =>
    go_region_held3 (fun wx => Below E.heap.size E wx)
      ((first | exact D0 | exact D1 | assumption | exact (D0.alloc (by first | omega | (simp; omega) | simp) _) | exact (D1.alloc D1.size _) | exact ((D1.setCell (by first | omega | (simp; omega) | simp) _).setCell (by first | omega | (simp; omega) | simp) _).setCell (by first | omega | (simp; omega) | simp) _))
      ((first | (go_at_call 117; refine (R5.out _ (WE.out _ (by assumption))).mono ?_; rintro _ ua ⟨rfl, hba⟩; have D1 : Below E.heap.size E ua := Below.trans (by assumption) (hba.mono (Below.size (by assumption))); have zD := D1.size; (try (first | (have hvv := var3 hba) | (have hbb := var_drew hba; have hvv := var3 hbb) | (have hbb := var_on (A := World.alloc _ _) (by assumption) hba; have hvv := var3 hbb)); obtain ⟨⟨q0, q1, q2⟩, ⟨f0, f1, f2⟩, q3⟩ := hvv; (try simp at q0 q1 q2 q3 f0 f1 f2))) | (go_at_call 119; refine (ND.out _).mono ?_; rintro _ ua ⟨a1, c1, a2, c2, rfl, O1, hba⟩; have D1 : Below E.heap.size E ua := Below.trans (by assumption) (hba.mono (Below.size (by assumption))); have zD := D1.size; (try (first | (have hvv := var3 hba) | (have hbb := var_drew hba; have hvv := var3 hbb) | (have hbb := var_on (A := World.alloc _ _) (by assumption) hba; have hvv := var3 hbb)); obtain ⟨⟨q0, q1, q2⟩, ⟨f0, f1, f2⟩, q3⟩ := hvv; (try simp at q0 q1 q2 q3 f0 f1 f2))) | fail))
    all_goals go_wp2_with fail
    all_goals go_meet
    all_goals first
      | exact ⟨_, a1, c1, a2, c2, rfl, D1.size, by simp, by simp [go_sem], by simp [go_sem], by simp [go_sem], ⟨by simp [go_sem], by simp [go_sem], by simp [go_sem]⟩, (O1.mono (by first | assumption | (simp; omega) | omega)).below ((Below.refl _ _).alloc (Nat.le_refl _) _), D1.alloc D1.size _⟩
      | exact ⟨_, a1, c1, a2, c2, rfl, var_set q0 q1 q2 f0 f1 f2 (by omega) q3 D1 O1 (by first | assumption | simp)⟩
  case rest =>
    clear D0 zZ hZ R5 ND
    obtain ⟨b, a1, c1, a2, c2, rfl, hb0, hb1, k0, k1, k2, ⟨z0, z1, z2⟩, O1, hcb⟩ := hcut
    generalize wc = X at *
    obtain ⟨⟨r0, r1, r2⟩, ⟨g0, g1, g2⟩⟩ := RV.out X hcb
    cases X1 with
    | some y =>
      have O1' : Hid (OwnC X E.heap.size a1 a2 c1 c2 y.1 y.2) := O1
      clear O1
      simp only [Option.isSome_some, clA, clB] at k0 k1 k2
      go_wp2
      refine bodyPost_ret (v := .agg #[.bool true, .slice a1 y.1.length c1, .slice a2 y.2.length c2]) (by simp [results, Tryd.results70, go_sem, r0, r1, r2]) rfl ⟨a1, c1, a2, c2, rfl, ?_, ?_⟩
      · exact (((O1'.out.set _ _ zE).set _ _ zE).set _ _ zE).mono (Nat.le_of_lt zE)
      · exact (((WE.out _ hcb).setCell (Nat.le_refl _) _).setCell (Nat.le_refl _) _).setCell (Nat.le_refl _) _
    | none =>
      clear O1
      simp only [Option.isSome_none, clA, clB] at k0 k1 k2
      go_wp2_with fail
      clear k0 k1 k2 z0 z1 z2 r0 r1 r2 g0 g1 g2 hb0 hb1
      have D4 : Below E.heap.size E X.drew := hcb.drew
      have W4 : Below w.heap.size w X.drew := WE.out _ D4
      go_region_held3 (fun wx => Below w.heap.size w wx)
        ((first | exact W4 | exact D1 | assumption | exact ((D1.setCell (Nat.le_refl _) _).setCell (Nat.le_refl _) _).setCell (Nat.le_refl _) _))
        ((first | (go_at_call 70; refine (IG.out _ (by assumption)).mono ?_; rintro _ ua ⟨a5, c5, a6, c6, rfl, O5, hba⟩; have D1 : Below w.heap.size w ua := Below.trans (by assumption) (hba.mono (Below.size (by assumption))); have hvv := RV.out _ (D4.trans (hba.mono D4.size)); obtain ⟨⟨q0, q1, q2⟩, ⟨f0, f1, f2⟩⟩ := hvv) | fail))
      go_wp2
      have zY : w.heap.size < X.heap.size := Nat.lt_of_lt_of_le zE hcb.size
      have O5' : OwnC ua X.heap.size a5 a6 c5 c6 (clA X2) (clB X2) := by simpa using O5
      refine bodyPost_ret (v := .agg #[.bool X2.isSome, .slice a5 (clA X2).length c5, .slice a6 (clB X2).length c6]) (by simp [results, Tryd.results70, go_sem, q0, q1, q2]) rfl ⟨a5, c5, a6, c6, rfl, ?_, ?_⟩
      · exact (((O5'.set _ _ zY).set _ _ zY).set _ _ zY).mono (Nat.le_of_lt zY)
      · exact ((D1.setCell (Nat.le_refl _) _).setCell (Nat.le_refl _) _).setCell (Nat.le_refl _) _


set_option maxRecDepth 100000 in
set_option maxHeartbeats 8000000 in
theorem l6Leaf_hi (b1 o1 b3 o3 cx cz q m : Nat) (xs : List Int) (a l v cl v1 v2 : Int) (X1 X2 : Cl) (w : World) (h2 : 2 ≤ xs.length) (h32 : xs.length ≤ 32) (hm : splN xs.length = m) (ha : ¬ a < m) (ha1 : a < xs.length) (hcx : xs.length ≤ cx) (hmx : cx ≤ maxLen) (hcz : q + 1 ≤ cz) (hmz : cz ≤ maxLen)
    (hv : w.cell? ⟨b3, o3 + q, none⟩ = some (.int .i64 v)) (hb3 : b3 < w.heap.size)
    (R5 : Hid (∀ u : World, Below w.heap.size w u → Calls Tryd.prog 117 #[.int .i64 l, .int .i64 (a - m), .int .i64 ((xs.length : Int) - m), .slice (some ⟨b3, o3, none⟩) q cz] u fun e w' => e = .returned (.int .i64 cl) ∧ Below u.heap.size u w'))
    (R1 : Hid (∀ u : World, Below w.heap.size w u → Calls Tryd.prog 69 #[.slice (some ⟨b1, o1, none⟩) m cx] u fun r w' => r = .returned (.int .i64 v1) ∧ Below u.heap.size u w'))
    (R2 : Hid (∀ u : World, Below w.heap.size w u → Calls Tryd.prog 69 #[.slice (some ⟨b1, o1 + m, none⟩) (xs.length - m) (cx - m)] u fun r w' => r = .returned (.int .i64 v2) ∧ Below u.heap.size u w'))
    (ND : Hid (∀ u : World, Calls Tryd.prog 119 #[.int .i64 v, .int .i64 cl, .int .i64 v1, .int .i64 v2] u fun r' w' => ∃ a1 c1 a2 c2, r' = .returned (.agg #[.bool (X1).isSome, .slice a1 (clA (X1)).length c1, .slice a2 (clB (X1)).length c2]) ∧ OwnC w' u.heap.size a1 a2 c1 c2 (clA (X1)) (clB (X1)) ∧ Below u.heap.size u w'))
    (IG : Hid (∀ u : World, Below w.heap.size w u → Calls Tryd.prog 70 #[.slice (some ⟨b1, o1 + m, none⟩) (xs.length - m) (cx - m), .int .i64 (a - m), .int .i64 l, .slice (some ⟨b3, o3, none⟩) q cz] u fun r' w' => ∃ a1 c1 a2 c2, r' = .returned (.agg #[.bool (X2).isSome, .slice a1 (clA (X2)).length c1, .slice a2 (clB (X2)).length c2]) ∧ OwnC w' u.heap.size a1 a2 c1 c2 (clA (X2)) (clB (X2)) ∧ Below u.heap.size u w')) :
    Calls Tryd.prog 70 #[.slice (some ⟨b1, o1, none⟩) xs.length cx, .int .i64 a, .int .i64 l, .slice (some ⟨b3, o3, none⟩) (q + 1) cz] w fun r' w' => ∃ a1 c1 a2 c2, r' = .returned (.agg #[.bool (X1 <|> X2 : Cl).isSome, .slice a1 (clA (X1 <|> X2)).length c1, .slice a2 (clB (X1 <|> X2)).length c2]) ∧ OwnC w' w.heap.size a1 a2 c1 c2 (clA (X1 <|> X2)) (clB (X1 <|> X2)) ∧ Below w.heap.size w w' := by
  unfold maxLen at hmx hmz
  obtain ⟨s1, s2, s3⟩ := splN_bd (n := xs.length) (by omega) (by omega)
  have HM : Hid (splN (xs.length : Int) = m) := hm
  have h1' : ¬ (xs.length : Int) ≤ 1 := by omega
  have m1 : (1 : Int) ≤ m := by omega
  have m2 : (m : Int) < xs.length := by omega
  have m3 : (xs.length : Int) ≤ cx := by omega
  have m4 : ¬ (cx : Int) = m := by omega
  have m5 : (0 : Int) ≤ m := by omega
  have m8 : ¬ cx = m := by omega
  have m6 : (m : Int) ≤ cx := by omega
  have m7 : (m : Int) ≤ xs.length := by omega
  have n1 : (q : Int) ≤ cz := by omega
  have hq : q ≤ 9223372036854775806 := by omega
  have n2 : (0 : Int) ≤ (q : Int) := by omega
  have n3 : (q : Int) < (q : Int) + 1 := by omega
  have n4 : (q : Int) < ((q + 1 : Nat) : Int) := by omega
  have n5 : q < q + 1 := by omega
  have w1 : IntKind.i64.wrap (a - (m : Int)) = a - m := by rw [IntKind.wrap_i64]; omega
  have w2 : IntKind.i64.wrap ((xs.length : Int) - m) = (xs.length : Int) - m := by rw [IntKind.wrap_i64]; omega
  clear hm s1 s2 s3
  go_enter Tryd.func70, Tryd.ntmps70
  go_wp2_with fail
  refine (split_any xs.length _ (by omega) (by omega)).mono ?_
  rintro e u ⟨rfl, hu⟩
  have hu2 := hu.symm
  subst hu2
  clear hu
  rw [HM.out]
  go_wp2_with fail
  refine (R1.out _ ((Below.refl _ _).alloc (Nat.le_refl _) _)).mono ?_
  have B0 : Below w.heap.size w (w.alloc (.cells #[.bool false, .slice none 0 0, .slice none 0 0] 29)) := (Below.refl _ _).alloc (Nat.le_refl _) _
  generalize hE : w.alloc (.cells #[.bool false, .slice none 0 0, .slice none 0 0] 29) = E at *
  have WE : Hid (∀ u : World, Below E.heap.size E u → Below w.heap.size w u) := fun u h => B0.trans (h.mono B0.size)
  have zE : w.heap.size < E.heap.size := by rw [← hE]; simp
  have e0 : E.cell? ⟨w.heap.size, 0, none⟩ = some (.bool false) := by rw [← hE]; simp [go_sem]
  have e1 : E.cell? ⟨w.heap.size, 1, none⟩ = some (.slice none 0 0) := by rw [← hE]; simp [go_sem]
  have e2 : E.cell? ⟨w.heap.size, 2, none⟩ = some (.slice none 0 0) := by rw [← hE]; simp [go_sem]
  have e3 : ∀ o, E.frozen? ⟨w.heap.size, o, none⟩ = false := by intro o; rw [← hE]; simp [go_sem]
  have RV : Hid (∀ u : World, Below E.heap.size E u → (u.cell? ⟨w.heap.size, 0, none⟩ = some (.bool false) ∧ u.cell? ⟨w.heap.size, 1, none⟩ = some (.slice none 0 0) ∧ u.cell? ⟨w.heap.size, 2, none⟩ = some (.slice none 0 0)) ∧ (u.frozen? ⟨w.heap.size, 0, none⟩ = false ∧ u.frozen? ⟨w.heap.size, 1, none⟩ = false ∧ u.frozen? ⟨w.heap.size, 2, none⟩ = false)) := fun u h => ⟨⟨(h.cell (p := ⟨w.heap.size, 0, none⟩) zE).trans e0, (h.cell (p := ⟨w.heap.size, 1, none⟩) zE).trans e1, (h.cell (p := ⟨w.heap.size, 2, none⟩) zE).trans e2⟩, (h.frozen (p := ⟨w.heap.size, 0, none⟩) zE).trans (e3 0), (h.frozen (p := ⟨w.heap.size, 1, none⟩) zE).trans (e3 1), (h.frozen (p := ⟨w.heap.size, 2, none⟩) zE).trans (e3 2)⟩
  clear hE e0 e1 e2 e3 B0
  rintro e Z0 ⟨rfl, hbZ⟩
  have hZ0 : Below E.heap.size E Z0 := hbZ
  clear R1 hbZ
  go_wp2_with fail
  refine (R2.out _ (WE.out _ hZ0)).mono ?_
  rintro e Z ⟨rfl, hbZ⟩
  have hZ : Below E.heap.size E Z := hZ0.trans (hbZ.mono hZ0.size)
  have zZ := hZ.size
  have D0 : Below E.heap.size E Z.drew := hZ.drew
  have CV : ∀ wx : World, Below E.heap.size E wx → wx.cell? ⟨b3, o3 + q, none⟩ = some (.int .i64 v) := fun wx h => ((WE.out _ h).cell (p := ⟨b3, o3 + q, none⟩) hb3).trans hv
  clear R2 hbZ hZ0
  go_wp2_with fail
  go_cut [15] (fun sv wx => ∃ b a1 c1 a2 c2, sv = .pointer (some ⟨b, 0, none⟩) ∧ E.heap.size ≤ b ∧ b < wx.heap.size ∧ wx.cell? ⟨b, 0, none⟩ = some (.bool (X1).isSome) ∧ wx.cell? ⟨b, 1, none⟩ = some (.slice a1 (clA (X1)).length c1) ∧ wx.cell? ⟨b, 2, none⟩ = some (.slice a2 (clB (X1)).length c2) ∧ (wx.frozen? ⟨b, 0, none⟩ = false ∧ wx.frozen? ⟨b, 1, none⟩ = false ∧ wx.frozen? ⟨b, 2, none⟩ = false) ∧ OwnC wx E.heap.size a1 a2 c1 c2 (clA (X1)) (clB (X1)) ∧ Below E.heap.size E wx)
  case first =>
    go_region_held3 (fun wx => Below E.heap.size E wx)
      ((first | exact D0 | exact D1 | assumption | exact (D0.alloc (by first | omega | (simp; omega) | simp) _) | exact (D1.alloc D1.size _) | exact ((D1.setCell (by first | omega | (simp; omega) | simp) _).setCell (by first | omega | (simp; omega) | simp) _).setCell (by first | omega | (simp; omega) | simp) _))
      ((first | (go_at_call 117; refine (R5.out _ (WE.out _ (by assumption))).mono ?_; rintro _ ua ⟨rfl, hba⟩; have D1 : Below E.heap.size E ua := Below.trans (by assumption) (hba.mono (Below.size (by assumption))); have zD := D1.size; (try (first | (have hvv := var3 hba) | (have hbb := var_drew hba; have hvv := var3 hbb) | (have hbb := var_on (A := World.alloc _ _) (by assumption) hba; have hvv := var3 hbb)); obtain ⟨⟨q0, q1, q2⟩, ⟨f0, f1, f2⟩, q3⟩ := hvv; (try simp at q0 q1 q2 q3 f0 f1 f2))) | (go_at_call 119; refine (ND.out _).mono ?_; rintro _ ua ⟨a1, c1, a2, c2, rfl, O1, hba⟩; have D1 : Below E.heap.size E ua := Below.trans (by assumption) (hba.mono (Below.size (by assumption))); have zD := D1.size; (try (first | (have hvv := var3 hba) | (have hbb := var_drew hba; have hvv := var3 hbb) | (have hbb := var_on (A := World.alloc _ _) (by assumption) hba; have hvv := var3 hbb)); obtain ⟨⟨q0, q1, q2⟩, ⟨f0, f1, f2⟩, q3⟩ := hvv; (try simp at q0 q1 q2 q3 f0 f1 f2))) | fail))
    all_goals go_wp2_with fail
    all_goals go_meet
    all_goals first
      | exact ⟨_, a1, c1, a2, c2, rfl, D1.size, by simp, by simp [go_sem], by simp [go_sem], by simp [go_sem], ⟨by simp [go_sem], by simp [go_sem], by simp [go_sem]⟩, (O1.mono (by first | assumption | (simp; omega) | omega)).below ((Below.refl _ _).alloc (Nat.le_refl _) _), D1.alloc D1.size _⟩
      | exact ⟨_, a1, c1, a2, c2, rfl, var_set q0 q1 q2 f0 f1 f2 (by omega) q3 D1 O1 (by first | assumption | simp)⟩
  case rest =>
    clear D0 zZ hZ R5 ND
    obtain ⟨b, a1, c1, a2, c2, rfl, hb0, hb1, k0, k1, k2, ⟨z0, z1, z2⟩, O1, hcb⟩ := hcut
    generalize wc = X at *
    obtain ⟨⟨r0, r1, r2⟩, ⟨g0, g1, g2⟩⟩ := RV.out X hcb
    cases X1 with
    | some y =>
      have O1' : Hid (OwnC X E.heap.size a1 a2 c1 c2 y.1 y.2) := O1
      clear O1
      simp only [Option.isSome_some, clA, clB] at k0 k1 k2
      go_wp2
      refine bodyPost_ret (v := .agg #[.bool true, .slice a1 y.1.length c1, .slice a2 y.2.length c2]) (by simp [results, Tryd.results70, go_sem, r0, r1, r2]) rfl ⟨a1, c1, a2, c2, rfl, ?_, ?_⟩
      · exact (((O1'.out.set _ _ zE).set _ _ zE).set _ _ zE).mono (Nat.le_of_lt zE)
      · exact (((WE.out _ hcb).setCell (Nat.le_refl _) _).setCell (Nat.le_refl _) _).setCell (Nat.le_refl _) _
    | none =>
      clear O1
      simp only [Option.isSome_none, clA, clB] at k0 k1 k2
      go_wp2_with fail
      clear k0 k1 k2 z0 z1 z2 r0 r1 r2 g0 g1 g2 hb0 hb1
      have D4 : Below E.heap.size E X.drew := hcb.drew
      have W4 : Below w.heap.size w X.drew := WE.out _ D4
      go_region_held3 (fun wx => Below w.heap.size w wx)
        ((first | exact W4 | exact D1 | assumption | exact ((D1.setCell (Nat.le_refl _) _).setCell (Nat.le_refl _) _).setCell (Nat.le_refl _) _))
        ((first | (go_at_call 70; refine (IG.out _ (by assumption)).mono ?_; rintro _ ua ⟨a5, c5, a6, c6, rfl, O5, hba⟩; have D1 : Below w.heap.size w ua := Below.trans (by assumption) (hba.mono (Below.size (by assumption))); have hvv := RV.out _ (D4.trans (hba.mono D4.size)); obtain ⟨⟨q0, q1, q2⟩, ⟨f0, f1, f2⟩⟩ := hvv) | fail))
      go_wp2
      have zY : w.heap.size < X.heap.size := Nat.lt_of_lt_of_le zE hcb.size
      have O5' : OwnC ua X.heap.size a5 a6 c5 c6 (clA X2) (clB X2) := by simpa using O5
      refine bodyPost_ret (v := .agg #[.bool X2.isSome, .slice a5 (clA X2).length c5, .slice a6 (clB X2).length c6]) (by simp [results, Tryd.results70, go_sem, q0, q1, q2]) rfl ⟨a5, c5, a6, c6, rfl, ?_, ?_⟩
      · exact (((O5'.set _ _ zY).set _ _ zY).set _ _ zY).mono (Nat.le_of_lt zY)
      · exact ((D1.setCell (Nat.le_refl _) _).setCell (Nat.le_refl _) _).setCell (Nat.le_refl _) _

end Go.Proofs.YtklhkhlmhddmcaaDoor

namespace Go.Proofs.YtklhkhlmhddmcaaDoor
open Go.ChangeShapes Go.WideShapes Go.ChangeAt Go.RowKit
set_option linter.unusedVariables false
set_option linter.unusedSimpArgs false

set_option maxHeartbeats 4000000 in
theorem l6Leaf_any (n : Nat) : ∀ (x z : Option Addr) (cx cz : Nat) (xs p : List Int) (a l : Int) (u : World), xs.length ≤ n → xs.length ≤ 32 → 0 ≤ a → a < xs.length → p.length = stN a xs.length → allS xs = true → allS p = true → (0 ≤ l ∧ l ≤ 65520) → Has u .i64 x xs.length xs → Has u .i64 z p.length p → xs.length ≤ cx → cx ≤ maxLen → p.length ≤ cz → cz ≤ maxLen →
    Calls Tryd.prog 70 #[.slice x xs.length cx, .int .i64 a, .int .i64 l, .slice z p.length cz] u fun r' w' => ∃ a1 c1 a2 c2, r' = .returned (.agg #[.bool (lfC xs a l p).isSome, .slice a1 (clA (lfC xs a l p)).length c1, .slice a2 (clB (lfC xs a l p)).length c2]) ∧ OwnC w' u.heap.size a1 a2 c1 c2 (clA (lfC xs a l p)) (clB (lfC xs a l p)) ∧ Below u.heap.size u w' := by
  induction n with
  | zero => intro x z cx cz xs p a l u hn h32 ha0 ha1; omega
  | succ n ih =>
    intro x z cx cz xs p a l u hn h32 ha0 ha1 hlen ax ap hl hx hz hcx hmx hcz hmz
    by_cases h1 : xs.length ≤ 1
    · have h1' : (xs.length : Int) ≤ 1 := by omega
      rw [lfC_le _ _ _ h1]
      go_enter Tryd.func70, Tryd.ntmps70
      go_wp2
      refine bodyPost_ret (v := .agg #[.bool false, .slice none 0 0, .slice none 0 0]) (by simp [results, Tryd.results70, go_sem]) rfl ⟨none, 0, none, 0, rfl, OwnC.nil _ _, ?_⟩
      repeat (first | exact Below.refl _ _ | refine Below.alloc ?_ (by (try simp) <;> omega) _ | refine Below.setCell ?_ (by (try simp) <;> omega) _)
    · have h2 : 2 ≤ xs.length := by omega
      obtain ⟨q1, q2, q3⟩ := splN_bd (n := (xs.length : Int)) (by omega) (by omega)
      obtain ⟨m, hm⟩ : ∃ m : Nat, splN (xs.length : Int) = m := ⟨(splN (xs.length : Int)).toNat, by omega⟩
      have hpos : 0 < p.length := by
        by_cases ha : a < splN xs.length
        · rw [hlen, stN_lo (by omega) ha]; omega
        · rw [hlen, stN_hi (by omega) ha]; omega
      obtain ⟨q, hq⟩ : ∃ q, p.length = q + 1 := ⟨p.length - 1, by omega⟩
      have hdl : p.dropLast = p.take q := by rw [List.dropLast_eq_take, hq]; rfl
      have hgl : p.getLastD 0 = p[q]'(by omega) := by
        rw [List.getLastD_eq_getLast?, List.getLast?_eq_getElem?]
        simp [hq]
      have hlast := allS_get ap q (by omega)
      have hiz := hz.init q (by omega)
      have hil : (p.take q).length = q := by simp; omega
      have tl : (xs.take m).length = m := by simp; omega
      have dl : (xs.drop m).length = xs.length - m := by simp
      obtain ⟨b1, o1, hx1, hlt1⟩ : ∃ b off, x = some ⟨b, off, none⟩ ∧ b < u.heap.size := by
        rcases hx.2.2 with c | ⟨b, o, h, h2, _⟩
        · omega
        · exact ⟨b, o, h, h2⟩
      obtain ⟨b3, o3, hz1, hlt3, hcell⟩ : ∃ b off, z = some ⟨b, off, none⟩ ∧ b < u.heap.size ∧ ∀ i, i < p.length → u.cell? ⟨b, off + i, none⟩ = some (.int .i64 (p.getD i 0)) := by
        rcases hz.2.2 with c | h
        · omega
        · exact h
      subst hx1 hz1
      have hv : u.cell? ⟨b3, o3 + q, none⟩ = some (.int .i64 (p[q]'(by omega))) := by rw [hcell q (by omega)]; simp [List.getD, hq]
      generalize hvq : p[q]'(by omega) = v at *
      have hix := has_init hx m (by omega)
      have hrx := has_rest hx m (by omega)
      have R1 : Hid (∀ u' : World, Below u.heap.size u u' → Calls Tryd.prog 69 #[.slice (some ⟨b1, o1, none⟩) m cx] u' fun r w' => r = .returned (.int .i64 (rtM nS 11 (xs.take m))) ∧ Below u'.heap.size u' w') := by
        intro u' hu
        have := l4Root_any _ (some ⟨b1, o1, none⟩) cx (xs.take m) u' (Nat.le_refl _) (by omega) (allS_take ax m) (hix.below hu (Nat.le_refl _)) (by omega) hmx
        rw [tl] at this; exact this
      have R2 : Hid (∀ u' : World, Below u.heap.size u u' → Calls Tryd.prog 69 #[.slice (some ⟨b1, o1 + m, none⟩) (xs.length - m) (cx - m)] u' fun r w' => r = .returned (.int .i64 (rtM nS 11 (xs.drop m))) ∧ Below u'.heap.size u' w') := by
        intro u' hu
        have := l4Root_any _ (some ⟨b1, o1 + m, none⟩) (cx - m) (xs.drop m) u' (Nat.le_refl _) (by omega) (allS_drop ax m) (hrx.below hu (Nat.le_refl _)) (by omega) (by omega)
        rw [dl] at this; exact this
      by_cases ha : a < splN xs.length
      · have hl2 : (p.take q).length = stN a (splN xs.length) := by rw [hil]; rw [stN_lo (by omega) ha] at hlen; omega
        have hl3 : (p.take q).length = stN a (xs.take m).length := by rw [tl, ← hm]; exact hl2
        have R5 : Hid (∀ u' : World, Below u.heap.size u u' → Calls Tryd.prog 117 #[.int .i64 l, .int .i64 a, .int .i64 m, .slice (some ⟨b3, o3, none⟩) q cz] u' fun e w' => e = .returned (.int .i64 (clM nS l a (splN xs.length) (p.take q))) ∧ Below u'.heap.size u' w') := by
          intro u' hu
          have := l4Climb_any _ l a (splN xs.length) (some ⟨b3, o3, none⟩) cz (p.take q) u' (Nat.le_refl _) hl.1 hl.2 ha0 ha (by omega) hl2 (allS_take ap q) (hiz.below hu (Nat.le_refl _)) (by omega) hmz
          rw [hil, hm] at this
          rw [hm]
          exact this
        have IG : Hid (∀ u' : World, Below u.heap.size u u' → Calls Tryd.prog 70 #[.slice (some ⟨b1, o1, none⟩) m cx, .int .i64 a, .int .i64 l, .slice (some ⟨b3, o3, none⟩) q cz] u' fun r' w' => ∃ a1 c1 a2 c2, r' = .returned (.agg #[.bool (lfC (xs.take m) a l (p.take q)).isSome, .slice a1 (clA (lfC (xs.take m) a l (p.take q))).length c1, .slice a2 (clB (lfC (xs.take m) a l (p.take q))).length c2]) ∧ OwnC w' u'.heap.size a1 a2 c1 c2 (clA (lfC (xs.take m) a l (p.take q))) (clB (lfC (xs.take m) a l (p.take q))) ∧ Below u'.heap.size u' w') := by
          intro u' hu
          have := ih (some ⟨b1, o1, none⟩) (some ⟨b3, o3, none⟩) cx cz (xs.take m) (p.take q) a l u' (by omega) (by omega) ha0 (by omega) hl3 (allS_take ax m) (allS_take ap q) hl (hix.below hu (Nat.le_refl _)) (hiz.below hu (Nat.le_refl _)) (by omega) hmx (by omega) hmz
          rw [tl, hil] at this
          exact this
        have EQ : lfC xs a l p = (ndC (clM nS l a (splN xs.length) (p.take q)) v (rtM nS 11 (xs.take m)) (rtM nS 11 (xs.drop m)) <|> lfC (xs.take m) a l (p.take q)) := by
          rw [lfC_lo l p h2 ha, hdl, hgl, hm]; rfl
        rw [EQ, hq]
        exact l6Leaf_lo b1 o1 b3 o3 cx cz q m xs a l _ _ _ _ _ _ u h2 h32 hm ha0 (by omega) hcx hmx (by omega) hmz hv hlt3 R5 R1 R2 (fun u' => l6Nodes_any _ _ _ _ u' (clM_bd _ _ _ _ _ (Nat.le_refl _) hl.1 hl.2) hlast (rtM_bd _ _ (Nat.le_refl _) (allS_take ax m)) (rtM_bd _ _ (Nat.le_refl _) (allS_drop ax m))) IG
      · have ex : ((xs.length - m : Nat) : Int) = (xs.length : Int) - m := by omega
        have hl2 : (p.take q).length = stN (a - m) ((xs.length : Int) - m) := by rw [hil]; rw [stN_hi (by omega) ha, hm] at hlen; omega
        have hl3 : (p.take q).length = stN (a - m) (xs.drop m).length := by rw [dl, ex]; exact hl2
        have R5 : Hid (∀ u' : World, Below u.heap.size u u' → Calls Tryd.prog 117 #[.int .i64 l, .int .i64 (a - m), .int .i64 ((xs.length : Int) - m), .slice (some ⟨b3, o3, none⟩) q cz] u' fun e w' => e = .returned (.int .i64 (clM nS l (a - m) ((xs.length : Int) - m) (p.take q))) ∧ Below u'.heap.size u' w') := by
          intro u' hu
          have := l4Climb_any _ l (a - m) ((xs.length : Int) - m) (some ⟨b3, o3, none⟩) cz (p.take q) u' (Nat.le_refl _) hl.1 hl.2 (by omega) (by omega) (by omega) hl2 (allS_take ap q) (hiz.below hu (Nat.le_refl _)) (by omega) hmz
          rw [hil] at this
          exact this
        have IG : Hid (∀ u' : World, Below u.heap.size u u' → Calls Tryd.prog 70 #[.slice (some ⟨b1, o1 + m, none⟩) (xs.length - m) (cx - m), .int .i64 (a - m), .int .i64 l, .slice (some ⟨b3, o3, none⟩) q cz] u' fun r' w' => ∃ a1 c1 a2 c2, r' = .returned (.agg #[.bool (lfC (xs.drop m) (a - m) l (p.take q)).isSome, .slice a1 (clA (lfC (xs.drop m) (a - m) l (p.take q))).length c1, .slice a2 (clB (lfC (xs.drop m) (a - m) l (p.take q))).length c2]) ∧ OwnC w' u'.heap.size a1 a2 c1 c2 (clA (lfC (xs.drop m) (a - m) l (p.take q))) (clB (lfC (xs.drop m) (a - m) l (p.take q))) ∧ Below u'.heap.size u' w') := by
          intro u' hu
          have := ih (some ⟨b1, o1 + m, none⟩) (some ⟨b3, o3, none⟩) (cx - m) cz (xs.drop m) (p.take q) (a - m) l u' (by omega) (by omega) (by omega) (by omega) hl3 (allS_drop ax m) (allS_take ap q) hl (hrx.below hu (Nat.le_refl _)) (hiz.below hu (Nat.le_refl _)) (by omega) (by omega) (by omega) hmz
          rw [dl, hil] at this
          exact this
        have EQ : lfC xs a l p = (ndC v (clM nS l (a - m) ((xs.length : Int) - m) (p.take q)) (rtM nS 11 (xs.take m)) (rtM nS 11 (xs.drop m)) <|> lfC (xs.drop m) (a - m) l (p.take q)) := by
          rw [lfC_hi l p h2 ha, hdl, hgl, hm]; rfl
        rw [EQ, hq]
        exact l6Leaf_hi b1 o1 b3 o3 cx cz q m xs a l _ _ _ _ _ _ u h2 h32 hm (by omega) ha1 hcx hmx (by omega) hmz hv hlt3 R5 R1 R2 (fun u' => l6Nodes_any _ _ _ _ u' hlast (clM_bd _ _ _ _ _ (Nat.le_refl _) hl.1 hl.2) (rtM_bd _ _ (Nat.le_refl _) (allS_take ax m)) (rtM_bd _ _ (Nat.le_refl _) (allS_drop ax m))) IG

end Go.Proofs.YtklhkhlmhddmcaaDoor

namespace Go.Proofs.YtklhkhlmhddmcaaDoor
open Go.ChangeShapes Go.WideShapes Go.ChangeAt Go.RowKit
set_option linter.unusedVariables false
set_option linter.unusedSimpArgs false

/-- The code of LeafClash. -/
def lkC (rs : List Pc) (a : Int) (ds p : List Int) : Int := if pcF rs = 0 then (if 250 < ds.length then 2 else if clC (sumL (leafL ds)) a rs.length p = 0 then (if clM nS (sumL (leafL ds)) a rs.length p = rtM nS 11 (smL rs) then 0 else 8) else clC (sumL (leafL ds)) a rs.length p) else pcF rs
/-- The clash of LeafClash. -/
def lkX (rs : List Pc) (a : Int) (ds p : List Int) : Cl := if lkC rs a ds p = 0 then (lfC (smL rs) a (sumL (leafL ds)) p <|> lookC (leafL ds) (leafL ((rs.map Pc.zs).getD a.toNat []))) else none
theorem clC_ok {l a s : Int} {p : List Int} (h : clC l a s p = 0) : (0 ≤ l ∧ l ≤ 65520) ∧ (1 ≤ s ∧ s ≤ 24) ∧ (0 ≤ a ∧ a < s) ∧ p.length = stN a s ∧ allS p = true ∧ p.length ≤ 6 := by
  unfold clC at h
  split at h
  · rename_i h1
    split at h
    · omega
    · split at h
      · split at h
        · exact ⟨h1.1, h1.2.1, h1.2.2, ‹_›, ‹_›, by omega⟩
        · omega
      · omega
  · omega

set_option maxRecDepth 100000 in
set_option maxHeartbeats 16000000 in
theorem specLeafClash_no (x y z : Option Addr) (cx cy cz : Nat) (rs : List Pc) (a : Int) (ds p : List Int) (w : World) (hx : HasP w x rs) (hy : Has w .u8 y ds.length ds) (hz : Has w .i64 z p.length p) (lx : rs.length ≤ 1048576) (lr : ∀ r ∈ rs, r.zs.length ≤ 1048576) (ly : ds.length ≤ 1048576) (lz : p.length ≤ 1048576) (hcz : p.length ≤ cz) (hmz : cz ≤ maxLen) (hno : pcF rs ≠ 0 ∨ 250 < ds.length) :
    Calls Tryd.prog 21 #[.slice x rs.length cx, .int .i64 a, .slice y ds.length cy, .slice z p.length cz] w fun r' w' => ∃ a1 c1 a2 c2, r' = .returned (.agg #[.int .i64 (lkC rs a ds p), .bool (lkX rs a ds p).isSome, .slice a1 (clA (lkX rs a ds p)).length c1, .slice a2 (clB (lkX rs a ds p)).length c2]) ∧ OwnC w' w.heap.size a1 a2 c1 c2 (clA (lkX rs a ds p)) (clB (lkX rs a ds p)) ∧ Below w.heap.size w w' := by
  have B0 : Below w.heap.size w (w.alloc (.cells #[.int .i64 0, .bool false, .slice none 0 0, .slice none 0 0] 31)) := (Below.refl _ _).alloc (Nat.le_refl _) _
  have LF : Hid (∀ u' : World, Below w.heap.size w u' → Calls Tryd.prog 64 #[.slice x rs.length cx] u' fun r w' => r = .returned (.int .i64 (pcF rs)) ∧ Below u'.heap.size u' w') := fun u' hu => l6Fault_any x cx rs u' (hx.below hu (Nat.le_refl _)) lx lr
  have LS : Hid (∀ u' : World, Below w.heap.size w u' → Calls Tryd.prog 67 #[.slice y ds.length cy] u' fun r w' => r = .returned (.agg #[.int .i64 (if 250 < ds.length then 2 else 0), .int .i64 (if 250 < ds.length then 0 else sumL (leafL ds))]) ∧ Below u'.heap.size u' w') := fun u' hu => specLeafSum_any y cy ds u' (hy.below hu (Nat.le_refl _)) ly
  by_cases h0 : pcF rs = 0
  · obtain ⟨g24, g250⟩ := pcF_zero h0
    by_cases h1 : 250 < ds.length
    · have hC : lkC rs a ds p = 2 := by unfold lkC; rw [if_pos h0, if_pos h1]
      have hX : lkX rs a ds p = none := by unfold lkX; rw [if_neg (by omega)]
      rw [hC, hX]
      rw [if_pos h1, if_pos h1] at LS
      rw [h0] at LF
      clear hC hX h0 h1
      go_enter Tryd.func21, Tryd.ntmps21
      go_wp2_with fail
      refine (LF.out _ B0).mono ?_
      rintro r' u1 ⟨rfl, hb1⟩
      have B1 := B0.trans (hb1.mono (by simp))
      obtain ⟨hc1, hf1⟩ := bcell hb1
      have z1 := hb1.size
      simp at z1
      have y1 : w.heap.size < u1.heap.size := by omega
      go_wp2_with fail
      refine (LS.out _ B1).mono ?_
      rintro r' u2 ⟨rfl, hb2⟩
      have B2 := B1.trans (hb2.mono B1.size)
      obtain ⟨hc2, hf2⟩ := bcell hb2
      have z2 := hb2.size
      have y2 : w.heap.size < u2.heap.size := by omega
      go_wp2
      refine bodyPost_ret (v := .agg #[.int .i64 2, .bool false, .slice none 0 0, .slice none 0 0]) (by simp [results, Tryd.results21, go_sem, hc1, hc2, y1, y2]) rfl ⟨none, 0, none, 0, rfl, OwnC.nil _ _, ?_⟩
      repeat (first | exact B2 | (refine Below.setCell ?_ (by (try simp) <;> omega) _) | (refine Below.alloc ?_ (by (try simp) <;> omega) _))
    · exact absurd hno (by rintro (h | h); exact h h0; exact h1 h)
  · have hC : lkC rs a ds p = pcF rs := by unfold lkC; rw [if_neg h0]
    have hX : lkX rs a ds p = none := by unfold lkX; rw [if_neg (by rw [hC]; exact h0)]
    have b0 : (pcF rs != 0) = true := by simpa using h0
    rw [hC, hX]
    clear hC hX h0 LS
    generalize pcF rs = cc at *
    go_enter Tryd.func21, Tryd.ntmps21
    go_wp2_with fail
    refine (LF.out _ B0).mono ?_
    rintro r' u1 ⟨rfl, hb1⟩
    have B1 := B0.trans (hb1.mono (by simp))
    obtain ⟨hc1, hf1⟩ := bcell hb1
    have z1 := hb1.size
    simp at z1
    have y1 : w.heap.size < u1.heap.size := by omega
    go_wp2
    refine bodyPost_ret (v := .agg #[.int .i64 cc, .bool false, .slice none 0 0, .slice none 0 0]) (by simp [results, Tryd.results21, go_sem, hc1]) rfl ⟨none, 0, none, 0, rfl, OwnC.nil _ _, ?_⟩
    repeat (first | exact B1 | (refine Below.setCell ?_ (by (try simp) <;> omega) _))

end Go.Proofs.YtklhkhlmhddmcaaDoor

namespace Go.Proofs.YtklhkhlmhddmcaaDoor
open Go.ChangeShapes Go.WideShapes Go.ChangeAt Go.RowKit
set_option linter.unusedVariables false
set_option linter.unusedSimpArgs false

set_option maxRecDepth 100000 in
set_option maxHeartbeats 16000000 in
theorem leafClash_code (x y z : Option Addr) (cx cy cz nr nd np : Nat) (a l cc cv : Int) (w : World) (hcc : cc ≠ 0) (hnr : nr ≤ 1048576)
    (LF : Hid (∀ u' : World, Below w.heap.size w u' → Calls Tryd.prog 64 #[.slice x nr cx] u' fun r w' => r = .returned (.int .i64 0) ∧ Below u'.heap.size u' w'))
    (LS : Hid (∀ u' : World, Below w.heap.size w u' → Calls Tryd.prog 67 #[.slice y nd cy] u' fun r w' => r = .returned (.agg #[.int .i64 0, .int .i64 l]) ∧ Below u'.heap.size u' w'))
    (CP : Hid (∀ u' : World, Below w.heap.size w u' → Calls Tryd.prog 68 #[.int .i64 l, .int .i64 a, .int .i64 nr, .slice z np cz] u' fun r w' => r = .returned (.agg #[.int .i64 cc, .int .i64 cv]) ∧ Below u'.heap.size u' w')) :
    Calls Tryd.prog 21 #[.slice x nr cx, .int .i64 a, .slice y nd cy, .slice z np cz] w fun r' w' => r' = .returned (.agg #[.int .i64 cc, .bool false, .slice none 0 0, .slice none 0 0]) ∧ Below w.heap.size w w' := by
  have B0 : Below w.heap.size w (w.alloc (.cells #[.int .i64 0, .bool false, .slice none 0 0, .slice none 0 0] 31)) := (Below.refl _ _).alloc (Nat.le_refl _) _
  have b0 : (cc != 0) = true := by simpa using hcc
  clear hcc
  go_enter Tryd.func21, Tryd.ntmps21
  go_wp2_with fail
  refine (LF.out _ B0).mono ?_
  rintro r' u1 ⟨rfl, hb1⟩
  have B1 := B0.trans (hb1.mono (by simp))
  have z1 := hb1.size
  simp at z1
  have RV1 : Hid (∀ u : World, Below u1.heap.size u1 u → (u.cell? ⟨w.heap.size, 0, none⟩ = some (.int .i64 0) ∧ u.cell? ⟨w.heap.size, 1, none⟩ = some (.bool false) ∧ u.cell? ⟨w.heap.size, 2, none⟩ = some (.slice none 0 0) ∧ u.cell? ⟨w.heap.size, 3, none⟩ = some (.slice none 0 0)) ∧ (u.frozen? ⟨w.heap.size, 0, none⟩ = false ∧ u.frozen? ⟨w.heap.size, 1, none⟩ = false ∧ u.frozen? ⟨w.heap.size, 2, none⟩ = false ∧ u.frozen? ⟨w.heap.size, 3, none⟩ = false)) := fun u h => var4 (hb1.trans (h.mono (by simp; omega)))
  clear hb1
  go_wp2_with fail
  refine (LS.out _ B1).mono ?_
  rintro r' u2 ⟨rfl, hb2⟩
  have z2 := hb2.size
  have B2 := B1.trans (hb2.mono B1.size)
  have B2' : Below w.heap.size w (u2.alloc (.cells #[.int .i64 0, .int .i64 l] 40)) := B2.alloc B2.size _
  have C2 : Below u1.heap.size u1 (u2.alloc (.cells #[.int .i64 0, .int .i64 l] 40)) := hb2.alloc hb2.size _
  clear hb2 B1
  go_wp2_with fail
  refine (CP.out _ B2').mono ?_
  rintro r' u3 ⟨rfl, hb3⟩
  have z3 := hb3.size
  simp at z3
  have B3 := B2'.trans (hb3.mono (by simp; omega))
  have C3 := C2.trans (hb3.mono (by simp; omega))
  obtain ⟨v10, v11⟩ := var2 hb3
  have y3 : w.heap.size < u3.heap.size := by omega
  obtain ⟨⟨r0, r1, r2, r3⟩, ⟨g0, g1, g2, g3⟩⟩ := RV1.out _ C3
  clear hb3
  go_wp2
  refine bodyPost_ret (v := .agg #[.int .i64 cc, .bool false, .slice none 0 0, .slice none 0 0]) (by simp [results, Tryd.results21, go_sem, r0, r1, r2, r3, y3]) rfl ⟨rfl, ?_⟩
  repeat (first | exact B3 | (refine Below.setCell ?_ (by (try simp) <;> omega) _) | (refine Below.alloc ?_ (by (try simp) <;> omega) _))

end Go.Proofs.YtklhkhlmhddmcaaDoor

namespace Go.Proofs.YtklhkhlmhddmcaaDoor
open Go.ChangeShapes Go.WideShapes Go.ChangeAt Go.RowKit
set_option linter.unusedVariables false
set_option linter.unusedSimpArgs false

set_option maxRecDepth 100000 in
set_option maxHeartbeats 16000000 in
theorem leafClash_proof (x y z : Option Addr) (cx cy cz nr nd np N : Nat) (ss : List Int) (a l cv rv : Int) (w : World) (hne' : cv ≠ rv) (hnr : nr ≤ 1048576)
    (LF : Hid (∀ u' : World, Below w.heap.size w u' → Calls Tryd.prog 64 #[.slice x nr cx] u' fun r w' => r = .returned (.int .i64 0) ∧ Below u'.heap.size u' w'))
    (LS : Hid (∀ u' : World, Below w.heap.size w u' → Calls Tryd.prog 67 #[.slice y nd cy] u' fun r w' => r = .returned (.agg #[.int .i64 0, .int .i64 l]) ∧ Below u'.heap.size u' w'))
    (CP : Hid (∀ u' : World, Below w.heap.size w u' → Calls Tryd.prog 68 #[.int .i64 l, .int .i64 a, .int .i64 nr, .slice z np cz] u' fun r w' => r = .returned (.agg #[.int .i64 0, .int .i64 cv]) ∧ Below u'.heap.size u' w'))
    (SM : Hid (∀ u' : World, Below w.heap.size w u' → Calls Tryd.prog 54 #[.slice x nr cx] u' fun r w' => ∃ pa pc, r = .returned (.slice pa N pc) ∧ Has w' .i64 pa N ss ∧ (N ≤ pc ∧ pc ≤ maxLen) ∧ Below u'.heap.size u' w'))
    (RT : Hid (∀ (u' : World) (pa : Option Addr) (pc : Nat), Has u' .i64 pa N ss → (N ≤ pc ∧ pc ≤ maxLen) → Calls Tryd.prog 69 #[.slice pa N pc] u' fun r w' => r = .returned (.int .i64 rv) ∧ Below u'.heap.size u' w')) :
    Calls Tryd.prog 21 #[.slice x nr cx, .int .i64 a, .slice y nd cy, .slice z np cz] w fun r' w' => r' = .returned (.agg #[.int .i64 8, .bool false, .slice none 0 0, .slice none 0 0]) ∧ Below w.heap.size w w' := by
  have B0 : Below w.heap.size w (w.alloc (.cells #[.int .i64 0, .bool false, .slice none 0 0, .slice none 0 0] 31)) := (Below.refl _ _).alloc (Nat.le_refl _) _
  have b8 : (cv != rv) = true := by simpa using hne'
  clear hne'
  go_enter Tryd.func21, Tryd.ntmps21
  go_wp2_with fail
  refine (LF.out _ B0).mono ?_
  rintro r' u1 ⟨rfl, hb1⟩
  have B1 := B0.trans (hb1.mono (by simp))
  have z1 := hb1.size
  simp at z1
  have RV1 : Hid (∀ u : World, Below u1.heap.size u1 u → (u.cell? ⟨w.heap.size, 0, none⟩ = some (.int .i64 0) ∧ u.cell? ⟨w.heap.size, 1, none⟩ = some (.bool false) ∧ u.cell? ⟨w.heap.size, 2, none⟩ = some (.slice none 0 0) ∧ u.cell? ⟨w.heap.size, 3, none⟩ = some (.slice none 0 0)) ∧ (u.frozen? ⟨w.heap.size, 0, none⟩ = false ∧ u.frozen? ⟨w.heap.size, 1, none⟩ = false ∧ u.frozen? ⟨w.heap.size, 2, none⟩ = false ∧ u.frozen? ⟨w.heap.size, 3, none⟩ = false)) := fun u h => var4 (hb1.trans (h.mono (by simp; omega)))
  clear hb1
  go_wp2_with fail
  refine (LS.out _ B1).mono ?_
  rintro r' u2 ⟨rfl, hb2⟩
  have z2 := hb2.size
  have B2 := B1.trans (hb2.mono B1.size)
  have B2' : Below w.heap.size w (u2.alloc (.cells #[.int .i64 0, .int .i64 l] 40)) := B2.alloc B2.size _
  have C2 : Below u1.heap.size u1 (u2.alloc (.cells #[.int .i64 0, .int .i64 l] 40)) := hb2.alloc hb2.size _
  clear hb2 B1
  go_wp2_with fail
  refine (CP.out _ B2').mono ?_
  rintro r' u3 ⟨rfl, hb3⟩
  have z3 := hb3.size
  simp at z3
  have B3 := B2'.trans (hb3.mono (by simp; omega))
  have C3 := C2.trans (hb3.mono (by simp; omega))
  obtain ⟨v10, v11⟩ := var2 hb3
  have B3' : Below w.heap.size w (u3.alloc (.cells #[.int .i64 0, .int .i64 cv] 40)) := B3.alloc B3.size _
  have C3' : Below u1.heap.size u1 (u3.alloc (.cells #[.int .i64 0, .int .i64 cv] 40)) := C3.alloc C3.size _
  have A3 : Below u3.heap.size u3 (u3.alloc (.cells #[.int .i64 0, .int .i64 cv] 40)) := (Below.refl _ _).alloc (Nat.le_refl _) _
  clear hb3
  go_wp2_with fail
  refine (SM.out _ B3').mono ?_
  rintro r' u4 ⟨pa, pc, rfl, H4, hpc, hb4⟩
  obtain ⟨v20, v21⟩ := var2 hb4
  have z4 := hb4.size
  simp at z4
  have x11 : u4.cell? ⟨u2.heap.size, 1, none⟩ = some (.int .i64 l) := (hb4.cell (p := ⟨u2.heap.size, 1, none⟩) (show u2.heap.size < _ by simp; omega)).trans ((A3.cell (p := ⟨u2.heap.size, 1, none⟩) (show u2.heap.size < _ by omega)).trans v11)
  have B4 := B3'.trans (hb4.mono (by simp; omega))
  have C4 := C3'.trans (hb4.mono (by simp; omega))
  clear hb4 v10 v11 A3
  go_wp2_with fail
  have hne : Nonempty (KeptW u4) := ⟨⟨_, Below.refl _ _⟩⟩
  have K1 := KeptW.cell v21 (show u3.heap.size < u4.heap.size by omega)
  have RTd : Hid (∀ d : KeptW u4, Calls Tryd.prog 69 #[.slice pa N pc] d.wd fun r w' => r = .returned (.int .i64 rv) ∧ Below d.wd.heap.size d.wd w') := fun d => RT.out d.wd pa pc (H4.below d.hb (Nat.le_refl _)) hpc
  refine wp_region_kept (by kernel_rfl) (by kernel_rfl) ?_
  repeat (go_big_quiet_step ((go_at_call 69; exact KeptW.calls (RTd.out _))))
  refine wpQuiet_nil ?_
  rintro _ ⟨d, rfl⟩
  have hY := d.hb
  generalize d.wd = Y at *
  have zY := hY.size
  have x11Y : Y.cell? ⟨u2.heap.size, 1, none⟩ = some (.int .i64 l) := (hY.cell (p := ⟨u2.heap.size, 1, none⟩) (show u2.heap.size < _ by omega)).trans x11
  have HY := H4.below hY (Nat.le_refl _)
  have BY := B4.trans (hY.mono B4.size)
  have CY := C4.trans (hY.mono C4.size)
  clear hne K1 RTd hY x11 v20 v21 H4 B4 C4
  have y3 : w.heap.size < Y.heap.size := by omega
  obtain ⟨⟨r0, r1, r2, r3⟩, ⟨g0, g1, g2, g3⟩⟩ := RV1.out _ CY
  go_wp2
  refine bodyPost_ret (v := .agg #[.int .i64 8, .bool false, .slice none 0 0, .slice none 0 0]) (by simp [results, Tryd.results21, go_sem, r0, r1, r2, r3, y3]) rfl ⟨rfl, ?_⟩
  repeat (first | exact BY | (refine Below.setCell ?_ (by (try simp) <;> omega) _) | (refine Below.alloc ?_ (by (try simp) <;> omega) _))

end Go.Proofs.YtklhkhlmhddmcaaDoor

namespace Go.Proofs.YtklhkhlmhddmcaaDoor
open Go.ChangeShapes Go.WideShapes Go.ChangeAt Go.RowKit
set_option linter.unusedVariables false
set_option linter.unusedSimpArgs false

set_option maxRecDepth 100000 in
set_option maxHeartbeats 16000000 in
theorem leafClash_main (bx ox j : Nat) (y z ad : Option Addr) (cx cy cz nr nd np N nz cap : Nat) (ss D R : List Int) (l cv : Int) (X1 X2 : Cl) (w : World) (hnr : nr ≤ 1048576) (hj : j < nr)
    (hat : w.cell? ⟨bx, ox + j, none⟩ = some (.slice ad nz cap)) (hbx : bx < w.heap.size)
    (LF : Hid (∀ u' : World, Below w.heap.size w u' → Calls Tryd.prog 64 #[.slice (some ⟨bx, ox, none⟩) nr cx] u' fun r w' => r = .returned (.int .i64 0) ∧ Below u'.heap.size u' w'))
    (LS : Hid (∀ u' : World, Below w.heap.size w u' → Calls Tryd.prog 67 #[.slice y nd cy] u' fun r w' => r = .returned (.agg #[.int .i64 0, .int .i64 l]) ∧ Below u'.heap.size u' w'))
    (CP : Hid (∀ u' : World, Below w.heap.size w u' → Calls Tryd.prog 68 #[.int .i64 l, .int .i64 j, .int .i64 nr, .slice z np cz] u' fun r w' => r = .returned (.agg #[.int .i64 0, .int .i64 cv]) ∧ Below u'.heap.size u' w'))
    (SM : Hid (∀ u' : World, Below w.heap.size w u' → Calls Tryd.prog 54 #[.slice (some ⟨bx, ox, none⟩) nr cx] u' fun r w' => ∃ pa pc, r = .returned (.slice pa N pc) ∧ Has w' .i64 pa N ss ∧ (N ≤ pc ∧ pc ≤ maxLen) ∧ Below u'.heap.size u' w'))
    (RT : Hid (∀ (u' : World) (pa : Option Addr) (pc : Nat), Has u' .i64 pa N ss → (N ≤ pc ∧ pc ≤ maxLen) → Calls Tryd.prog 69 #[.slice pa N pc] u' fun r w' => r = .returned (.int .i64 cv) ∧ Below u'.heap.size u' w'))
    (LG : Hid (∀ (u' : World) (pa : Option Addr) (pc : Nat), Below w.heap.size w u' → Has u' .i64 pa N ss → (N ≤ pc ∧ pc ≤ maxLen) → Calls Tryd.prog 70 #[.slice pa N pc, .int .i64 j, .int .i64 l, .slice z np cz] u' fun r' w' => ∃ a1 c1 a2 c2, r' = .returned (.agg #[.bool (X1).isSome, .slice a1 (clA (X1)).length c1, .slice a2 (clB (X1)).length c2]) ∧ OwnC w' u'.heap.size a1 a2 c1 c2 (clA (X1)) (clB (X1)) ∧ Below u'.heap.size u' w'))
    (LD : Hid (∀ u' : World, Below w.heap.size w u' → Calls Tryd.prog 72 #[.slice y nd cy] u' fun r w' => ∃ a' c', r = .returned (.slice a' D.length c') ∧ Has w' .u8 a' D.length D ∧ Below u'.heap.size u' w'))
    (LR : Hid (∀ u' : World, Below w.heap.size w u' → Calls Tryd.prog 72 #[.slice ad nz cap] u' fun r w' => ∃ a' c', r = .returned (.slice a' R.length c') ∧ Has w' .u8 a' R.length R ∧ Below u'.heap.size u' w'))
    (LC : Hid (∀ (u' : World) (p1 p2 : Option Addr) (k1 k2 : Nat), Has u' .u8 p1 D.length D → Has u' .u8 p2 R.length R → Calls Tryd.prog 71 #[.slice p1 D.length k1, .slice p2 R.length k2] u' fun r' w' => ∃ a1 c1 a2 c2, r' = .returned (.agg #[.bool (X2).isSome, .slice a1 (clA (X2)).length c1, .slice a2 (clB (X2)).length c2]) ∧ OwnC w' u'.heap.size a1 a2 c1 c2 (clA (X2)) (clB (X2)) ∧ Below u'.heap.size u' w')) :
    Calls Tryd.prog 21 #[.slice (some ⟨bx, ox, none⟩) nr cx, .int .i64 j, .slice y nd cy, .slice z np cz] w fun r' w' => ∃ a1 c1 a2 c2, r' = .returned (.agg #[.int .i64 0, .bool (X1 <|> X2 : Cl).isSome, .slice a1 (clA (X1 <|> X2)).length c1, .slice a2 (clB (X1 <|> X2)).length c2]) ∧ OwnC w' w.heap.size a1 a2 c1 c2 (clA (X1 <|> X2)) (clB (X1 <|> X2)) ∧ Below w.heap.size w w' := by
  have B0 : Below w.heap.size w (w.alloc (.cells #[.int .i64 0, .bool false, .slice none 0 0, .slice none 0 0] 31)) := (Below.refl _ _).alloc (Nat.le_refl _) _
  have b8 : (cv != cv) = false := by simp
  have j1 : (j : Int) < nr := by omega
  have j2 : (0 : Int) ≤ (j : Int) := by omega
  obtain ⟨rv, hrv⟩ : ∃ rv, cv = rv := ⟨cv, rfl⟩
  have RT2 : Hid (∀ (u' : World) (pa : Option Addr) (pc : Nat), Has u' .i64 pa N ss → (N ≤ pc ∧ pc ≤ maxLen) → Calls Tryd.prog 69 #[.slice pa N pc] u' fun r w' => r = .returned (.int .i64 rv) ∧ Below u'.heap.size u' w') := by rw [← hrv]; exact RT
  have b9 : (cv != rv) = false := by simpa using hrv
  clear RT b8 hrv
  have RT := RT2
  clear RT2
  go_enter Tryd.func21, Tryd.ntmps21
  go_wp2_with fail
  refine (LF.out _ B0).mono ?_
  rintro r' u1 ⟨rfl, hb1⟩
  have B1 := B0.trans (hb1.mono (by simp))
  have z1 := hb1.size
  simp at z1
  have RV1 : Hid (∀ u : World, Below u1.heap.size u1 u → (u.cell? ⟨w.heap.size, 0, none⟩ = some (.int .i64 0) ∧ u.cell? ⟨w.heap.size, 1, none⟩ = some (.bool false) ∧ u.cell? ⟨w.heap.size, 2, none⟩ = some (.slice none 0 0) ∧ u.cell? ⟨w.heap.size, 3, none⟩ = some (.slice none 0 0)) ∧ (u.frozen? ⟨w.heap.size, 0, none⟩ = false ∧ u.frozen? ⟨w.heap.size, 1, none⟩ = false ∧ u.frozen? ⟨w.heap.size, 2, none⟩ = false ∧ u.frozen? ⟨w.heap.size, 3, none⟩ = false)) := fun u h => var4 (hb1.trans (h.mono (by simp; omega)))
  clear hb1
  go_wp2_with fail
  refine (LS.out _ B1).mono ?_
  rintro r' u2 ⟨rfl, hb2⟩
  have z2 := hb2.size
  have B2 := B1.trans (hb2.mono B1.size)
  have B2' : Below w.heap.size w (u2.alloc (.cells #[.int .i64 0, .int .i64 l] 40)) := B2.alloc B2.size _
  have C2 : Below u1.heap.size u1 (u2.alloc (.cells #[.int .i64 0, .int .i64 l] 40)) := hb2.alloc hb2.size _
  clear hb2 B1
  go_wp2_with fail
  refine (CP.out _ B2').mono ?_
  rintro r' u3 ⟨rfl, hb3⟩
  have z3 := hb3.size
  simp at z3
  have B3 := B2'.trans (hb3.mono (by simp; omega))
  have C3 := C2.trans (hb3.mono (by simp; omega))
  obtain ⟨v10, v11⟩ := var2 hb3
  have B3' : Below w.heap.size w (u3.alloc (.cells #[.int .i64 0, .int .i64 cv] 40)) := B3.alloc B3.size _
  have C3' : Below u1.heap.size u1 (u3.alloc (.cells #[.int .i64 0, .int .i64 cv] 40)) := C3.alloc C3.size _
  have A3 : Below u3.heap.size u3 (u3.alloc (.cells #[.int .i64 0, .int .i64 cv] 40)) := (Below.refl _ _).alloc (Nat.le_refl _) _
  clear hb3
  go_wp2_with fail
  refine (SM.out _ B3').mono ?_
  rintro r' u4 ⟨pa, pc, rfl, H4, hpc, hb4⟩
  obtain ⟨v20, v21⟩ := var2 hb4
  have z4 := hb4.size
  simp at z4
  have x11 : u4.cell? ⟨u2.heap.size, 1, none⟩ = some (.int .i64 l) := (hb4.cell (p := ⟨u2.heap.size, 1, none⟩) (show u2.heap.size < _ by simp; omega)).trans ((A3.cell (p := ⟨u2.heap.size, 1, none⟩) (show u2.heap.size < _ by omega)).trans v11)
  have B4 := B3'.trans (hb4.mono (by simp; omega))
  have C4 := C3'.trans (hb4.mono (by simp; omega))
  clear hb4 v10 v11 A3
  go_wp2_with fail
  have hne : Nonempty (KeptW u4) := ⟨⟨_, Below.refl _ _⟩⟩
  have K1 := KeptW.cell v21 (show u3.heap.size < u4.heap.size by omega)
  have RTd : Hid (∀ d : KeptW u4, Calls Tryd.prog 69 #[.slice pa N pc] d.wd fun r w' => r = .returned (.int .i64 rv) ∧ Below d.wd.heap.size d.wd w') := fun d => RT.out d.wd pa pc (H4.below d.hb (Nat.le_refl _)) hpc
  refine wp_region_kept (by kernel_rfl) (by kernel_rfl) ?_
  repeat (go_big_quiet_step ((go_at_call 69; exact KeptW.calls (RTd.out _))))
  refine wpQuiet_nil ?_
  rintro _ ⟨d, rfl⟩
  have hY := d.hb
  generalize d.wd = Y at *
  have zY := hY.size
  have x11Y : Y.cell? ⟨u2.heap.size, 1, none⟩ = some (.int .i64 l) := (hY.cell (p := ⟨u2.heap.size, 1, none⟩) (show u2.heap.size < _ by omega)).trans x11
  have HY := H4.below hY (Nat.le_refl _)
  have BY := B4.trans (hY.mono B4.size)
  have CY := C4.trans (hY.mono C4.size)
  clear hne K1 RTd hY x11 v20 v21 H4 B4 C4
  have y3 : w.heap.size < Y.heap.size := by omega
  go_wp2_with fail
  refine (LG.out _ pa pc BY HY hpc).mono ?_
  rintro r' u6 ⟨a1, c1, a2, c2, rfl, O6, hb6⟩
  have B6 := BY.trans (hb6.mono BY.size)
  have C6 := CY.trans (hb6.mono CY.size)
  have z6 := hb6.size
  have y6 : w.heap.size < u6.heap.size := by omega
  clear hb6 HY BY CY x11Y
  cases X1 with
  | some yy =>
    obtain ⟨⟨r0, r1, r2, r3⟩, ⟨g0, g1, g2, g3⟩⟩ := RV1.out _ C6
    have O6' : Hid (OwnC u6 Y.heap.size a1 a2 c1 c2 yy.1 yy.2) := O6
    clear O6
    simp only [Option.isSome_some, clA, clB]
    go_wp2
    refine bodyPost_ret (v := .agg #[.int .i64 0, .bool true, .slice a1 yy.1.length c1, .slice a2 yy.2.length c2]) (by simp [results, Tryd.results21, go_sem, r0, r1, r2, r3, y6]) rfl ⟨a1, c1, a2, c2, rfl, ?_, ?_⟩
    · have O7 := ((O6'.out.below ((Below.refl u6.heap.size u6).alloc (Nat.le_refl _) (.cells #[.bool true, .slice a1 yy.1.length c1, .slice a2 yy.2.length c2] 29))))
      refine OwnC.mono ?_ (Nat.le_of_lt y3)
      first
        | exact ((((O7.set _ _ y3).set _ _ y3).set _ _ y3).set _ _ y3)
        | exact ((((O6'.out.set _ _ y3).set _ _ y3).set _ _ y3).set _ _ y3).below ((Below.refl _ _).alloc (Nat.le_refl _) _)
    · repeat (first | exact B6 | (refine Below.setCell ?_ (by (try simp) <;> omega) _) | (refine Below.alloc ?_ (by (try simp) <;> omega) _))
  | none =>
    clear O6
    simp only [Option.isSome_none, clA, clB, List.length_nil]
    go_wp2_with fail
    have zV0 : (u6.alloc (.cells #[.bool false, .slice a1 0 c1, .slice a2 0 c2] 29)).heap.size = u6.heap.size + 1 := by simp
    have AV : Below u6.heap.size u6 (u6.alloc (.cells #[.bool false, .slice a1 0 c1, .slice a2 0 c2] 29)) := (Below.refl _ _).alloc (Nat.le_refl _) _
    have BVr : Hid (∀ u : World, Below (u6.alloc (.cells #[.bool false, .slice a1 0 c1, .slice a2 0 c2] 29)).heap.size (u6.alloc (.cells #[.bool false, .slice a1 0 c1, .slice a2 0 c2] 29)) u → (u.cell? ⟨u6.heap.size, 0, none⟩ = some (.bool false) ∧ u.cell? ⟨u6.heap.size, 1, none⟩ = some (.slice a1 0 c1) ∧ u.cell? ⟨u6.heap.size, 2, none⟩ = some (.slice a2 0 c2)) ∧ (u.frozen? ⟨u6.heap.size, 0, none⟩ = false ∧ u.frozen? ⟨u6.heap.size, 1, none⟩ = false ∧ u.frozen? ⟨u6.heap.size, 2, none⟩ = false) ∧ u6.heap.size < u.heap.size) := fun u h => var3 h
    generalize u6.alloc (.cells #[.bool false, .slice a1 0 c1, .slice a2 0 c2] 29) = V at *
    have D0 : Below u6.heap.size u6 V.drew := AV.drew
    have DV0 : Below V.heap.size V V.drew := (Below.refl _ _).drew
    have WU : Hid (∀ wx : World, Below u6.heap.size u6 wx → Below w.heap.size w wx) := fun wx h => B6.trans (h.mono B6.size)
    have CA : ∀ wx : World, Below u6.heap.size u6 wx → wx.cell? ⟨bx, ox + j, none⟩ = some (.slice ad nz cap) := fun wx h => ((WU.out _ h).cell (p := ⟨bx, ox + j, none⟩) hbx).trans hat
    go_region_held3 (fun wx => Below u6.heap.size u6 wx)
      ((first | exact D0 | exact D1 | assumption | exact ((D1.setCell (Nat.le_refl _) _).setCell (Nat.le_refl _) _).setCell (Nat.le_refl _) _))
      ((first | (go_at_call_of 72 (Value.slice y nd cy); refine (LD.out _ (WU.out _ (by assumption))).mono ?_; rintro _ ua ⟨p1, k1, rfl, H1, hba⟩; have D1 : Below u6.heap.size u6 ua := Below.trans (by assumption) (hba.mono (Below.size (by assumption))); have DV : Below V.heap.size V ua := Below.trans (by assumption) (hba.mono (Below.size (by assumption)))) | (go_at_call_of 72 (Value.slice ad nz cap); refine (LR.out _ (WU.out _ (by assumption))).mono ?_; rintro _ ua ⟨p2, k2, rfl, H2, hba⟩; have D1 : Below u6.heap.size u6 ua := Below.trans (by assumption) (hba.mono (Below.size (by assumption))); have DV : Below V.heap.size V ua := Below.trans (by assumption) (hba.mono (Below.size (by assumption))); have H1b := H1.below hba (Nat.le_refl _)) | (go_at_call 71; refine (LC.out _ p1 p2 k1 k2 H1b H2).mono ?_; rintro _ ua ⟨a3, c3, a4, c4, rfl, O9, hba⟩; have O9' : OwnC ua V.heap.size a3 a4 c3 c4 (clA X2) (clB X2) := O9.mono (Below.size (by assumption)); have D1 : Below u6.heap.size u6 ua := Below.trans (by assumption) (hba.mono (Below.size (by assumption))); have DV : Below V.heap.size V ua := Below.trans (by assumption) (hba.mono (Below.size (by assumption))); have hvv := BVr.out _ DV; obtain ⟨⟨q0, q1, q2⟩, ⟨f0, f1, f2⟩, q3⟩ := hvv) | fail))
    obtain ⟨_, e1, n0, n1, n2, ⟨w0, w1, w2⟩, O3, D3⟩ := var_set (E := u6) (v0 := .bool X2.isSome) (v1 := .slice a3 (clA X2).length c3) (v2 := .slice a4 (clB X2).length c4) q0 q1 q2 f0 f1 f2 (Nat.le_refl _) q3 D1 O9' (by omega)
    generalize ((ua.setCell ⟨u6.heap.size, 0, none⟩ (.bool X2.isSome)).setCell ⟨u6.heap.size, 1, none⟩ (.slice a3 (clA X2).length c3)).setCell ⟨u6.heap.size, 2, none⟩ (.slice a4 (clB X2).length c4) = Z at *
    obtain ⟨⟨r0, r1, r2, r3⟩, ⟨g0, g1, g2, g3⟩⟩ := RV1.out _ (C6.trans (D3.mono C6.size))
    have BZ := WU.out _ D3
    have O3' : Hid (OwnC Z u6.heap.size a3 a4 c3 c4 (clA X2) (clB X2)) := O3
    clear O3 q0 q1 q2 f0 f1 f2 O9 O9' BVr CA LD LR LC
    go_wp2
    refine bodyPost_ret (v := .agg #[.int .i64 0, .bool X2.isSome, .slice a3 (clA X2).length c3, .slice a4 (clB X2).length c4]) (by simp [results, Tryd.results21, go_sem, r0, r1, r2, r3]) rfl ⟨a3, c3, a4, c4, rfl, ?_, ?_⟩
    · exact ((((O3'.out.set _ _ y6).set _ _ y6).set _ _ y6).set _ _ y6).mono (Nat.le_of_lt y6)
    · repeat (first | exact BZ | (refine Below.setCell ?_ (by (try simp) <;> omega) _))

end Go.Proofs.YtklhkhlmhddmcaaDoor

namespace Go.Proofs.YtklhkhlmhddmcaaDoor
open Go.ChangeShapes Go.WideShapes Go.ChangeAt Go.RowKit
set_option linter.unusedVariables false
set_option linter.unusedSimpArgs false

theorem own_capsV {w : World} {base e n c : Nat} {a : Option Addr} {xs : List Value} (h : w.ownsRow base e 1 (.slice a n c) n xs) : n ≤ c ∧ c ≤ maxLen := by
  rcases h.2 with ⟨e1, h0⟩ | ⟨g, cap, cur, e1, _, _, h1, h2, _⟩
  · simp at e1
    omega
  · simp at e1
    obtain ⟨_, rfl⟩ := e1
    exact ⟨h1, h2⟩

set_option maxHeartbeats 4000000 in
theorem specLeafClash_any (x y z : Option Addr) (cx cy cz : Nat) (rs : List Pc) (a : Int) (ds p : List Int) (w : World) (hx : HasP w x rs) (hy : Has w .u8 y ds.length ds) (hz : Has w .i64 z p.length p) (lx : rs.length ≤ 1048576) (lr : ∀ r ∈ rs, r.zs.length ≤ 1048576) (ly : ds.length ≤ 1048576) (lz : p.length ≤ 1048576) (hcz : p.length ≤ cz) (hmz : cz ≤ maxLen) :
    Calls Tryd.prog 21 #[.slice x rs.length cx, .int .i64 a, .slice y ds.length cy, .slice z p.length cz] w fun r' w' => ∃ a1 c1 a2 c2, r' = .returned (.agg #[.int .i64 (lkC rs a ds p), .bool (lkX rs a ds p).isSome, .slice a1 (clA (lkX rs a ds p)).length c1, .slice a2 (clB (lkX rs a ds p)).length c2]) ∧ OwnC w' w.heap.size a1 a2 c1 c2 (clA (lkX rs a ds p)) (clB (lkX rs a ds p)) ∧ Below w.heap.size w w' := by
  by_cases hno : pcF rs ≠ 0 ∨ 250 < ds.length
  · exact specLeafClash_no x y z cx cy cz rs a ds p w hx hy hz lx lr ly lz hcz hmz hno
  · have h0 : pcF rs = 0 := by
      by_cases h : pcF rs = 0
      · exact h
      · exact absurd (.inl h) hno
    have h1 : ¬ 250 < ds.length := fun h => hno (.inr h)
    obtain ⟨g24, g250⟩ := pcF_zero h0
    have lb := sum_bd (leafL ds)
    have LF : Hid (∀ u' : World, Below w.heap.size w u' → Calls Tryd.prog 64 #[.slice x rs.length cx] u' fun r w' => r = .returned (.int .i64 0) ∧ Below u'.heap.size u' w') := by
      intro u' hu
      have := l6Fault_any x cx rs u' (hx.below hu (Nat.le_refl _)) lx lr
      rw [h0] at this; exact this
    have LS : Hid (∀ u' : World, Below w.heap.size w u' → Calls Tryd.prog 67 #[.slice y ds.length cy] u' fun r w' => r = .returned (.agg #[.int .i64 0, .int .i64 (sumL (leafL ds))]) ∧ Below u'.heap.size u' w') := by
      intro u' hu
      have := specLeafSum_any y cy ds u' (hy.below hu (Nat.le_refl _)) ly
      rw [if_neg h1, if_neg h1] at this; exact this
    have CP : Hid (∀ u' : World, Below w.heap.size w u' → Calls Tryd.prog 68 #[.int .i64 (sumL (leafL ds)), .int .i64 a, .int .i64 rs.length, .slice z p.length cz] u' fun r w' => r = .returned (.agg #[.int .i64 (clC (sumL (leafL ds)) a rs.length p), .int .i64 (clV (sumL (leafL ds)) a rs.length p)]) ∧ Below u'.heap.size u' w') := fun u' hu => specClimb_any _ a rs.length z cz p u' (hz.below hu (Nat.le_refl _)) lz hcz hmz (by omega)
    by_cases h2 : clC (sumL (leafL ds)) a rs.length p = 0
    · obtain ⟨_, c2, c3, c4, c5, c6⟩ := clC_ok h2
      have hV : clV (sumL (leafL ds)) a rs.length p = clM nS (sumL (leafL ds)) a rs.length p := by unfold clV; rw [if_pos h2]
      rw [h2, hV] at CP
      have sl := smL_len rs
      have SM : Hid (∀ u' : World, Below w.heap.size w u' → Calls Tryd.prog 54 #[.slice x rs.length cx] u' fun r w' => ∃ pa pc, r = .returned (.slice pa (smL rs).length pc) ∧ Has w' .i64 pa (smL rs).length (smL rs) ∧ ((smL rs).length ≤ pc ∧ pc ≤ maxLen) ∧ Below u'.heap.size u' w') := by
        intro u' hu
        refine (l6Sums_any x cx rs u' (hx.below hu (Nat.le_refl _)) g24 lr).mono ?_
        rintro r w' ⟨pa, pc, rfl, ho, hb⟩
        exact ⟨pa, pc, rfl, has_of_own ho (allS_wf (smL_all rs)), own_capsV ho, hb⟩
      have RT : Hid (∀ (u' : World) (pa : Option Addr) (pc : Nat), Has u' .i64 pa (smL rs).length (smL rs) → ((smL rs).length ≤ pc ∧ pc ≤ maxLen) → Calls Tryd.prog 69 #[.slice pa (smL rs).length pc] u' fun r w' => r = .returned (.int .i64 (rtM nS 11 (smL rs))) ∧ Below u'.heap.size u' w') := fun u' pa pc h hc => l4Root_any _ pa pc (smL rs) u' (Nat.le_refl _) (by omega) (smL_all rs) h hc.1 hc.2
      by_cases h3 : clM nS (sumL (leafL ds)) a rs.length p = rtM nS 11 (smL rs)
      · have hC : lkC rs a ds p = 0 := by unfold lkC; rw [if_pos h0, if_neg h1, if_pos h2, if_pos h3]
        obtain ⟨j, rfl⟩ : ∃ j : Nat, a = (j : Int) := ⟨a.toNat, by omega⟩
        have hj : j < rs.length := by omega
        have hg : (rs.map Pc.zs).getD ((j : Int)).toNat [] = rs[j].zs := by
          rw [show ((j : Int)).toNat = j from rfl, List.getD_eq_getElem?_getD, List.getElem?_map, List.getElem?_eq_getElem hj]; rfl
        have hX : lkX rs j ds p = (lfC (smL rs) j (sumL (leafL ds)) p <|> lookC (leafL ds) (leafL rs[j].zs)) := by unfold lkX; rw [if_pos hC, hg]
        obtain ⟨bx, ox, hx1, hbx, hcell⟩ : ∃ b off, x = some ⟨b, off, none⟩ ∧ b < w.heap.size ∧ ∀ i (h : i < rs.length), w.cell? ⟨b, off + i, none⟩ = some (.slice rs[i].ad rs[i].zs.length rs[i].cap) := by
          rcases hx.1 with c | h
          · omega
          · exact h
        subst hx1
        have hrow := hx.2 rs[j] (List.getElem_mem hj)
        have hzj := lr rs[j] (List.getElem_mem hj)
        rw [h3] at CP
        have LG : Hid (∀ (u' : World) (pa : Option Addr) (pc : Nat), Below w.heap.size w u' → Has u' .i64 pa (smL rs).length (smL rs) → ((smL rs).length ≤ pc ∧ pc ≤ maxLen) → Calls Tryd.prog 70 #[.slice pa (smL rs).length pc, .int .i64 j, .int .i64 (sumL (leafL ds)), .slice z p.length cz] u' fun r' w' => ∃ a1 c1 a2 c2, r' = .returned (.agg #[.bool (lfC (smL rs) j (sumL (leafL ds)) p).isSome, .slice a1 (clA (lfC (smL rs) j (sumL (leafL ds)) p)).length c1, .slice a2 (clB (lfC (smL rs) j (sumL (leafL ds)) p)).length c2]) ∧ OwnC w' u'.heap.size a1 a2 c1 c2 (clA (lfC (smL rs) j (sumL (leafL ds)) p)) (clB (lfC (smL rs) j (sumL (leafL ds)) p)) ∧ Below u'.heap.size u' w') := fun u' pa pc hu h hc => l6Leaf_any _ pa z pc cz (smL rs) p j _ u' (Nat.le_refl _) (by omega) (by omega) (by omega) (by rw [sl]; exact c4) (smL_all rs) c5 lb h (hz.below hu (Nat.le_refl _)) hc.1 hc.2 hcz hmz
        have LD : Hid (∀ u' : World, Below w.heap.size w u' → Calls Tryd.prog 72 #[.slice y ds.length cy] u' fun r w' => ∃ a' c', r = .returned (.slice a' (leafL ds).length c') ∧ Has w' .u8 a' (leafL ds).length (leafL ds) ∧ Below u'.heap.size u' w') := by
          intro u' hu
          refine (l2Leaf_any y cy ds u' (hy.below hu (Nat.le_refl _)) (by omega)).mono ?_
          rintro r w' ⟨a', c', rfl, ho, hb⟩
          exact ⟨a', c', by simp [leafL], has_of_own ho (leaf_wf hy.2.1), hb⟩
        have LR : Hid (∀ u' : World, Below w.heap.size w u' → Calls Tryd.prog 72 #[.slice rs[j].ad rs[j].zs.length rs[j].cap] u' fun r w' => ∃ a' c', r = .returned (.slice a' (leafL rs[j].zs).length c') ∧ Has w' .u8 a' (leafL rs[j].zs).length (leafL rs[j].zs) ∧ Below u'.heap.size u' w') := by
          intro u' hu
          refine (l2Leaf_any rs[j].ad rs[j].cap rs[j].zs u' (hrow.1.below hu (Nat.le_refl _)) (by omega)).mono ?_
          rintro r w' ⟨a', c', rfl, ho, hb⟩
          exact ⟨a', c', by simp [leafL], has_of_own ho (leaf_wf hrow.1.2.1), hb⟩
        rw [hC, hX]
        exact leafClash_main bx ox j y z rs[j].ad cx cy cz rs.length ds.length p.length (smL rs).length rs[j].zs.length rs[j].cap (smL rs) (leafL ds) (leafL rs[j].zs) _ _ _ _ w lx hj (hcell j hj) hbx LF LS CP SM RT LG LD LR (fun u' p1 p2 k1 k2 e1 e2 => l2Clash_own p1 p2 k1 k2 _ _ u' e1 e2 (by simp [leafL]; omega) (by simp [leafL]; omega))
      · have hC : lkC rs a ds p = 8 := by unfold lkC; rw [if_pos h0, if_neg h1, if_pos h2, if_neg h3]
        have hX : lkX rs a ds p = none := by unfold lkX; rw [if_neg (by omega)]
        rw [hC, hX]
        refine (leafClash_proof x y z cx cy cz rs.length ds.length p.length (smL rs).length (smL rs) a _ _ _ w h3 lx LF LS CP SM RT).mono ?_
        rintro r' w' ⟨rfl, hb⟩
        exact ⟨none, 0, none, 0, rfl, OwnC.nil _ _, hb⟩
    · have hC : lkC rs a ds p = clC (sumL (leafL ds)) a rs.length p := by unfold lkC; rw [if_pos h0, if_neg h1, if_neg h2]
      have hX : lkX rs a ds p = none := by unfold lkX; rw [if_neg (by rw [hC]; exact h2)]
      rw [hC, hX]
      refine (leafClash_code x y z cx cy cz rs.length ds.length p.length a _ _ _ w h2 lx LF LS CP).mono ?_
      rintro r' w' ⟨rfl, hb⟩
      exact ⟨none, 0, none, 0, rfl, OwnC.nil _ _, hb⟩

end Go.Proofs.YtklhkhlmhddmcaaDoor
