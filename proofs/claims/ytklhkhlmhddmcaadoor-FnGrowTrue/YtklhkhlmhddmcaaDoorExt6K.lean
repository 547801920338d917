/- Contracts: the model's clash of a growth. Contracts: the model's clash of a growth, by the size of the greater log; its GrowClash. Contracts: the model's GrowClash. -/
import Derived.Test.YtklhkhlmhddmcaaDoorExt6C
import Derived.Test.YtklhkhlmhddmcaaDoorGrow5R
namespace Go.Proofs.YtklhkhlmhddmcaaDoor
open Go.ChangeShapes Go.WideShapes Go.ChangeAt Go.RowKit
set_option linter.unusedVariables false
set_option linter.unusedSimpArgs false

theorem l6Grow_same (x y z : Option Addr) (cx cy cz : Nat) (xs ys p : List Int) (wh : Bool) (r : Int) (u : World) (he : xs.length = ys.length) (h32 : ys.length ≤ 32) (ax : allS xs = true) (ay : allS ys = true) (hx : Has u .i64 x xs.length xs) (hy : Has u .i64 y ys.length ys) (hcx : xs.length ≤ cx) (hmx : cx ≤ maxLen) (hcy : ys.length ≤ cy) (hmy : cy ≤ maxLen) :
    Calls Tryd.prog 84 #[.slice x xs.length cx, .slice y ys.length cy, .bool wh, .int .i64 r, .slice z p.length cz] u fun r' w' => ∃ a1 c1 a2 c2, r' = .returned (.agg #[.bool (gkC xs ys wh r p).isSome, .slice a1 (clA (gkC xs ys wh r p)).length c1, .slice a2 (clB (gkC xs ys wh r p)).length c2]) ∧ OwnC w' u.heap.size a1 a2 c1 c2 (clA (gkC xs ys wh r p)) (clB (gkC xs ys wh r p)) ∧ Below u.heap.size u w' := by
  have eb : ((xs.length : Int) == (ys.length : Int)) = true := by simp [he]
  have TR : Hid (∀ u' : World, Below u.heap.size u u' → Calls Tryd.prog 89 #[.slice x xs.length cx, .slice y ys.length cy] u' fun r w' => ∃ a1 c1 a2 c2, r = .returned (.agg #[.bool (trC xs ys).isSome, .slice a1 (clA (trC xs ys)).length c1, .slice a2 (clB (trC xs ys)).length c2]) ∧ OwnC w' u'.heap.size a1 a2 c1 c2 (clA (trC xs ys)) (clB (trC xs ys)) ∧ Below u'.heap.size u' w') := fun u' hu => l6Tree_any _ x y cx cy xs ys u' (Nat.le_refl _) he (by omega) ax ay (hx.below hu (Nat.le_refl _)) (hy.below hu (Nat.le_refl _)) hcx hmx hcy hmy
  have B0 : Below u.heap.size u (u.alloc (.cells #[.bool false, .slice none 0 0, .slice none 0 0] 29)) := (Below.refl _ _).alloc (Nat.le_refl _) _
  rw [gkC_eq wh r p he]
  generalize trC xs ys = X at *
  clear he
  go_enter Tryd.func84, Tryd.ntmps84
  go_wp2_with fail
  refine (TR.out _ B0).mono ?_
  rintro r' u2 ⟨a1, c1, a2, c2, rfl, O2, hb2⟩
  have B2 : Below u.heap.size u u2 := B0.trans (hb2.mono (by simp))
  obtain ⟨hc2, hf2⟩ := bcell hb2
  have z2 := hb2.size
  simp at z2
  have O2' : Hid (OwnC u2 (u.heap.size + 1) a1 a2 c1 c2 (clA X) (clB X)) := by
    refine O2.mono ?_
    simp
  clear O2 TR
  go_wp2
  refine bodyPost_ret (v := .agg #[.bool X.isSome, .slice a1 (clA X).length c1, .slice a2 (clB X).length c2]) (by simp [results, Tryd.results84, go_sem, hc2]) rfl ⟨a1, c1, a2, c2, rfl, ?_, ?_⟩
  · exact (((O2'.out.set _ _ (Nat.lt_succ_self _)).set _ _ (Nat.lt_succ_self _)).set _ _ (Nat.lt_succ_self _)).mono (Nat.le_succ _)
  · exact ((B2.setCell (Nat.le_refl _) _).setCell (Nat.le_refl _) _).setCell (Nat.le_refl _) _

set_option maxRecDepth 100000 in
set_option maxHeartbeats 8000000 in
theorem l6Grow_lo (b1 o1 b2 o2 b3 o3 cx cy cz q m : Nat) (xs ys : List Int) (wh : Bool) (r v ca cb v3 v4 : Int) (X1 X2 : Cl) (w : World) (h2 : 2 ≤ ys.length) (h32 : ys.length ≤ 32) (hm : splN ys.length = m) (hs : (xs.length : Int) ≤ m) (hcy : ys.length ≤ cy) (hmy : cy ≤ maxLen) (hcz : q + 1 ≤ cz) (hmz : cz ≤ maxLen) (hne : (xs.length : Int) ≠ ys.length) (hlx : xs.length ≤ 1000)
    (hv : w.cell? ⟨b3, o3 + q, none⟩ = some (.int .i64 v)) (hb3 : b3 < w.heap.size)
    (R5 : Hid (∀ u : World, Below w.heap.size w u → Calls Tryd.prog 131 #[.int .i64 xs.length, .int .i64 m, .bool wh, .int .i64 r, .slice (some ⟨b3, o3, none⟩) q cz] u fun e w' => e = .returned (.tuple #[.int .i64 ca, .int .i64 cb]) ∧ Below u.heap.size u w'))
    (R3 : Hid (∀ u : World, Below w.heap.size w u → Calls Tryd.prog 69 #[.slice (some ⟨b2, o2, none⟩) m cy] u fun r w' => r = .returned (.int .i64 v3) ∧ Below u.heap.size u w'))
    (R4 : Hid (∀ u : World, Below w.heap.size w u → Calls Tryd.prog 69 #[.slice (some ⟨b2, o2 + m, none⟩) (ys.length - m) (cy - m)] u fun r w' => r = .returned (.int .i64 v4) ∧ Below u.heap.size u w'))
    (ND : Hid (∀ u : World, Calls Tryd.prog 119 #[.int .i64 cb, .int .i64 v, .int .i64 v3, .int .i64 v4] u fun r' w' => ∃ a1 c1 a2 c2, r' = .returned (.agg #[.bool (X1).isSome, .slice a1 (clA (X1)).length c1, .slice a2 (clB (X1)).length c2]) ∧ OwnC w' u.heap.size a1 a2 c1 c2 (clA (X1)) (clB (X1)) ∧ Below u.heap.size u w'))
    (IG : Hid (∀ u : World, Below w.heap.size w u → Calls Tryd.prog 84 #[.slice (some ⟨b1, o1, none⟩) xs.length cx, .slice (some ⟨b2, o2, none⟩) m cy, .bool wh, .int .i64 r, .slice (some ⟨b3, o3, none⟩) q cz] u fun r' w' => ∃ a1 c1 a2 c2, r' = .returned (.agg #[.bool (X2).isSome, .slice a1 (clA (X2)).length c1, .slice a2 (clB (X2)).length c2]) ∧ OwnC w' u.heap.size a1 a2 c1 c2 (clA (X2)) (clB (X2)) ∧ Below u.heap.size u w')) :
    Calls Tryd.prog 84 #[.slice (some ⟨b1, o1, none⟩) xs.length cx, .slice (some ⟨b2, o2, none⟩) ys.length cy, .bool wh, .int .i64 r, .slice (some ⟨b3, o3, none⟩) (q + 1) cz] w fun r' w' => ∃ a1 c1 a2 c2, r' = .returned (.agg #[.bool (X1 <|> X2 : Cl).isSome, .slice a1 (clA (X1 <|> X2)).length c1, .slice a2 (clB (X1 <|> X2)).length c2]) ∧ OwnC w' w.heap.size a1 a2 c1 c2 (clA (X1 <|> X2)) (clB (X1 <|> X2)) ∧ Below w.heap.size w w' := by
  unfold maxLen at hmy hmz
  obtain ⟨s1, s2, s3⟩ := splN_bd (n := ys.length) (by omega) (by omega)
  have HM : Hid (splN (ys.length : Int) = m) := hm
  have eb : ((xs.length : Int) == (ys.length : Int)) = false := by simpa using hne
  have m1 : (1 : Int) ≤ m := by omega
  have m2 : (m : Int) < ys.length := by omega
  have m3 : (ys.length : Int) ≤ cy := by omega
  have m4 : ¬ (cy : Int) = m := by omega
  have m5 : (0 : Int) ≤ m := by omega
  have m8 : ¬ cy = m := by omega
  have m6 : (m : Int) ≤ cy := by omega
  have m7 : (m : Int) ≤ ys.length := by omega
  have n1 : (q : Int) ≤ cz := by omega
  have hq : q ≤ 9223372036854775806 := by omega
  clear hm s1 s2 s3 hne
  go_enter Tryd.func84, Tryd.ntmps84
  go_wp2_with fail
  refine (split_any ys.length _ (by omega) (by omega)).mono ?_
  rintro e u ⟨rfl, hu⟩
  have hu2 := hu.symm
  subst hu2
  clear hu
  rw [HM.out]
  go_wp2_with fail
  refine (R5.out _ ((Below.refl _ _).alloc (Nat.le_refl _) _)).mono ?_
  have B0 : Below w.heap.size w (w.alloc (.cells #[.bool false, .slice none 0 0, .slice none 0 0] 29)) := (Below.refl _ _).alloc (Nat.le_refl _) _
  generalize hE : w.alloc (.cells #[.bool false, .slice none 0 0, .slice none 0 0] 29) = E at *
  have WE : Hid (∀ u : World, Below E.heap.size E u → Below w.heap.size w u) := fun u h => B0.trans (h.mono B0.size)
  have zE : w.heap.size < E.heap.size := by rw [← hE]; simp
  have e0 : E.cell? ⟨w.heap.size, 0, none⟩ = some (.bool false) := by rw [← hE]; simp [go_sem]
  have e1 : E.cell? ⟨w.heap.size, 1, none⟩ = some (.slice none 0 0) := by rw [← hE]; simp [go_sem]
  have e2 : E.cell? ⟨w.heap.size, 2, none⟩ = some (.slice none 0 0) := by rw [← hE]; simp [go_sem]
  have e3 : ∀ o, E.frozen? ⟨w.heap.size, o, none⟩ = false := by intro o; rw [← hE]; simp [go_sem]
  have RV : Hid (∀ u : World, Below E.heap.size E u → (u.cell? ⟨w.heap.size, 0, none⟩ = some (.bool false) ∧ u.cell? ⟨w.heap.size, 1, none⟩ = some (.slice none 0 0) ∧ u.cell? ⟨w.heap.size, 2, none⟩ = some (.slice none 0 0)) ∧ (u.frozen? ⟨w.heap.size, 0, none⟩ = false ∧ u.frozen? ⟨w.heap.size, 1, none⟩ = false ∧ u.frozen? ⟨w.heap.size, 2, none⟩ = false)) := fun u h => ⟨⟨(h.cell (p := ⟨w.heap.size, 0, none⟩) zE).trans e0, (h.cell (p := ⟨w.heap.size, 1, none⟩) zE).trans e1, (h.cell (p := ⟨w.heap.size, 2, none⟩) zE).trans e2⟩, (h.frozen (p := ⟨w.heap.size, 0, none⟩) zE).trans (e3 0), (h.frozen (p := ⟨w.heap.size, 1, none⟩) zE).trans (e3 1), (h.frozen (p := ⟨w.heap.size, 2, none⟩) zE).trans (e3 2)⟩
  clear hE e0 e1 e2 e3 B0
  rintro e Z ⟨rfl, hbZ⟩
  have hZ : Below E.heap.size E Z := hbZ
  have zZ := hZ.size
  have D0 : Below E.heap.size E Z.drew := hZ.drew
  clear R5 hbZ
  go_wp2_with fail
  go_cut [18] (fun sv wx => ∃ b a1 c1 a2 c2, sv = .pointer (some ⟨b, 0, none⟩) ∧ E.heap.size ≤ b ∧ b < wx.heap.size ∧ wx.cell? ⟨b, 0, none⟩ = some (.bool (X1).isSome) ∧ wx.cell? ⟨b, 1, none⟩ = some (.slice a1 (clA (X1)).length c1) ∧ wx.cell? ⟨b, 2, none⟩ = some (.slice a2 (clB (X1)).length c2) ∧ (wx.frozen? ⟨b, 0, none⟩ = false ∧ wx.frozen? ⟨b, 1, none⟩ = false ∧ wx.frozen? ⟨b, 2, none⟩ = false) ∧ OwnC wx E.heap.size a1 a2 c1 c2 (clA (X1)) (clB (X1)) ∧ Below E.heap.size E wx)
  case first =>
    go_region_held3 (fun wx => Below E.heap.size E wx)
      ((first | exact D0 | exact D1 | assumption | exact (D0.alloc (by first | omega | (simp; omega) | simp) _) | exact (D1.alloc D1.size _) | exact ((D1.setCell (by first | omega | (simp; omega) | simp) _).setCell (by first | omega | (simp; omega) | simp) _).setCell (by first | omega | (simp; omega) | simp) _))
      ((first | (go_at_call_of 69 (Value.slice (some ⟨b2, o2, none⟩) m cy); refine (R3.out _ (WE.out _ (by assumption))).mono ?_; rintro _ ua ⟨rfl, hba⟩; have D1 : Below E.heap.size E ua := Below.trans (by assumption) (hba.mono (Below.size (by assumption))); have zD := D1.size; (try (first | (have hvv := var3 hba) | (have hbb := var_drew hba; have hvv := var3 hbb) | (have hbb := var_on (A := World.alloc _ _) (by assumption) hba; have hvv := var3 hbb)); obtain ⟨⟨q0, q1, q2⟩, ⟨f0, f1, f2⟩, q3⟩ := hvv; (try simp at q0 q1 q2 q3 f0 f1 f2))) | (go_at_call_of 69 (Value.slice (some ⟨b2, o2 + m, none⟩) (ys.length - m) (cy - m)); refine (R4.out _ (WE.out _ (by assumption))).mono ?_; rintro _ ua ⟨rfl, hba⟩; have D1 : Below E.heap.size E ua := Below.trans (by assumption) (hba.mono (Below.size (by assumption))); have zD := D1.size; (try (first | (have hvv := var3 hba) | (have hbb := var_drew hba; have hvv := var3 hbb) | (have hbb := var_on (A := World.alloc _ _) (by assumption) hba; have hvv := var3 hbb)); obtain ⟨⟨q0, q1, q2⟩, ⟨f0, f1, f2⟩, q3⟩ := hvv; (try simp at q0 q1 q2 q3 f0 f1 f2))) | (go_at_call 119; refine (ND.out _).mono ?_; rintro _ ua ⟨a1, c1, a2, c2, rfl, O1, hba⟩; have D1 : Below E.heap.size E ua := Below.trans (by assumption) (hba.mono (Below.size (by assumption))); have zD := D1.size; (try (first | (have hvv := var3 hba) | (have hbb := var_drew hba; have hvv := var3 hbb) | (have hbb := var_on (A := World.alloc _ _) (by assumption) hba; have hvv := var3 hbb)); obtain ⟨⟨q0, q1, q2⟩, ⟨f0, f1, f2⟩, q3⟩ := hvv; (try simp at q0 q1 q2 q3 f0 f1 f2))) | fail))
    all_goals go_wp2_with fail
    all_goals go_meet
    all_goals first
      | exact ⟨_, a1, c1, a2, c2, rfl, D1.size, by simp, by simp [go_sem], by simp [go_sem], by simp [go_sem], ⟨by simp [go_sem], by simp [go_sem], by simp [go_sem]⟩, (O1.mono (by first | assumption | (simp; omega) | omega)).below ((Below.refl _ _).alloc (Nat.le_refl _) _), D1.alloc D1.size _⟩
      | exact ⟨_, a1, c1, a2, c2, rfl, var_set q0 q1 q2 f0 f1 f2 (by omega) q3 D1 O1 (by first | assumption | simp)⟩
  case rest =>
    obtain ⟨b, a1, c1, a2, c2, rfl, hb0, hb1, k0, k1, k2, ⟨z0, z1, z2⟩, O1, hcb⟩ := hcut
    generalize wc = X at *
    obtain ⟨⟨r0, r1, r2⟩, ⟨g0, g1, g2⟩⟩ := RV.out X hcb
    cases X1 with
    | some y =>
      have O1' : Hid (OwnC X E.heap.size a1 a2 c1 c2 y.1 y.2) := O1
      clear O1
      simp only [Option.isSome_some, clA, clB] at k0 k1 k2
      go_wp2
      refine bodyPost_ret (v := .agg #[.bool true, .slice a1 y.1.length c1, .slice a2 y.2.length c2]) (by simp [results, Tryd.results84, go_sem, r0, r1, r2]) rfl ⟨a1, c1, a2, c2, rfl, ?_, ?_⟩
      · exact (((O1'.out.set _ _ zE).set _ _ zE).set _ _ zE).mono (Nat.le_of_lt zE)
      · exact (((WE.out _ hcb).setCell (Nat.le_refl _) _).setCell (Nat.le_refl _) _).setCell (Nat.le_refl _) _
    | none =>
      clear O1
      simp only [Option.isSome_none, clA, clB] at k0 k1 k2
      go_wp2_with fail
      refine (IG.out _ (WE.out _ hcb)).mono ?_
      rintro e ua ⟨a5, c5, a6, c6, rfl, O5, hba⟩
      have D1 : Below E.heap.size E ua := hcb.trans (hba.mono hcb.size)
      obtain ⟨⟨q0, q1, q2⟩, ⟨f0, f1, f2⟩⟩ := RV.out _ D1
      have zY : w.heap.size < X.heap.size := Nat.lt_of_lt_of_le zE hcb.size
      have O5' : Hid (OwnC ua X.heap.size a5 a6 c5 c6 (clA X2) (clB X2)) := O5
      clear O5 k0 k1 k2 z0 z1 z2 r0 r1 r2 g0 g1 g2
      go_wp2
      refine bodyPost_ret (v := .agg #[.bool X2.isSome, .slice a5 (clA X2).length c5, .slice a6 (clB X2).length c6]) (by simp [results, Tryd.results84, go_sem, q0, q1, q2]) rfl ⟨a5, c5, a6, c6, rfl, ?_, ?_⟩
      · exact (((O5'.out.set _ _ zY).set _ _ zY).set _ _ zY).mono (Nat.le_of_lt zY)
      · exact (((WE.out _ D1).setCell (Nat.le_refl _) _).setCell (Nat.le_refl _) _).setCell (Nat.le_refl _) _

set_option maxRecDepth 100000 in
set_option maxHeartbeats 16000000 in
theorem l6Grow_hi (b1 o1 b2 o2 b3 o3 cx cy cz q m : Nat) (xs ys : List Int) (wh : Bool) (r v ca cb v1 v2 v3 v4 : Int) (X1 X2 X3 X4 : Cl) (w : World) (h2 : 2 ≤ ys.length) (h32 : ys.length ≤ 32) (hm : splN ys.length = m) (hs : ¬ (xs.length : Int) ≤ m) (hle : xs.length < ys.length) (hcx : xs.length ≤ cx) (hmx : cx ≤ maxLen) (hcy : ys.length ≤ cy) (hmy : cy ≤ maxLen) (hcz : q + 1 ≤ cz) (hmz : cz ≤ maxLen)
    (hv : w.cell? ⟨b3, o3 + q, none⟩ = some (.int .i64 v)) (hb3 : b3 < w.heap.size)
    (R5 : Hid (∀ u : World, Below w.heap.size w u → Calls Tryd.prog 131 #[.int .i64 ((xs.length : Int) - m), .int .i64 ((ys.length : Int) - m), .bool false, .int .i64 r, .slice (some ⟨b3, o3, none⟩) q cz] u fun e w' => e = .returned (.tuple #[.int .i64 ca, .int .i64 cb]) ∧ Below u.heap.size u w'))
    (R1 : Hid (∀ u : World, Below w.heap.size w u → Calls Tryd.prog 69 #[.slice (some ⟨b1, o1, none⟩) m cx] u fun r w' => r = .returned (.int .i64 v1) ∧ Below u.heap.size u w'))
    (R2 : Hid (∀ u : World, Below w.heap.size w u → Calls Tryd.prog 69 #[.slice (some ⟨b1, o1 + m, none⟩) (xs.length - m) (cx - m)] u fun r w' => r = .returned (.int .i64 v2) ∧ Below u.heap.size u w'))
    (R3 : Hid (∀ u : World, Below w.heap.size w u → Calls Tryd.prog 69 #[.slice (some ⟨b2, o2, none⟩) m cy] u fun r w' => r = .returned (.int .i64 v3) ∧ Below u.heap.size u w'))
    (R4 : Hid (∀ u : World, Below w.heap.size w u → Calls Tryd.prog 69 #[.slice (some ⟨b2, o2 + m, none⟩) (ys.length - m) (cy - m)] u fun r w' => r = .returned (.int .i64 v4) ∧ Below u.heap.size u w'))
    (ND1 : Hid (∀ u : World, Calls Tryd.prog 119 #[.int .i64 v, .int .i64 ca, .int .i64 v1, .int .i64 v2] u fun r' w' => ∃ a1 c1 a2 c2, r' = .returned (.agg #[.bool (X1).isSome, .slice a1 (clA (X1)).length c1, .slice a2 (clB (X1)).length c2]) ∧ OwnC w' u.heap.size a1 a2 c1 c2 (clA (X1)) (clB (X1)) ∧ Below u.heap.size u w'))
    (ND2 : Hid (∀ u : World, Calls Tryd.prog 119 #[.int .i64 v, .int .i64 cb, .int .i64 v3, .int .i64 v4] u fun r' w' => ∃ a1 c1 a2 c2, r' = .returned (.agg #[.bool (X2).isSome, .slice a1 (clA (X2)).length c1, .slice a2 (clB (X2)).length c2]) ∧ OwnC w' u.heap.size a1 a2 c1 c2 (clA (X2)) (clB (X2)) ∧ Below u.heap.size u w'))
    (TT : Hid (∀ u : World, Below w.heap.size w u → Calls Tryd.prog 89 #[.slice (some ⟨b1, o1, none⟩) m cx, .slice (some ⟨b2, o2, none⟩) m cy] u fun r' w' => ∃ a1 c1 a2 c2, r' = .returned (.agg #[.bool (X3).isSome, .slice a1 (clA (X3)).length c1, .slice a2 (clB (X3)).length c2]) ∧ OwnC w' u.heap.size a1 a2 c1 c2 (clA (X3)) (clB (X3)) ∧ Below u.heap.size u w'))
    (IG : Hid (∀ u : World, Below w.heap.size w u → Calls Tryd.prog 84 #[.slice (some ⟨b1, o1 + m, none⟩) (xs.length - m) (cx - m), .slice (some ⟨b2, o2 + m, none⟩) (ys.length - m) (cy - m), .bool false, .int .i64 r, .slice (some ⟨b3, o3, none⟩) q cz] u fun r' w' => ∃ a1 c1 a2 c2, r' = .returned (.agg #[.bool (X4).isSome, .slice a1 (clA (X4)).length c1, .slice a2 (clB (X4)).length c2]) ∧ OwnC w' u.heap.size a1 a2 c1 c2 (clA (X4)) (clB (X4)) ∧ Below u.heap.size u w')) :
    Calls Tryd.prog 84 #[.slice (some ⟨b1, o1, none⟩) xs.length cx, .slice (some ⟨b2, o2, none⟩) ys.length cy, .bool wh, .int .i64 r, .slice (some ⟨b3, o3, none⟩) (q + 1) cz] w fun r' w' => ∃ a1 c1 a2 c2, r' = .returned (.agg #[.bool (X1 <|> (X2 <|> (X3 <|> X4)) : Cl).isSome, .slice a1 (clA (X1 <|> (X2 <|> (X3 <|> X4)))).length c1, .slice a2 (clB (X1 <|> (X2 <|> (X3 <|> X4)))).length c2]) ∧ OwnC w' w.heap.size a1 a2 c1 c2 (clA (X1 <|> (X2 <|> (X3 <|> X4)))) (clB (X1 <|> (X2 <|> (X3 <|> X4)))) ∧ Below w.heap.size w w' := by
  unfold maxLen at hmx hmy hmz
  obtain ⟨s1, s2, s3⟩ := splN_bd (n := ys.length) (by omega) (by omega)
  have HM : Hid (splN (ys.length : Int) = m) := hm
  have eb : ((xs.length : Int) == (ys.length : Int)) = false := by simp; omega
  have m1 : (1 : Int) ≤ m := by omega
  have m2 : (m : Int) < ys.length := by omega
  have m3 : (ys.length : Int) ≤ cy := by omega
  have m4 : ¬ (cy : Int) = m := by omega
  have m5 : (0 : Int) ≤ m := by omega
  have m8 : ¬ cy = m := by omega
  have m6 : (m : Int) ≤ cy := by omega
  have m7 : (m : Int) ≤ ys.length := by omega
  have p1 : (m : Int) < xs.length := by omega
  have p3 : (xs.length : Int) ≤ cx := by omega
  have p4 : ¬ (cx : Int) = m := by omega
  have p8 : ¬ cx = m := by omega
  have p6 : (m : Int) ≤ cx := by omega
  have p7 : (m : Int) ≤ xs.length := by omega
  have n1 : (q : Int) ≤ cz := by omega
  have hq : q ≤ 9223372036854775806 := by omega
  have w1 : IntKind.i64.wrap ((xs.length : Int) - m) = (xs.length : Int) - m := by rw [IntKind.wrap_i64]; omega
  have w2 : IntKind.i64.wrap ((ys.length : Int) - m) = (ys.length : Int) - m := by rw [IntKind.wrap_i64]; omega
  clear hm s1 s2 s3
  go_enter Tryd.func84, Tryd.ntmps84
  go_wp2_with fail
  refine (split_any ys.length _ (by omega) (by omega)).mono ?_
  rintro e u ⟨rfl, hu⟩
  have hu2 := hu.symm
  subst hu2
  clear hu
  rw [HM.out]
  go_wp2_with fail
  refine (R5.out _ ((Below.refl _ _).alloc (Nat.le_refl _) _)).mono ?_
  have B0 : Below w.heap.size w (w.alloc (.cells #[.bool false, .slice none 0 0, .slice none 0 0] 29)) := (Below.refl _ _).alloc (Nat.le_refl _) _
  generalize hE : w.alloc (.cells #[.bool false, .slice none 0 0, .slice none 0 0] 29) = E at *
  have WE : Hid (∀ u : World, Below E.heap.size E u → Below w.heap.size w u) := fun u h => B0.trans (h.mono B0.size)
  have zE : w.heap.size < E.heap.size := by rw [← hE]; simp
  have e0 : E.cell? ⟨w.heap.size, 0, none⟩ = some (.bool false) := by rw [← hE]; simp [go_sem]
  have e1 : E.cell? ⟨w.heap.size, 1, none⟩ = some (.slice none 0 0) := by rw [← hE]; simp [go_sem]
  have e2 : E.cell? ⟨w.heap.size, 2, none⟩ = some (.slice none 0 0) := by rw [← hE]; simp [go_sem]
  have e3 : ∀ o, E.frozen? ⟨w.heap.size, o, none⟩ = false := by intro o; rw [← hE]; simp [go_sem]
  have RV : Hid (∀ u : World, Below E.heap.size E u → (u.cell? ⟨w.heap.size, 0, none⟩ = some (.bool false) ∧ u.cell? ⟨w.heap.size, 1, none⟩ = some (.slice none 0 0) ∧ u.cell? ⟨w.heap.size, 2, none⟩ = some (.slice none 0 0)) ∧ (u.frozen? ⟨w.heap.size, 0, none⟩ = false ∧ u.frozen? ⟨w.heap.size, 1, none⟩ = false ∧ u.frozen? ⟨w.heap.size, 2, none⟩ = false)) := fun u h => ⟨⟨(h.cell (p := ⟨w.heap.size, 0, none⟩) zE).trans e0, (h.cell (p := ⟨w.heap.size, 1, none⟩) zE).trans e1, (h.cell (p := ⟨w.heap.size, 2, none⟩) zE).trans e2⟩, (h.frozen (p := ⟨w.heap.size, 0, none⟩) zE).trans (e3 0), (h.frozen (p := ⟨w.heap.size, 1, none⟩) zE).trans (e3 1), (h.frozen (p := ⟨w.heap.size, 2, none⟩) zE).trans (e3 2)⟩
  clear hE e0 e1 e2 e3 B0
  rintro e Z ⟨rfl, hbZ⟩
  have hZ : Below E.heap.size E Z := hbZ
  have zZ := hZ.size
  have D0 : Below E.heap.size E Z.drew := hZ.drew
  clear R5 hbZ
  go_wp2_with fail
  go_cut [21] (fun sv wx => ∃ b a1 c1 a2 c2, sv = .pointer (some ⟨b, 0, none⟩) ∧ E.heap.size ≤ b ∧ b < wx.heap.size ∧ wx.cell? ⟨b, 0, none⟩ = some (.bool (X1).isSome) ∧ wx.cell? ⟨b, 1, none⟩ = some (.slice a1 (clA (X1)).length c1) ∧ wx.cell? ⟨b, 2, none⟩ = some (.slice a2 (clB (X1)).length c2) ∧ (wx.frozen? ⟨b, 0, none⟩ = false ∧ wx.frozen? ⟨b, 1, none⟩ = false ∧ wx.frozen? ⟨b, 2, none⟩ = false) ∧ OwnC wx E.heap.size a1 a2 c1 c2 (clA (X1)) (clB (X1)) ∧ Below E.heap.size E wx)
  case first =>
    go_region_held3 (fun wx => Below E.heap.size E wx)
      ((first | exact D0 | exact D1 | assumption | exact (D0.alloc (by first | omega | (simp; omega) | simp) _) | exact (D1.alloc D1.size _) | exact ((D1.setCell (by first | omega | (simp; omega) | simp) _).setCell (by first | omega | (simp; omega) | simp) _).setCell (by first | omega | (simp; omega) | simp) _))
      ((first | (go_at_call_of 69 (Value.slice (some ⟨b1, o1, none⟩) m cx); refine (R1.out _ (WE.out _ (by assumption))).mono ?_; rintro _ ua ⟨rfl, hba⟩; have D1 : Below E.heap.size E ua := Below.trans (by assumption) (hba.mono (Below.size (by assumption))); have zD := D1.size; (try (first | (have hvv := var3 hba) | (have hbb := var_drew hba; have hvv := var3 hbb) | (have hbb := var_on (A := World.alloc _ _) (by assumption) hba; have hvv := var3 hbb)); obtain ⟨⟨q0, q1, q2⟩, ⟨f0, f1, f2⟩, q3⟩ := hvv; (try simp at q0 q1 q2 q3 f0 f1 f2))) | (go_at_call_of 69 (Value.slice (some ⟨b1, o1 + m, none⟩) (xs.length - m) (cx - m)); refine (R2.out _ (WE.out _ (by assumption))).mono ?_; rintro _ ua ⟨rfl, hba⟩; have D1 : Below E.heap.size E ua := Below.trans (by assumption) (hba.mono (Below.size (by assumption))); have zD := D1.size; (try (first | (have hvv := var3 hba) | (have hbb := var_drew hba; have hvv := var3 hbb) | (have hbb := var_on (A := World.alloc _ _) (by assumption) hba; have hvv := var3 hbb)); obtain ⟨⟨q0, q1, q2⟩, ⟨f0, f1, f2⟩, q3⟩ := hvv; (try simp at q0 q1 q2 q3 f0 f1 f2))) | (go_at_call 119; refine (ND1.out _).mono ?_; rintro _ ua ⟨a1, c1, a2, c2, rfl, O1, hba⟩; have D1 : Below E.heap.size E ua := Below.trans (by assumption) (hba.mono (Below.size (by assumption))); have zD := D1.size; (try (first | (have hvv := var3 hba) | (have hbb := var_drew hba; have hvv := var3 hbb) | (have hbb := var_on (A := World.alloc _ _) (by assumption) hba; have hvv := var3 hbb)); obtain ⟨⟨q0, q1, q2⟩, ⟨f0, f1, f2⟩, q3⟩ := hvv; (try simp at q0 q1 q2 q3 f0 f1 f2))) | fail))
    all_goals go_wp2_with fail
    all_goals go_meet
    all_goals first
      | exact ⟨_, a1, c1, a2, c2, rfl, D1.size, by simp, by simp [go_sem], by simp [go_sem], by simp [go_sem], ⟨by simp [go_sem], by simp [go_sem], by simp [go_sem]⟩, (O1.mono (by first | assumption | (simp; omega) | omega)).below ((Below.refl _ _).alloc (Nat.le_refl _) _), D1.alloc D1.size _⟩
      | exact ⟨_, a1, c1, a2, c2, rfl, var_set q0 q1 q2 f0 f1 f2 (by omega) q3 D1 O1 (by first | assumption | simp)⟩
  case rest =>
    clear D0 zZ hZ R1 R2 ND1
    obtain ⟨b, a1, c1, a2, c2, rfl, hb0, hb1, k0, k1, k2, ⟨z0, z1, z2⟩, O1, hcb⟩ := hcut
    generalize wc = X at *
    obtain ⟨⟨r0, r1, r2⟩, ⟨g0, g1, g2⟩⟩ := RV.out X hcb
    cases X1 with
    | some y =>
      have O1' : Hid (OwnC X E.heap.size a1 a2 c1 c2 y.1 y.2) := O1
      clear O1
      simp only [Option.isSome_some, clA, clB] at k0 k1 k2
      go_wp2
      refine bodyPost_ret (v := .agg #[.bool true, .slice a1 y.1.length c1, .slice a2 y.2.length c2]) (by simp [results, Tryd.results84, go_sem, r0, r1, r2]) rfl ⟨a1, c1, a2, c2, rfl, ?_, ?_⟩
      · exact (((O1'.out.set _ _ zE).set _ _ zE).set _ _ zE).mono (Nat.le_of_lt zE)
      · exact (((WE.out _ hcb).setCell (Nat.le_refl _) _).setCell (Nat.le_refl _) _).setCell (Nat.le_refl _) _
    | none =>
      clear O1
      simp only [Option.isSome_none, clA, clB] at k0 k1 k2
      go_wp2_with fail
      clear k0 k1 k2 z0 z1 z2 r0 r1 r2 g0 g1 g2 hb0 hb1
      have zZ := hcb.size
      have D0 : Below E.heap.size E X.drew := hcb.drew
      have hX := hcb
      clear hcb
      go_cut [22] (fun sv wx => ∃ b a1 c1 a2 c2, sv = .pointer (some ⟨b, 0, none⟩) ∧ E.heap.size ≤ b ∧ b < wx.heap.size ∧ wx.cell? ⟨b, 0, none⟩ = some (.bool (X2).isSome) ∧ wx.cell? ⟨b, 1, none⟩ = some (.slice a1 (clA (X2)).length c1) ∧ wx.cell? ⟨b, 2, none⟩ = some (.slice a2 (clB (X2)).length c2) ∧ (wx.frozen? ⟨b, 0, none⟩ = false ∧ wx.frozen? ⟨b, 1, none⟩ = false ∧ wx.frozen? ⟨b, 2, none⟩ = false) ∧ OwnC wx E.heap.size a1 a2 c1 c2 (clA (X2)) (clB (X2)) ∧ Below E.heap.size E wx)
      case first =>
        go_region_held3 (fun wx => Below E.heap.size E wx)
          ((first | exact D0 | exact D1 | assumption | exact (D0.alloc (by first | omega | (simp; omega) | simp) _) | exact (D1.alloc D1.size _) | exact ((D1.setCell (by first | omega | (simp; omega) | simp) _).setCell (by first | omega | (simp; omega) | simp) _).setCell (by first | omega | (simp; omega) | simp) _))
          ((first | (go_at_call_of 69 (Value.slice (some ⟨b2, o2, none⟩) m cy); refine (R3.out _ (WE.out _ (by assumption))).mono ?_; rintro _ ua ⟨rfl, hba⟩; have D1 : Below E.heap.size E ua := Below.trans (by assumption) (hba.mono (Below.size (by assumption))); have zD := D1.size; (try (first | (have hvv := var3 hba) | (have hbb := var_drew hba; have hvv := var3 hbb) | (have hbb := var_on (A := World.alloc _ _) (by assumption) hba; have hvv := var3 hbb)); obtain ⟨⟨q0, q1, q2⟩, ⟨f0, f1, f2⟩, q3⟩ := hvv; (try simp at q0 q1 q2 q3 f0 f1 f2))) | (go_at_call_of 69 (Value.slice (some ⟨b2, o2 + m, none⟩) (ys.length - m) (cy - m)); refine (R4.out _ (WE.out _ (by assumption))).mono ?_; rintro _ ua ⟨rfl, hba⟩; have D1 : Below E.heap.size E ua := Below.trans (by assumption) (hba.mono (Below.size (by assumption))); have zD := D1.size; (try (first | (have hvv := var3 hba) | (have hbb := var_drew hba; have hvv := var3 hbb) | (have hbb := var_on (A := World.alloc _ _) (by assumption) hba; have hvv := var3 hbb)); obtain ⟨⟨q0, q1, q2⟩, ⟨f0, f1, f2⟩, q3⟩ := hvv; (try simp at q0 q1 q2 q3 f0 f1 f2))) | (go_at_call 119; refine (ND2.out _).mono ?_; rintro _ ua ⟨a1, c1, a2, c2, rfl, O1, hba⟩; have D1 : Below E.heap.size E ua := Below.trans (by assumption) (hba.mono (Below.size (by assumption))); have zD := D1.size; (try (first | (have hvv := var3 hba) | (have hbb := var_drew hba; have hvv := var3 hbb) | (have hbb := var_on (A := World.alloc _ _) (by assumption) hba; have hvv := var3 hbb)); obtain ⟨⟨q0, q1, q2⟩, ⟨f0, f1, f2⟩, q3⟩ := hvv; (try simp at q0 q1 q2 q3 f0 f1 f2))) | fail))
        all_goals go_wp2_with fail
        all_goals go_meet
        all_goals first
          | exact ⟨_, a1, c1, a2, c2, rfl, D1.size, by simp, by simp [go_sem], by simp [go_sem], by simp [go_sem], ⟨by simp [go_sem], by simp [go_sem], by simp [go_sem]⟩, (O1.mono (by first | assumption | (simp; omega) | omega)).below ((Below.refl _ _).alloc (Nat.le_refl _) _), D1.alloc D1.size _⟩
          | exact ⟨_, a1, c1, a2, c2, rfl, var_set q0 q1 q2 f0 f1 f2 (by omega) q3 D1 O1 (by first | assumption | simp)⟩
      case rest =>
        clear D0 zZ hX R3 R4 ND2
        obtain ⟨b, a1, c1, a2, c2, rfl, hb0, hb1, k0, k1, k2, ⟨z0, z1, z2⟩, O1, hcb⟩ := hcut
        generalize wc = Y at *
        obtain ⟨⟨r0, r1, r2⟩, ⟨g0, g1, g2⟩⟩ := RV.out Y hcb
        cases X2 with
        | some y =>
          have O1' : Hid (OwnC Y E.heap.size a1 a2 c1 c2 y.1 y.2) := O1
          clear O1
          simp only [Option.isSome_some, clA, clB] at k0 k1 k2
          go_wp2
          refine bodyPost_ret (v := .agg #[.bool true, .slice a1 y.1.length c1, .slice a2 y.2.length c2]) (by simp [results, Tryd.results84, go_sem, r0, r1, r2]) rfl ⟨a1, c1, a2, c2, rfl, ?_, ?_⟩
          · exact (((O1'.out.set _ _ zE).set _ _ zE).set _ _ zE).mono (Nat.le_of_lt zE)
          · exact (((WE.out _ hcb).setCell (Nat.le_refl _) _).setCell (Nat.le_refl _) _).setCell (Nat.le_refl _) _
        | none =>
          clear O1
          simp only [Option.isSome_none, clA, clB] at k0 k1 k2
          go_wp2_with fail
          clear k0 k1 k2 z0 z1 z2 r0 r1 r2 g0 g1 g2 hb0 hb1
          have zZ := hcb.size
          have D0 : Below E.heap.size E Y.drew := hcb.drew
          have hX := hcb
          clear hcb
          go_cut [23] (fun sv wx => ∃ b a1 c1 a2 c2, sv = .pointer (some ⟨b, 0, none⟩) ∧ E.heap.size ≤ b ∧ b < wx.heap.size ∧ wx.cell? ⟨b, 0, none⟩ = some (.bool (X3).isSome) ∧ wx.cell? ⟨b, 1, none⟩ = some (.slice a1 (clA (X3)).length c1) ∧ wx.cell? ⟨b, 2, none⟩ = some (.slice a2 (clB (X3)).length c2) ∧ (wx.frozen? ⟨b, 0, none⟩ = false ∧ wx.frozen? ⟨b, 1, none⟩ = false ∧ wx.frozen? ⟨b, 2, none⟩ = false) ∧ OwnC wx E.heap.size a1 a2 c1 c2 (clA (X3)) (clB (X3)) ∧ Below E.heap.size E wx)
          case first =>
            go_region_held3 (fun wx => Below E.heap.size E wx)
              ((first | exact D0 | exact D1 | assumption | exact (D0.alloc (by first | omega | (simp; omega) | simp) _) | exact (D1.alloc D1.size _) | exact ((D1.setCell (by first | omega | (simp; omega) | simp) _).setCell (by first | omega | (simp; omega) | simp) _).setCell (by first | omega | (simp; omega) | simp) _))
              ((first | (go_at_call 89; refine (TT.out _ (WE.out _ (by assumption))).mono ?_; rintro _ ua ⟨a1, c1, a2, c2, rfl, O1, hba⟩; have D1 : Below E.heap.size E ua := Below.trans (by assumption) (hba.mono (Below.size (by assumption))); have zD := D1.size; (try (first | (have hvv := var3 hba) | (have hbb := var_drew hba; have hvv := var3 hbb) | (have hbb := var_on (A := World.alloc _ _) (by assumption) hba; have hvv := var3 hbb)); obtain ⟨⟨q0, q1, q2⟩, ⟨f0, f1, f2⟩, q3⟩ := hvv; (try simp at q0 q1 q2 q3 f0 f1 f2))) | fail))
            all_goals go_wp2_with fail
            all_goals go_meet
            all_goals first
              | exact ⟨_, a1, c1, a2, c2, rfl, D1.size, by simp, by simp [go_sem], by simp [go_sem], by simp [go_sem], ⟨by simp [go_sem], by simp [go_sem], by simp [go_sem]⟩, (O1.mono (by first | assumption | (simp; omega) | omega)).below ((Below.refl _ _).alloc (Nat.le_refl _) _), D1.alloc D1.size _⟩
              | exact ⟨_, a1, c1, a2, c2, rfl, var_set q0 q1 q2 f0 f1 f2 (by omega) q3 D1 O1 (by first | assumption | simp)⟩
          case rest =>
            clear D0 zZ hX TT
            obtain ⟨b, a1, c1, a2, c2, rfl, hb0, hb1, k0, k1, k2, ⟨z0, z1, z2⟩, O1, hcb⟩ := hcut
            generalize wc = V at *
            obtain ⟨⟨r0, r1, r2⟩, ⟨g0, g1, g2⟩⟩ := RV.out V hcb
            cases X3 with
            | some y =>
              have O1' : Hid (OwnC V E.heap.size a1 a2 c1 c2 y.1 y.2) := O1
              clear O1
              simp only [Option.isSome_some, clA, clB] at k0 k1 k2
              go_wp2
              refine bodyPost_ret (v := .agg #[.bool true, .slice a1 y.1.length c1, .slice a2 y.2.length c2]) (by simp [results, Tryd.results84, go_sem, r0, r1, r2]) rfl ⟨a1, c1, a2, c2, rfl, ?_, ?_⟩
              · exact (((O1'.out.set _ _ zE).set _ _ zE).set _ _ zE).mono (Nat.le_of_lt zE)
              · exact (((WE.out _ hcb).setCell (Nat.le_refl _) _).setCell (Nat.le_refl _) _).setCell (Nat.le_refl _) _
            | none =>
              clear O1
              simp only [Option.isSome_none, clA, clB] at k0 k1 k2
              go_wp2_with fail
              clear k0 k1 k2 z0 z1 z2 r0 r1 r2 g0 g1 g2 hb0 hb1
              have D4 : Below E.heap.size E V.drew := hcb.drew
              have W4 : Below w.heap.size w V.drew := WE.out _ D4
              go_region_held3 (fun wx => Below w.heap.size w wx)
                ((first | exact W4 | exact D1 | assumption | exact ((D1.setCell (Nat.le_refl _) _).setCell (Nat.le_refl _) _).setCell (Nat.le_refl _) _))
                ((first | (go_at_call 84; refine (IG.out _ (by assumption)).mono ?_; rintro _ ua ⟨a5, c5, a6, c6, rfl, O5, hba⟩; have D1 : Below w.heap.size w ua := Below.trans (by assumption) (hba.mono (Below.size (by assumption))); have hvv := RV.out _ (D4.trans (hba.mono D4.size)); obtain ⟨⟨q0, q1, q2⟩, ⟨f0, f1, f2⟩⟩ := hvv) | fail))
              go_wp2
              have zY : w.heap.size < V.heap.size := Nat.lt_of_lt_of_le zE hcb.size
              have O5' : OwnC ua V.heap.size a5 a6 c5 c6 (clA X4) (clB X4) := by simpa using O5
              refine bodyPost_ret (v := .agg #[.bool X4.isSome, .slice a5 (clA X4).length c5, .slice a6 (clB X4).length c6]) (by simp [results, Tryd.results84, go_sem, q0, q1, q2]) rfl ⟨a5, c5, a6, c6, rfl, ?_, ?_⟩
              · exact (((O5'.set _ _ zY).set _ _ zY).set _ _ zY).mono (Nat.le_of_lt zY)
              · exact ((D1.setCell (Nat.le_refl _) _).setCell (Nat.le_refl _) _).setCell (Nat.le_refl _) _

end Go.Proofs.YtklhkhlmhddmcaaDoor

namespace Go.Proofs.YtklhkhlmhddmcaaDoor
open Go.ChangeShapes Go.WideShapes Go.ChangeAt Go.RowKit
set_option linter.unusedVariables false
set_option linter.unusedSimpArgs false

set_option maxHeartbeats 4000000 in
theorem l6Grow_any (n : Nat) : ∀ (x y z : Option Addr) (cx cy cz : Nat) (xs ys p : List Int) (wh : Bool) (r : Int) (u : World), ys.length ≤ n → 1 ≤ xs.length → xs.length ≤ ys.length → ys.length ≤ 32 → (wh = true → 0 ≤ r ∧ r ≤ 65520) → p.length = gsN xs.length ys.length wh → allS xs = true → allS ys = true → allS p = true → Has u .i64 x xs.length xs → Has u .i64 y ys.length ys → Has u .i64 z p.length p → xs.length ≤ cx → cx ≤ maxLen → ys.length ≤ cy → cy ≤ maxLen → p.length ≤ cz → cz ≤ maxLen →
    Calls Tryd.prog 84 #[.slice x xs.length cx, .slice y ys.length cy, .bool wh, .int .i64 r, .slice z p.length cz] u fun r' w' => ∃ a1 c1 a2 c2, r' = .returned (.agg #[.bool (gkC xs ys wh r p).isSome, .slice a1 (clA (gkC xs ys wh r p)).length c1, .slice a2 (clB (gkC xs ys wh r p)).length c2]) ∧ OwnC w' u.heap.size a1 a2 c1 c2 (clA (gkC xs ys wh r p)) (clB (gkC xs ys wh r p)) ∧ Below u.heap.size u w' := by
  induction n with
  | zero => intro x y z cx cy cz xs ys p wh r u hn h1 hle; omega
  | succ n ih =>
    intro x y z cx cy cz xs ys p wh r u hn h1 hle h32 hr hlen ax ay ap hx hy hz hcx hmx hcy hmy hcz hmz
    by_cases he : xs.length = ys.length
    · exact l6Grow_same x y z cx cy cz xs ys p wh r u he h32 ax ay hx hy hcx hmx hcy hmy
    · have h2 : 2 ≤ ys.length := by omega
      obtain ⟨q1, q2, q3⟩ := splN_bd (n := (ys.length : Int)) (by omega) (by omega)
      obtain ⟨m, hm⟩ : ∃ m : Nat, splN (ys.length : Int) = m := ⟨(splN (ys.length : Int)).toNat, by omega⟩
      have hpos : 0 < p.length := by
        by_cases ha : (xs.length : Int) ≤ splN ys.length
        · rw [hlen, gsN_lo wh (by omega) ha]; omega
        · rw [hlen, gsN_hi wh (by omega) ha (by omega)]; omega
      obtain ⟨q, hq⟩ : ∃ q, p.length = q + 1 := ⟨p.length - 1, by omega⟩
      have hdl : p.dropLast = p.take q := by rw [List.dropLast_eq_take, hq]; rfl
      have hgl : p.getLastD 0 = p[q]'(by omega) := by
        rw [List.getLastD_eq_getLast?, List.getLast?_eq_getElem?]
        simp [hq]
      have hlast := allS_get ap q (by omega)
      have hiz := hz.init q (by omega)
      have hil : (p.take q).length = q := by simp; omega
      have tly : (ys.take m).length = m := by simp; omega
      have dly : (ys.drop m).length = ys.length - m := by simp
      obtain ⟨b1, o1, hx1, hlt1⟩ : ∃ b off, x = some ⟨b, off, none⟩ ∧ b < u.heap.size := by
        rcases hx.2.2 with c | ⟨b, o, h, h2, _⟩
        · omega
        · exact ⟨b, o, h, h2⟩
      obtain ⟨b2, o2, hy1, hlt2⟩ : ∃ b off, y = some ⟨b, off, none⟩ ∧ b < u.heap.size := by
        rcases hy.2.2 with c | ⟨b, o, h, h2, _⟩
        · omega
        · exact ⟨b, o, h, h2⟩
      obtain ⟨b3, o3, hz1, hlt3, hcell⟩ : ∃ b off, z = some ⟨b, off, none⟩ ∧ b < u.heap.size ∧ ∀ i, i < p.length → u.cell? ⟨b, off + i, none⟩ = some (.int .i64 (p.getD i 0)) := by
        rcases hz.2.2 with c | h
        · omega
        · exact h
      subst hx1 hy1 hz1
      have hv : u.cell? ⟨b3, o3 + q, none⟩ = some (.int .i64 (p[q]'(by omega))) := by rw [hcell q (by omega)]; simp [List.getD, hq]
      generalize hvq : p[q]'(by omega) = v at *
      have hiy := has_init hy m (by omega)
      have hry := has_rest hy m (by omega)
      have R3 : Hid (∀ u' : World, Below u.heap.size u u' → Calls Tryd.prog 69 #[.slice (some ⟨b2, o2, none⟩) m cy] u' fun r w' => r = .returned (.int .i64 (rtM nS 11 (ys.take m))) ∧ Below u'.heap.size u' w') := by
        intro u' hu
        have := l4Root_any _ (some ⟨b2, o2, none⟩) cy (ys.take m) u' (Nat.le_refl _) (by omega) (allS_take ay m) (hiy.below hu (Nat.le_refl _)) (by omega) hmy
        rw [tly] at this; exact this
      have R4 : Hid (∀ u' : World, Below u.heap.size u u' → Calls Tryd.prog 69 #[.slice (some ⟨b2, o2 + m, none⟩) (ys.length - m) (cy - m)] u' fun r w' => r = .returned (.int .i64 (rtM nS 11 (ys.drop m))) ∧ Below u'.heap.size u' w') := by
        intro u' hu
        have := l4Root_any _ (some ⟨b2, o2 + m, none⟩) (cy - m) (ys.drop m) u' (Nat.le_refl _) (by omega) (allS_drop ay m) (hry.below hu (Nat.le_refl _)) (by omega) (by omega)
        rw [dly] at this; exact this
      by_cases ha : (xs.length : Int) ≤ splN ys.length
      · have hl2 : (p.take q).length = gsN xs.length (splN ys.length) wh := by rw [hil]; rw [gsN_lo wh (by omega) ha] at hlen; omega
        have hbd := grR_bd _ xs.length (splN ys.length) wh r (p.take q) (Nat.le_refl _) (by omega) ha (by omega) hr hl2 (allS_take ap q)
        have hl3 : (p.take q).length = gsN xs.length (ys.take m).length wh := by rw [tly, ← hm]; exact hl2
        have R5 : Hid (∀ u' : World, Below u.heap.size u u' → Calls Tryd.prog 131 #[.int .i64 xs.length, .int .i64 m, .bool wh, .int .i64 r, .slice (some ⟨b3, o3, none⟩) q cz] u' fun e w' => e = .returned (.tuple #[.int .i64 (grR nS xs.length (splN ys.length) wh r (p.take q)).1, .int .i64 (grR nS xs.length (splN ys.length) wh r (p.take q)).2]) ∧ Below u'.heap.size u' w') := by
          intro u' hu
          have := l5Roots_any _ xs.length (splN ys.length) wh r (some ⟨b3, o3, none⟩) cz (p.take q) u' (Nat.le_refl _) (by omega) ha (by omega) hr hl2 (allS_take ap q) (hiz.below hu (Nat.le_refl _)) (by omega) hmz
          rw [hil, hm] at this
          rw [hm]
          exact this
        have IG : Hid (∀ u' : World, Below u.heap.size u u' → Calls Tryd.prog 84 #[.slice (some ⟨b1, o1, none⟩) xs.length cx, .slice (some ⟨b2, o2, none⟩) m cy, .bool wh, .int .i64 r, .slice (some ⟨b3, o3, none⟩) q cz] u' fun r' w' => ∃ a1 c1 a2 c2, r' = .returned (.agg #[.bool (gkC xs (ys.take m) wh r (p.take q)).isSome, .slice a1 (clA (gkC xs (ys.take m) wh r (p.take q))).length c1, .slice a2 (clB (gkC xs (ys.take m) wh r (p.take q))).length c2]) ∧ OwnC w' u'.heap.size a1 a2 c1 c2 (clA (gkC xs (ys.take m) wh r (p.take q))) (clB (gkC xs (ys.take m) wh r (p.take q))) ∧ Below u'.heap.size u' w') := by
          intro u' hu
          have := ih (some ⟨b1, o1, none⟩) (some ⟨b2, o2, none⟩) (some ⟨b3, o3, none⟩) cx cy cz xs (ys.take m) (p.take q) wh r u' (by omega) h1 (by omega) (by omega) hr hl3 ax (allS_take ay m) (allS_take ap q) (hx.below hu (Nat.le_refl _)) (hiy.below hu (Nat.le_refl _)) (hiz.below hu (Nat.le_refl _)) hcx hmx (by omega) hmy (by omega) hmz
          rw [tly, hil] at this
          exact this
        have EQ : gkC xs ys wh r p = (ndC (grR nS xs.length (splN ys.length) wh r (p.take q)).2 v (rtM nS 11 (ys.take m)) (rtM nS 11 (ys.drop m)) <|> gkC xs (ys.take m) wh r (p.take q)) := by
          rw [gkC_lo wh r p h2 ha, hdl, hgl, hm]; rfl
        rw [EQ, hq]
        exact l6Grow_lo b1 o1 b2 o2 b3 o3 cx cy cz q m xs ys wh r _ _ _ _ _ _ _ u h2 h32 hm (by omega) hcy hmy (by omega) hmz (by omega) (by omega) hv hlt3 R5 R3 R4 (fun u' => l6Nodes_any _ _ _ _ u' hbd.2 hlast (rtM_bd _ _ (Nat.le_refl _) (allS_take ay m)) (rtM_bd _ _ (Nat.le_refl _) (allS_drop ay m))) IG
      · have tlx : (xs.take m).length = m := by simp; omega
        have dlx : (xs.drop m).length = xs.length - m := by simp
        have hix := has_init hx m (by omega)
        have hrx := has_rest hx m (by omega)
        have ex : ((xs.length - m : Nat) : Int) = (xs.length : Int) - m := by omega
        have ey : ((ys.length - m : Nat) : Int) = (ys.length : Int) - m := by omega
        have hl2 : (p.take q).length = gsN ((xs.length : Int) - m) ((ys.length : Int) - m) false := by rw [hil]; rw [gsN_hi wh (by omega) ha (by omega), hm] at hlen; omega
        have hl3 : (p.take q).length = gsN (xs.drop m).length (ys.drop m).length false := by rw [dlx, dly, ex, ey]; exact hl2
        have hbd := grR_bd _ ((xs.length : Int) - m) ((ys.length : Int) - m) false r (p.take q) (Nat.le_refl _) (by omega) (by omega) (by omega) (by simp) hl2 (allS_take ap q)
        have R1 : Hid (∀ u' : World, Below u.heap.size u u' → Calls Tryd.prog 69 #[.slice (some ⟨b1, o1, none⟩) m cx] u' fun r w' => r = .returned (.int .i64 (rtM nS 11 (xs.take m))) ∧ Below u'.heap.size u' w') := by
          intro u' hu
          have := l4Root_any _ (some ⟨b1, o1, none⟩) cx (xs.take m) u' (Nat.le_refl _) (by omega) (allS_take ax m) (hix.below hu (Nat.le_refl _)) (by omega) hmx
          rw [tlx] at this; exact this
        have R2 : Hid (∀ u' : World, Below u.heap.size u u' → Calls Tryd.prog 69 #[.slice (some ⟨b1, o1 + m, none⟩) (xs.length - m) (cx - m)] u' fun r w' => r = .returned (.int .i64 (rtM nS 11 (xs.drop m))) ∧ Below u'.heap.size u' w') := by
          intro u' hu
          have := l4Root_any _ (some ⟨b1, o1 + m, none⟩) (cx - m) (xs.drop m) u' (Nat.le_refl _) (by omega) (allS_drop ax m) (hrx.below hu (Nat.le_refl _)) (by omega) (by omega)
          rw [dlx] at this; exact this
        have R5 : Hid (∀ u' : World, Below u.heap.size u u' → Calls Tryd.prog 131 #[.int .i64 ((xs.length : Int) - m), .int .i64 ((ys.length : Int) - m), .bool false, .int .i64 r, .slice (some ⟨b3, o3, none⟩) q cz] u' fun e w' => e = .returned (.tuple #[.int .i64 (grR nS ((xs.length : Int) - m) ((ys.length : Int) - m) false r (p.take q)).1, .int .i64 (grR nS ((xs.length : Int) - m) ((ys.length : Int) - m) false r (p.take q)).2]) ∧ Below u'.heap.size u' w') := by
          intro u' hu
          have := l5Roots_any _ ((xs.length : Int) - m) ((ys.length : Int) - m) false r (some ⟨b3, o3, none⟩) cz (p.take q) u' (Nat.le_refl _) (by omega) (by omega) (by omega) (by simp) hl2 (allS_take ap q) (hiz.below hu (Nat.le_refl _)) (by omega) hmz
          rw [hil] at this
          exact this
        have TT : Hid (∀ u' : World, Below u.heap.size u u' → Calls Tryd.prog 89 #[.slice (some ⟨b1, o1, none⟩) m cx, .slice (some ⟨b2, o2, none⟩) m cy] u' fun r' w' => ∃ a1 c1 a2 c2, r' = .returned (.agg #[.bool (trC (xs.take m) (ys.take m)).isSome, .slice a1 (clA (trC (xs.take m) (ys.take m))).length c1, .slice a2 (clB (trC (xs.take m) (ys.take m))).length c2]) ∧ OwnC w' u'.heap.size a1 a2 c1 c2 (clA (trC (xs.take m) (ys.take m))) (clB (trC (xs.take m) (ys.take m))) ∧ Below u'.heap.size u' w') := by
          intro u' hu
          have := l6Tree_any _ (some ⟨b1, o1, none⟩) (some ⟨b2, o2, none⟩) cx cy (xs.take m) (ys.take m) u' (Nat.le_refl _) (by omega) (by omega) (allS_take ax m) (allS_take ay m) (hix.below hu (Nat.le_refl _)) (hiy.below hu (Nat.le_refl _)) (by omega) hmx (by omega) hmy
          rw [tlx, tly] at this; exact this
        have IG : Hid (∀ u' : World, Below u.heap.size u u' → Calls Tryd.prog 84 #[.slice (some ⟨b1, o1 + m, none⟩) (xs.length - m) (cx - m), .slice (some ⟨b2, o2 + m, none⟩) (ys.length - m) (cy - m), .bool false, .int .i64 r, .slice (some ⟨b3, o3, none⟩) q cz] u' fun r' w' => ∃ a1 c1 a2 c2, r' = .returned (.agg #[.bool (gkC (xs.drop m) (ys.drop m) false r (p.take q)).isSome, .slice a1 (clA (gkC (xs.drop m) (ys.drop m) false r (p.take q))).length c1, .slice a2 (clB (gkC (xs.drop m) (ys.drop m) false r (p.take q))).length c2]) ∧ OwnC w' u'.heap.size a1 a2 c1 c2 (clA (gkC (xs.drop m) (ys.drop m) false r (p.take q))) (clB (gkC (xs.drop m) (ys.drop m) false r (p.take q))) ∧ Below u'.heap.size u' w') := by
          intro u' hu
          have := ih (some ⟨b1, o1 + m, none⟩) (some ⟨b2, o2 + m, none⟩) (some ⟨b3, o3, none⟩) (cx - m) (cy - m) cz (xs.drop m) (ys.drop m) (p.take q) false r u' (by omega) (by omega) (by omega) (by omega) (by simp) hl3 (allS_drop ax m) (allS_drop ay m) (allS_take ap q) (hrx.below hu (Nat.le_refl _)) (hry.below hu (Nat.le_refl _)) (hiz.below hu (Nat.le_refl _)) (by omega) (by omega) (by omega) (by omega) (by omega) hmz
          rw [dlx, dly, hil] at this
          exact this
        have EQ : gkC xs ys wh r p = (ndC v (grR nS ((xs.length : Int) - m) ((ys.length : Int) - m) false r (p.take q)).1 (rtM nS 11 (xs.take m)) (rtM nS 11 (xs.drop m)) <|> (ndC v (grR nS ((xs.length : Int) - m) ((ys.length : Int) - m) false r (p.take q)).2 (rtM nS 11 (ys.take m)) (rtM nS 11 (ys.drop m)) <|> (trC (xs.take m) (ys.take m) <|> gkC (xs.drop m) (ys.drop m) false r (p.take q)))) := by
          rw [gkC_hi wh r p h2 ha (by omega), hdl, hgl, hm]; rfl
        rw [EQ, hq]
        exact l6Grow_hi b1 o1 b2 o2 b3 o3 cx cy cz q m xs ys wh r _ _ _ _ _ _ _ _ _ _ _ u h2 h32 hm (by omega) (by omega) hcx hmx hcy hmy (by omega) hmz hv hlt3 R5 R1 R2 R3 R4 (fun u' => l6Nodes_any _ _ _ _ u' hlast hbd.1 (rtM_bd _ _ (Nat.le_refl _) (allS_take ax m)) (rtM_bd _ _ (Nat.le_refl _) (allS_drop ax m))) (fun u' => l6Nodes_any _ _ _ _ u' hlast hbd.2 (rtM_bd _ _ (Nat.le_refl _) (allS_take ay m)) (rtM_bd _ _ (Nat.le_refl _) (allS_drop ay m))) TT IG

end Go.Proofs.YtklhkhlmhddmcaaDoor

namespace Go.Proofs.YtklhkhlmhddmcaaDoor
open Go.ChangeShapes Go.WideShapes Go.ChangeAt Go.RowKit
set_option linter.unusedVariables false
set_option linter.unusedSimpArgs false

/-- The code of GrowClash. -/
def gqC (xs ys p : List Int) : Int := if lvF xs = 0 then (if lvF ys = 0 then (if 1 ≤ xs.length ∧ xs.length ≤ ys.length then (if agB xs.length (rtM nS 11 xs) ys.length (rtM nS 11 ys) p = true then 0 else 8) else 1) else lvF ys) else lvF xs
/-- The clash of GrowClash. -/
def gqX (xs ys p : List Int) : Cl := if gqC xs ys p = 0 then gkC xs ys true (rtM nS 11 xs) p else none
theorem agB_true {s f t d : Int} {p : List Int} (h : agB s f t d p = true) : grC s t f p = 0 ∧ p.length = gsN s t true ∧ allS p = true ∧ p.length ≤ 6 ∧ grR nS s t true f p = (f, d) := by
  unfold agB at h
  simp only [decide_eq_true_eq] at h
  obtain ⟨h1, h2, h3⟩ := h
  have h4 : grV s t f p = grR nS s t true f p := by unfold grV; rw [if_pos h1]
  rw [h4] at h2 h3
  have h5 := h1
  unfold grC at h5
  split at h5
  · split at h5
    · omega
    · split at h5
      · split at h5
        · exact ⟨h1, ‹_›, ‹_›, by omega, Prod.ext h2 h3⟩
        · omega
      · omega
  · omega
theorem gqC_zero {xs ys p : List Int} (h : gqC xs ys p = 0) : lvF xs = 0 ∧ lvF ys = 0 ∧ 1 ≤ xs.length ∧ xs.length ≤ ys.length ∧ agB xs.length (rtM nS 11 xs) ys.length (rtM nS 11 ys) p = true := by
  unfold gqC at h
  split at h
  · split at h
    · split at h
      · rename_i h1
        split at h
        · exact ⟨‹_›, ‹_›, h1.1, h1.2, ‹_›⟩
        · omega
      · omega
    · omega
  · omega

set_option maxHeartbeats 4000000 in
theorem specGrowClash_any (x y z : Option Addr) (cx cy cz : Nat) (xs ys p : List Int) (u : World) (hx : Has u .i64 x xs.length xs) (hy : Has u .i64 y ys.length ys) (hz : Has u .i64 z p.length p) (lx : xs.length ≤ 1048576) (ly : ys.length ≤ 1048576) (lz : p.length ≤ 1048576) (hcx : xs.length ≤ cx) (hmx : cx ≤ maxLen) (hcy : ys.length ≤ cy) (hmy : cy ≤ maxLen) (hcz : p.length ≤ cz) (hmz : cz ≤ maxLen) :
    Calls Tryd.prog 27 #[.slice x xs.length cx, .slice y ys.length cy, .slice z p.length cz] u fun r' w' => ∃ a1 c1 a2 c2, r' = .returned (.agg #[.int .i64 (gqC xs ys p), .bool (gqX xs ys p).isSome, .slice a1 (clA (gqX xs ys p)).length c1, .slice a2 (clB (gqX xs ys p)).length c2]) ∧ OwnC w' u.heap.size a1 a2 c1 c2 (clA (gqX xs ys p)) (clB (gqX xs ys p)) ∧ Below u.heap.size u w' := by
  by_cases h1 : lvF xs = 0
  · obtain ⟨g1, a1⟩ := lvF_zero h1
    have H1 : Hid (lvF xs = 0) := h1
    by_cases h2 : lvF ys = 0
    · obtain ⟨g2, a2⟩ := lvF_zero h2
      have H2 : Hid (lvF ys = 0) := h2
      by_cases h3 : 1 ≤ xs.length ∧ xs.length ≤ ys.length
      · have e4 : ((xs.length : Int) == 0) = false := by
          have := h3.1
          simp
          exact fun h => by simp [h] at this
        have e5 : ¬ (ys.length : Int) < xs.length := by omega
        have B0 : Below u.heap.size u (u.alloc (.cells #[.int .i64 0, .bool false, .slice none 0 0, .slice none 0 0] 31)) := (Below.refl _ _).alloc (Nat.le_refl _) _
        have RX : Hid (∀ u' : World, Below u.heap.size u u' → Calls Tryd.prog 69 #[.slice x xs.length cx] u' fun r w' => r = .returned (.int .i64 (rtM nS 11 xs)) ∧ Below u'.heap.size u' w') := fun u' hu => l4Root_any _ x cx xs u' (Nat.le_refl _) (by omega) a1 (hx.below hu (Nat.le_refl _)) hcx hmx
        have RY : Hid (∀ u' : World, Below u.heap.size u u' → Calls Tryd.prog 69 #[.slice y ys.length cy] u' fun r w' => r = .returned (.int .i64 (rtM nS 11 ys)) ∧ Below u'.heap.size u' w') := fun u' hu => l4Root_any _ y cy ys u' (Nat.le_refl _) (by omega) a2 (hy.below hu (Nat.le_refl _)) hcy hmy
        have AC : Hid (∀ u' : World, Below u.heap.size u u' → Calls Tryd.prog 83 #[.int .i64 xs.length, .int .i64 (rtM nS 11 xs), .int .i64 ys.length, .int .i64 (rtM nS 11 ys), .slice z p.length cz] u' fun e w' => e = .returned (.bool (agB xs.length (rtM nS 11 xs) ys.length (rtM nS 11 ys) p)) ∧ Below u'.heap.size u' w') := fun u' hu => l5Accept_any _ _ _ _ z cz p u' (hz.below hu (Nat.le_refl _)) lz hcz hmz
        by_cases h4 : agB xs.length (rtM nS 11 xs) ys.length (rtM nS 11 ys) p = true
        · have hC : gqC xs ys p = 0 := by unfold gqC; rw [if_pos h1, if_pos h2, if_pos h3, if_pos h4]
          have hX : gqX xs ys p = gkC xs ys true (rtM nS 11 xs) p := by unfold gqX; rw [if_pos hC]
          obtain ⟨_, t1, t2, t3, _⟩ := agB_true h4
          have LG : Hid (∀ u' : World, Below u.heap.size u u' → Calls Tryd.prog 84 #[.slice x xs.length cx, .slice y ys.length cy, .bool true, .int .i64 (rtM nS 11 xs), .slice z p.length cz] u' fun r' w' => ∃ a1 c1 a2 c2, r' = .returned (.agg #[.bool (gkC xs ys true (rtM nS 11 xs) p).isSome, .slice a1 (clA (gkC xs ys true (rtM nS 11 xs) p)).length c1, .slice a2 (clB (gkC xs ys true (rtM nS 11 xs) p)).length c2]) ∧ OwnC w' u'.heap.size a1 a2 c1 c2 (clA (gkC xs ys true (rtM nS 11 xs) p)) (clB (gkC xs ys true (rtM nS 11 xs) p)) ∧ Below u'.heap.size u' w') := fun u' hu => l6Grow_any _ x y z cx cy cz xs ys p true _ u' (Nat.le_refl _) h3.1 h3.2 (by omega) (fun _ => rtM_bd _ _ (Nat.le_refl _) a1) t1 a1 a2 t2 (hx.below hu (Nat.le_refl _)) (hy.below hu (Nat.le_refl _)) (hz.below hu (Nat.le_refl _)) hcx hmx hcy hmy hcz hmz
          rw [hC, hX]
          rw [h4] at AC
          generalize gkC xs ys true (rtM nS 11 xs) p = X at *
          generalize rtM nS 11 xs = v1 at *
          generalize rtM nS 11 ys = v2 at *
          clear hC hX h1 h2 h3 h4 t1 t2
          go_enter Tryd.func27, Tryd.ntmps27
          go_wp2_with fail
          refine (l4Fault_any x cx xs _ (hx.alloc _) lx).mono ?_
          rintro r' u' ⟨rfl, hu⟩
          have hu2 := hu.symm
          subst hu2
          clear hu
          rw [H1.out]
          go_wp2_with fail
          refine (l4Fault_any y cy ys _ (hy.alloc _) ly).mono ?_
          rintro r' u' ⟨rfl, hu⟩
          have hu2 := hu.symm
          subst hu2
          clear hu
          rw [H2.out]
          go_wp2_with fail
          refine (RX.out _ B0).mono ?_
          rintro r' u1 ⟨rfl, hb1⟩
          have B1 : Below u.heap.size u u1 := B0.trans (hb1.mono (by simp))
          go_wp2_with fail
          refine (RY.out _ B1).mono ?_
          rintro r' u2 ⟨rfl, hb2⟩
          have B2 := B1.trans (hb2.mono B1.size)
          go_wp2_with fail
          refine (AC.out _ B2).mono ?_
          rintro r' u3 ⟨rfl, hb3⟩
          have B3 := B2.trans (hb3.mono B2.size)
          go_wp2_with fail
          refine (RX.out _ B3).mono ?_
          rintro r' u4 ⟨rfl, hb4⟩
          have B4 := B3.trans (hb4.mono B3.size)
          go_wp2_with fail
          refine (LG.out _ B4).mono ?_
          rintro r' u5 ⟨p1, k1, p2, k2, rfl, O5, hb5⟩
          have B5 := B4.trans (hb5.mono B4.size)
          have z1 := hb1.size
          simp at z1
          have D5 : Below (u.heap.size + 1) (u.alloc (.cells #[.int .i64 0, .bool false, .slice none 0 0, .slice none 0 0] 31)) u5 := (((((hb1.trans (hb2.mono hb1.size)).trans (hb3.mono (Nat.le_trans hb1.size hb2.size))).trans (hb4.mono (Nat.le_trans (Nat.le_trans hb1.size hb2.size) hb3.size))).trans (hb5.mono (Nat.le_trans (Nat.le_trans (Nat.le_trans hb1.size hb2.size) hb3.size) hb4.size))).mono (by simp))
          have hc5 : ∀ o, u5.cell? ⟨u.heap.size, o, none⟩ = (u.alloc (.cells #[.int .i64 0, .bool false, .slice none 0 0, .slice none 0 0] 31)).cell? ⟨u.heap.size, o, none⟩ := fun o => D5.cell (p := ⟨u.heap.size, o, none⟩) (Nat.lt_succ_self _)
          have hf5 : ∀ o, u5.frozen? ⟨u.heap.size, o, none⟩ = (u.alloc (.cells #[.int .i64 0, .bool false, .slice none 0 0, .slice none 0 0] 31)).frozen? ⟨u.heap.size, o, none⟩ := fun o => D5.frozen (p := ⟨u.heap.size, o, none⟩) (Nat.lt_succ_self _)
          have y4 : u.heap.size < u4.heap.size := by have := hb2.size; have := hb3.size; have := hb4.size; omega
          have O5' : Hid (OwnC u5 u4.heap.size p1 p2 k1 k2 (clA X) (clB X)) := O5
          clear O5 D5 hb1 hb2 hb3 hb4 hb5 B1 B2 B3 B4 RX RY AC LG
          go_wp2
          refine bodyPost_ret (v := .agg #[.int .i64 0, .bool X.isSome, .slice p1 (clA X).length k1, .slice p2 (clB X).length k2]) (by simp [results, Tryd.results27, go_sem, hc5]) rfl ⟨p1, k1, p2, k2, rfl, ?_, ?_⟩
          · exact ((((O5'.out.set _ _ y4).set _ _ y4).set _ _ y4).set _ _ y4).mono (Nat.le_of_lt y4)
          · repeat (first | exact B5 | (refine Below.setCell ?_ (by (try simp) <;> omega) _))
        · have hC : gqC xs ys p = 8 := by unfold gqC; rw [if_pos h1, if_pos h2, if_pos h3, if_neg h4]
          have hX : gqX xs ys p = none := by unfold gqX; rw [if_neg (by omega)]
          have h4' : agB xs.length (rtM nS 11 xs) ys.length (rtM nS 11 ys) p = false := by simpa using h4
          rw [hC, hX]
          rw [h4'] at AC
          generalize rtM nS 11 xs = v1 at *
          generalize rtM nS 11 ys = v2 at *
          clear hC hX h1 h2 h3 h4 h4'
          go_enter Tryd.func27, Tryd.ntmps27
          go_wp2_with fail
          refine (l4Fault_any x cx xs _ (hx.alloc _) lx).mono ?_
          rintro r' u' ⟨rfl, hu⟩
          have hu2 := hu.symm
          subst hu2
          clear hu
          rw [H1.out]
          go_wp2_with fail
          refine (l4Fault_any y cy ys _ (hy.alloc _) ly).mono ?_
          rintro r' u' ⟨rfl, hu⟩
          have hu2 := hu.symm
          subst hu2
          clear hu
          rw [H2.out]
          go_wp2_with fail
          refine (RX.out _ B0).mono ?_
          rintro r' u1 ⟨rfl, hb1⟩
          have B1 : Below u.heap.size u u1 := B0.trans (hb1.mono (by simp))
          go_wp2_with fail
          refine (RY.out _ B1).mono ?_
          rintro r' u2 ⟨rfl, hb2⟩
          have B2 := B1.trans (hb2.mono B1.size)
          go_wp2_with fail
          refine (AC.out _ B2).mono ?_
          rintro r' u3 ⟨rfl, hb3⟩
          have B3 := B2.trans (hb3.mono B2.size)
          have D3 : Below (u.heap.size + 1) (u.alloc (.cells #[.int .i64 0, .bool false, .slice none 0 0, .slice none 0 0] 31)) u3 := ((hb1.trans (hb2.mono hb1.size)).trans (hb3.mono (Nat.le_trans hb1.size hb2.size))).mono (by simp)
          have hc5 : ∀ o, u3.cell? ⟨u.heap.size, o, none⟩ = (u.alloc (.cells #[.int .i64 0, .bool false, .slice none 0 0, .slice none 0 0] 31)).cell? ⟨u.heap.size, o, none⟩ := fun o => D3.cell (p := ⟨u.heap.size, o, none⟩) (Nat.lt_succ_self _)
          have hf5 : ∀ o, u3.frozen? ⟨u.heap.size, o, none⟩ = (u.alloc (.cells #[.int .i64 0, .bool false, .slice none 0 0, .slice none 0 0] 31)).frozen? ⟨u.heap.size, o, none⟩ := fun o => D3.frozen (p := ⟨u.heap.size, o, none⟩) (Nat.lt_succ_self _)
          clear D3 hb1 hb2 hb3 B1 B2 RX RY AC
          go_wp2
          refine bodyPost_ret (v := .agg #[.int .i64 8, .bool false, .slice none 0 0, .slice none 0 0]) (by simp [results, Tryd.results27, go_sem, hc5]) rfl ⟨none, 0, none, 0, rfl, OwnC.nil _ _, ?_⟩
          repeat (first | exact B3 | (refine Below.setCell ?_ (by (try simp) <;> omega) _))
      · have hC : gqC xs ys p = 1 := by unfold gqC; rw [if_pos h1, if_pos h2, if_neg h3]
        have hX : gqX xs ys p = none := by unfold gqX; rw [if_neg (by omega)]
        rw [hC, hX]
        clear hC hX h1 h2
        by_cases h4 : xs.length = 0
        · have e4 : ((xs.length : Int) == 0) = true := by simp [h4]
          clear h3 h4
          go_enter Tryd.func27, Tryd.ntmps27
          go_wp2_with fail
          refine (l4Fault_any x cx xs _ (hx.alloc _) lx).mono ?_
          rintro r' u' ⟨rfl, hu⟩
          have hu2 := hu.symm
          subst hu2
          clear hu
          rw [H1.out]
          go_wp2_with fail
          refine (l4Fault_any y cy ys _ (hy.alloc _) ly).mono ?_
          rintro r' u' ⟨rfl, hu⟩
          have hu2 := hu.symm
          subst hu2
          clear hu
          rw [H2.out]
          go_wp2
          refine bodyPost_ret (v := .agg #[.int .i64 1, .bool false, .slice none 0 0, .slice none 0 0]) (by simp [results, Tryd.results27, go_sem]) rfl ⟨none, 0, none, 0, rfl, OwnC.nil _ _, ?_⟩
          repeat (first | exact Below.refl _ _ | refine Below.alloc ?_ (by (try simp) <;> omega) _ | refine Below.setCell ?_ (by (try simp) <;> omega) _)
        · have e4 : ((xs.length : Int) == 0) = false := by simp; exact fun h => h4 (by simp [h])
          have e5 : (ys.length : Int) < xs.length := by omega
          clear h3 h4
          go_enter Tryd.func27, Tryd.ntmps27
          go_wp2_with fail
          refine (l4Fault_any x cx xs _ (hx.alloc _) lx).mono ?_
          rintro r' u' ⟨rfl, hu⟩
          have hu2 := hu.symm
          subst hu2
          clear hu
          rw [H1.out]
          go_wp2_with fail
          refine (l4Fault_any y cy ys _ (hy.alloc _) ly).mono ?_
          rintro r' u' ⟨rfl, hu⟩
          have hu2 := hu.symm
          subst hu2
          clear hu
          rw [H2.out]
          go_wp2
          refine bodyPost_ret (v := .agg #[.int .i64 1, .bool false, .slice none 0 0, .slice none 0 0]) (by simp [results, Tryd.results27, go_sem]) rfl ⟨none, 0, none, 0, rfl, OwnC.nil _ _, ?_⟩
          repeat (first | exact Below.refl _ _ | refine Below.alloc ?_ (by (try simp) <;> omega) _ | refine Below.setCell ?_ (by (try simp) <;> omega) _)
    · have hC : gqC xs ys p = lvF ys := by unfold gqC; rw [if_pos h1, if_neg h2]
      have hX : gqX xs ys p = none := by unfold gqX; rw [if_neg (by omega)]
      have b2 : (lvF ys != 0) = true := by simpa using h2
      rw [hC, hX]
      clear hC hX h1 h2
      generalize hcc : lvF ys = cc at *
      have HC : Hid (lvF ys = cc) := hcc
      clear hcc
      go_enter Tryd.func27, Tryd.ntmps27
      go_wp2_with fail
      refine (l4Fault_any x cx xs _ (hx.alloc _) lx).mono ?_
      rintro r' u' ⟨rfl, hu⟩
      have hu2 := hu.symm
      subst hu2
      clear hu
      rw [H1.out]
      go_wp2_with fail
      refine (l4Fault_any y cy ys _ (hy.alloc _) ly).mono ?_
      rintro r' u' ⟨rfl, hu⟩
      have hu2 := hu.symm
      subst hu2
      clear hu
      rw [HC.out]
      go_wp2
      refine bodyPost_ret (v := .agg #[.int .i64 cc, .bool false, .slice none 0 0, .slice none 0 0]) (by simp [results, Tryd.results27, go_sem]) rfl ⟨none, 0, none, 0, rfl, OwnC.nil _ _, ?_⟩
      repeat (first | exact Below.refl _ _ | refine Below.alloc ?_ (by (try simp) <;> omega) _ | refine Below.setCell ?_ (by (try simp) <;> omega) _)
  · have hC : gqC xs ys p = lvF xs := by unfold gqC; rw [if_neg h1]
    have hX : gqX xs ys p = none := by unfold gqX; rw [if_neg (by omega)]
    have b2 : (lvF xs != 0) = true := by simpa using h1
    rw [hC, hX]
    clear hC hX h1
    generalize hcc : lvF xs = cc at *
    have HC : Hid (lvF xs = cc) := hcc
    clear hcc
    go_enter Tryd.func27, Tryd.ntmps27
    go_wp2_with fail
    refine (l4Fault_any x cx xs _ (hx.alloc _) lx).mono ?_
    rintro r' u' ⟨rfl, hu⟩
    have hu2 := hu.symm
    subst hu2
    clear hu
    rw [HC.out]
    go_wp2
    refine bodyPost_ret (v := .agg #[.int .i64 cc, .bool false, .slice none 0 0, .slice none 0 0]) (by simp [results, Tryd.results27, go_sem]) rfl ⟨none, 0, none, 0, rfl, OwnC.nil _ _, ?_⟩
    repeat (first | exact Below.refl _ _ | refine Below.alloc ?_ (by (try simp) <;> omega) _ | refine Below.setCell ?_ (by (try simp) <;> omega) _)

end Go.Proofs.YtklhkhlmhddmcaaDoor
