/- Contracts: the program's GrowClash. -/
import Derived.Test.YtklhkhlmhddmcaaDoorIGwA
import Derived.Test.YtklhkhlmhddmcaaDoorIGrwS
import Derived.Test.YtklhkhlmhddmcaaDoorExt6K
namespace Go.Proofs.YtklhkhlmhddmcaaDoor
open Go.ChangeShapes Go.WideShapes Go.ChangeAt Go.RowKit
set_option linter.unusedVariables false
set_option linter.unusedSimpArgs false

set_option maxHeartbeats 8000000 in
theorem implGrowClash_any (x y z : Option Addr) (cx cy cz : Nat) (xs ys p : List Int) (w : World) (hT : Tab w) (hx : Has w .i64 x xs.length xs) (hy : Has w .i64 y ys.length ys) (hz : Has w .i64 z p.length p) (lx : xs.length ≤ 1048576) (ly : ys.length ≤ 1048576) (lz : p.length ≤ 1048576) (hcx : xs.length ≤ cx) (hmx : cx ≤ maxLen) (hcy : ys.length ≤ cy) (hmy : cy ≤ maxLen) (hcz : p.length ≤ cz) (hmz : cz ≤ maxLen) :
    Calls Tryd.prog 26 #[.slice x xs.length cx, .slice y ys.length cy, .slice z p.length cz] w fun r w' => ∃ a1 c1 a2 c2, r = .returned (.agg #[.int .i64 (gqC xs ys p), .bool (gqX xs ys p).isSome, .slice a1 (clA (gqX xs ys p)).length c1, .slice a2 (clB (gqX xs ys p)).length c2]) ∧ OwnC w' w.heap.size a1 a2 c1 c2 (clA (gqX xs ys p)) (clB (gqX xs ys p)) ∧ Below w.heap.size w w' := by
  by_cases h1 : orC (lvF xs) (lvF ys) = 0
  · have h1x : lvF xs = 0 := by unfold orC at h1; split at h1 <;> omega
    have h1y : lvF ys = 0 := by unfold orC at h1; rw [if_pos h1x] at h1; exact h1
    obtain ⟨g1, a1⟩ := lvF_zero h1x
    obtain ⟨g2, a2⟩ := lvF_zero h1y
    have hor := h1
    by_cases h3 : 1 ≤ xs.length ∧ xs.length ≤ ys.length
    · have e3 : ((xs.length : Int) == 0) = false := by simp; exact fun h => by have := h3.1; simp [h] at this
      have e4 : ¬ (xs.length : Int) > ys.length := by omega
      have e5 : decide ((ys.length : Int) < xs.length) = false := by simp; omega
      have hK : gqC xs ys p = if agB xs.length (rtM nS 11 xs) ys.length (rtM nS 11 ys) p = true then 0 else 8 := by unfold gqC; rw [if_pos h1x, if_pos h1y, if_pos h3]
      have RX : Hid (∀ u : World, Below w.heap.size w u → Calls Tryd.prog 20 #[.slice x xs.length cx] u fun r w' => r = .returned (.agg #[.int .i64 0, .int .i64 (rtM nS 11 xs)]) ∧ Below u.heap.size u w') := by
        intro u hu
        have := implRootOf_any x cx xs u (hT.below hu (Nat.le_refl _)) (hx.below hu (Nat.le_refl _)) (by omega) hcx hmx
        rw [h1x, show rtV xs = rtM nS 11 xs by unfold rtV; rw [if_pos h1x]] at this
        exact this
      have RY : Hid (∀ u : World, Below w.heap.size w u → Calls Tryd.prog 20 #[.slice y ys.length cy] u fun r w' => r = .returned (.agg #[.int .i64 0, .int .i64 (rtM nS 11 ys)]) ∧ Below u.heap.size u w') := by
        intro u hu
        have := implRootOf_any y cy ys u (hT.below hu (Nat.le_refl _)) (hy.below hu (Nat.le_refl _)) (by omega) hcy hmy
        rw [h1y, show rtV ys = rtM nS 11 ys by unfold rtV; rw [if_pos h1y]] at this
        exact this
      have AG : Hid (∀ u : World, Below w.heap.size w u → Calls Tryd.prog 79 #[.int .i64 xs.length, .int .i64 (rtM nS 11 xs), .int .i64 ys.length, .int .i64 (rtM nS 11 ys), .slice z p.length cz] u fun r w' => r = .returned (.bool (agB xs.length (rtM nS 11 xs) ys.length (rtM nS 11 ys) p)) ∧ Below u.heap.size u w') := fun u hu => implAcceptGrowth_any _ _ _ _ z cz p u (hT.below hu (Nat.le_refl _)) (hz.below hu (Nat.le_refl _)) lz hcz hmz
      have F1 := fldR1
      by_cases hv : agB xs.length (rtM nS 11 xs) ys.length (rtM nS 11 ys) p = true
      · have hK0 : gqC xs ys p = 0 := by rw [hK, if_pos hv]
        have hX : gqX xs ys p = gkC xs ys true (rtM nS 11 xs) p := by unfold gqX; rw [if_pos hK0]
        obtain ⟨_, m1, m2, m3, _⟩ := agB_true hv
        have d1 := rtM_bd _ xs (Nat.le_refl _) a1
        have GW : Hid (∀ u : World, Below w.heap.size w u → Calls Tryd.prog 80 #[.agg #[.int .i64 (xs.length), .int .i64 (ys.length), .bool true], .int .i64 (rtM nS 11 xs), .slice z p.length cz, .slice x xs.length cx, .slice y ys.length cy] u fun e w' => ∃ k caps, e = .returned (.func (.func k) #[] caps) ∧ (∀ v : World, (callFunc k caps).run Tryd.prog v = .ok (.enter k caps) v) ∧ (∀ v : World, Below w'.heap.size w' v → Calls Tryd.prog k caps v (WkE (gkC xs ys true (rtM nS 11 xs) p) v)) ∧ Below u.heap.size u w') := fun u hu => growWalk_any _ xs.length ys.length x y z cx cy cz xs ys p true (rtM nS 11 xs) u (Nat.le_refl _) rfl rfl h3.1 h3.2 g2 (fun _ => d1) m1 a1 a2 m2 (hT.below hu (Nat.le_refl _)) (hx.below hu (Nat.le_refl _)) (hy.below hu (Nat.le_refl _)) (hz.below hu (Nat.le_refl _)) hcx hmx hcy hmy hcz hmz
        rw [hX, hK0]
        rw [hv] at AG
        clear hK hK0 hX hv h1 h3 d1 m1 m2 m3
        generalize gkC xs ys true (rtM nS 11 xs) p = X at *
        generalize rtM nS 11 xs = v1 at *
        generalize rtM nS 11 ys = v2 at *
        have HOR : Hid (_) := hor
        clear h1x h1y hor
        go_enter Tryd.func26, Tryd.ntmps26
        go_wp2_with fail
        refine (implLeavesFault_any x cx xs _ (hx.alloc _) lx).mono ?_
        rintro r u ⟨rfl, hu⟩; have hu2 := hu.symm; subst hu2; clear hu
        go_wp2_with fail
        refine (implLeavesFault_any y cy ys _ (hy.alloc _) ly).mono ?_
        rintro r u ⟨rfl, hu⟩; have hu2 := hu.symm; subst hu2; clear hu
        go_wp2_with fail
        refine (cmpOr_any (lvF xs) (lvF ys) (w.heap.size + 1) _ (by simp [go_sem]) (by simp [go_sem])).mono ?_
        rintro r u ⟨rfl, hu⟩; have hu2 := hu.symm; subst hu2; clear hu
        rw [HOR.out]
        have BB : Below w.heap.size w ((w.alloc (.cells #[.int .i64 0, .bool false, .slice none 0 0, .slice none 0 0] 31)).alloc (.cells #[.int .i64 (lvF xs), .int .i64 (lvF ys)] 2)) := ((Below.refl _ _).alloc (Nat.le_refl _) _).alloc (by simp) _
        have RV : Hid (∀ u : World, Below (((w.alloc (.cells #[.int .i64 0, .bool false, .slice none 0 0, .slice none 0 0] 31)).alloc (.cells #[.int .i64 (lvF xs), .int .i64 (lvF ys)] 2))).heap.size ((w.alloc (.cells #[.int .i64 0, .bool false, .slice none 0 0, .slice none 0 0] 31)).alloc (.cells #[.int .i64 (lvF xs), .int .i64 (lvF ys)] 2)) u → (u.cell? ⟨w.heap.size, 0, none⟩ = some (.int .i64 0) ∧ u.cell? ⟨w.heap.size, 1, none⟩ = some (.bool false) ∧ u.cell? ⟨w.heap.size, 2, none⟩ = some (.slice none 0 0) ∧ u.cell? ⟨w.heap.size, 3, none⟩ = some (.slice none 0 0)) ∧ (u.frozen? ⟨w.heap.size, 0, none⟩ = false ∧ u.frozen? ⟨w.heap.size, 1, none⟩ = false ∧ u.frozen? ⟨w.heap.size, 2, none⟩ = false ∧ u.frozen? ⟨w.heap.size, 3, none⟩ = false)) := fun u h => var4 (ofA h)
        go_wp2_with fail
        refine (RX.out _ BB).mono ?_
        rintro r u1 ⟨rfl, hb1⟩
        have B1 := BB.trans (hb1.mono BB.size)
        go_wp2_with fail
        refine (RY.out _ B1).mono ?_
        rintro r u2 ⟨rfl, hb2⟩
        have B2 := B1.trans (hb2.mono B1.size)
        have V2 := hb1.trans (hb2.mono hb1.size)
        go_wp2_with fail
        refine (AG.out _ B2).mono ?_
        rintro r u3 ⟨rfl, hb3⟩
        have B3 := B2.trans (hb3.mono B2.size)
        have V3 := V2.trans (hb3.mono V2.size)
        clear hb1 hb2 hb3 B1
        go_wp2_with fail
        refine (whole_any xs.length ys.length _).mono ?_
        rintro r u4 ⟨rfl, hb4⟩
        have B4 := B3.trans (hb4.mono B3.size)
        have V4 := V3.trans (hb4.mono V3.size)
        go_wp2_with fail
        refine (GW.out _ B4).mono ?_
        rintro r u5 ⟨k, caps, rfl, hk, hc, hb5⟩
        have B5 := B4.trans (hb5.mono B4.size)
        have V5 := V4.trans (hb5.mono V4.size)
        have CO : Hid (_) := clashOn_any k caps X u5 hc hk
        obtain ⟨⟨k0, k1, k2, k3⟩, f0, f1, f2, f3⟩ := RV.out _ V5
        clear hc
        go_wp2_with fail
        refine Calls.mono (P := Tryd.prog) (f := 59) CO.out ?_
        rintro r u6 ⟨a1', c1', a2', c2', rfl, O6, hb6⟩
        have V6 := V5.trans (hb6.mono V5.size)
        have B6 := B5.trans (hb6.mono B5.size)
        clear k0 k1 k2 k3 f0 f1 f2 f3
        obtain ⟨⟨k0, k1, k2, k3⟩, f0, f1, f2, f3⟩ := RV.out _ V6
        have zz := V5.size
        have z5 : w.heap.size < u5.heap.size := by simp at zz; omega
        have O6' : Hid (OwnC u6 u5.heap.size a1' a2' c1' c2' (clA X) (clB X)) := O6
        clear O6 CO GW RX RY AG zz hk
        go_wp2
        refine bodyPost_ret (v := .agg #[.int .i64 0, .bool X.isSome, .slice a1' (clA X).length c1', .slice a2' (clB X).length c2']) (by simp [results, Tryd.results26, go_sem, k0, k1, k2, k3]) rfl ⟨a1', c1', a2', c2', rfl, ?_, ?_⟩
        · exact ((((O6'.out.set _ _ z5).set _ _ z5).set _ _ z5).set _ _ z5).mono (Nat.le_of_lt z5)
        · exact (((B6.setCell (Nat.le_refl _) _).setCell (Nat.le_refl _) _).setCell (Nat.le_refl _) _).setCell (Nat.le_refl _) _
      · have hK0 : gqC xs ys p = 8 := by rw [hK, if_neg hv]
        have hX : gqX xs ys p = none := by unfold gqX; rw [if_neg (by omega)]
        have ev : agB xs.length (rtM nS 11 xs) ys.length (rtM nS 11 ys) p = false := by simpa using hv
        rw [hX, hK0]
        rw [ev] at AG
        clear hK hK0 hX hv h1 h3 ev
        generalize rtM nS 11 xs = v1 at *
        generalize rtM nS 11 ys = v2 at *
        have HOR : Hid (_) := hor
        clear h1x h1y hor
        go_enter Tryd.func26, Tryd.ntmps26
        go_wp2_with fail
        refine (implLeavesFault_any x cx xs _ (hx.alloc _) lx).mono ?_
        rintro r u ⟨rfl, hu⟩; have hu2 := hu.symm; subst hu2; clear hu
        go_wp2_with fail
        refine (implLeavesFault_any y cy ys _ (hy.alloc _) ly).mono ?_
        rintro r u ⟨rfl, hu⟩; have hu2 := hu.symm; subst hu2; clear hu
        go_wp2_with fail
        refine (cmpOr_any (lvF xs) (lvF ys) (w.heap.size + 1) _ (by simp [go_sem]) (by simp [go_sem])).mono ?_
        rintro r u ⟨rfl, hu⟩; have hu2 := hu.symm; subst hu2; clear hu
        rw [HOR.out]
        have BB : Below w.heap.size w ((w.alloc (.cells #[.int .i64 0, .bool false, .slice none 0 0, .slice none 0 0] 31)).alloc (.cells #[.int .i64 (lvF xs), .int .i64 (lvF ys)] 2)) := ((Below.refl _ _).alloc (Nat.le_refl _) _).alloc (by simp) _
        have RV : Hid (∀ u : World, Below (((w.alloc (.cells #[.int .i64 0, .bool false, .slice none 0 0, .slice none 0 0] 31)).alloc (.cells #[.int .i64 (lvF xs), .int .i64 (lvF ys)] 2))).heap.size ((w.alloc (.cells #[.int .i64 0, .bool false, .slice none 0 0, .slice none 0 0] 31)).alloc (.cells #[.int .i64 (lvF xs), .int .i64 (lvF ys)] 2)) u → (u.cell? ⟨w.heap.size, 0, none⟩ = some (.int .i64 0) ∧ u.cell? ⟨w.heap.size, 1, none⟩ = some (.bool false) ∧ u.cell? ⟨w.heap.size, 2, none⟩ = some (.slice none 0 0) ∧ u.cell? ⟨w.heap.size, 3, none⟩ = some (.slice none 0 0)) ∧ (u.frozen? ⟨w.heap.size, 0, none⟩ = false ∧ u.frozen? ⟨w.heap.size, 1, none⟩ = false ∧ u.frozen? ⟨w.heap.size, 2, none⟩ = false ∧ u.frozen? ⟨w.heap.size, 3, none⟩ = false)) := fun u h => var4 (ofA h)
        go_wp2_with fail
        refine (RX.out _ BB).mono ?_
        rintro r u1 ⟨rfl, hb1⟩
        have B1 := BB.trans (hb1.mono BB.size)
        go_wp2_with fail
        refine (RY.out _ B1).mono ?_
        rintro r u2 ⟨rfl, hb2⟩
        have B2 := B1.trans (hb2.mono B1.size)
        have V2 := hb1.trans (hb2.mono hb1.size)
        go_wp2_with fail
        refine (AG.out _ B2).mono ?_
        rintro r u3 ⟨rfl, hb3⟩
        have B3 := B2.trans (hb3.mono B2.size)
        have V3 := V2.trans (hb3.mono V2.size)
        clear hb1 hb2 hb3 B1
        obtain ⟨⟨k0, k1, k2, k3⟩, f0, f1, f2, f3⟩ := RV.out _ V3
        go_wp2
        refine bodyPost_ret (v := .agg #[.int .i64 8, .bool false, .slice none 0 0, .slice none 0 0]) (by simp [results, Tryd.results26, go_sem, k0, k1, k2, k3]) rfl ⟨none, 0, none, 0, rfl, OwnC.nil _ _, ?_⟩
        exact (((B3.setCell (Nat.le_refl _) _).setCell (Nat.le_refl _) _).setCell (Nat.le_refl _) _).setCell (Nat.le_refl _) _
    · have hK : gqC xs ys p = 1 := by unfold gqC; rw [if_pos h1x, if_pos h1y, if_neg h3]
      have hX : gqX xs ys p = none := by unfold gqX; rw [if_neg (by omega)]
      rw [hX, hK]
      have HOR : Hid (_) := hor
      clear hK hX h1 h1x h1y hor
      by_cases h4 : xs.length = 0
      · have e3 : ((xs.length : Int) == 0) = true := by simp [h4]
        clear h3 h4
        go_enter Tryd.func26, Tryd.ntmps26
        go_wp2_with fail
        refine (implLeavesFault_any x cx xs _ (hx.alloc _) lx).mono ?_
        rintro r u ⟨rfl, hu⟩; have hu2 := hu.symm; subst hu2; clear hu
        go_wp2_with fail
        refine (implLeavesFault_any y cy ys _ (hy.alloc _) ly).mono ?_
        rintro r u ⟨rfl, hu⟩; have hu2 := hu.symm; subst hu2; clear hu
        go_wp2_with fail
        refine (cmpOr_any (lvF xs) (lvF ys) (w.heap.size + 1) _ (by simp [go_sem]) (by simp [go_sem])).mono ?_
        rintro r u ⟨rfl, hu⟩; have hu2 := hu.symm; subst hu2; clear hu
        rw [HOR.out]
        go_wp2
        refine bodyPost_ret (v := .agg #[.int .i64 (1), .bool false, .slice none 0 0, .slice none 0 0]) (by simp [results, Tryd.results26, go_sem]) rfl ⟨none, 0, none, 0, rfl, OwnC.nil _ _, ?_⟩
        repeat (first | exact Below.refl _ _ | (refine Below.alloc ?_ (by (try simp) <;> omega) _) | (refine Below.setCell ?_ (by (try simp) <;> omega) _))
      · have e3 : ((xs.length : Int) == 0) = false := by simp; exact fun h => h4 (by simp [h])
        have e4 : (ys.length : Int) < xs.length := by omega
        clear h3 h4
        go_enter Tryd.func26, Tryd.ntmps26
        go_wp2_with fail
        refine (implLeavesFault_any x cx xs _ (hx.alloc _) lx).mono ?_
        rintro r u ⟨rfl, hu⟩; have hu2 := hu.symm; subst hu2; clear hu
        go_wp2_with fail
        refine (implLeavesFault_any y cy ys _ (hy.alloc _) ly).mono ?_
        rintro r u ⟨rfl, hu⟩; have hu2 := hu.symm; subst hu2; clear hu
        go_wp2_with fail
        refine (cmpOr_any (lvF xs) (lvF ys) (w.heap.size + 1) _ (by simp [go_sem]) (by simp [go_sem])).mono ?_
        rintro r u ⟨rfl, hu⟩; have hu2 := hu.symm; subst hu2; clear hu
        rw [HOR.out]
        go_wp2
        refine bodyPost_ret (v := .agg #[.int .i64 (1), .bool false, .slice none 0 0, .slice none 0 0]) (by simp [results, Tryd.results26, go_sem]) rfl ⟨none, 0, none, 0, rfl, OwnC.nil _ _, ?_⟩
        repeat (first | exact Below.refl _ _ | (refine Below.alloc ?_ (by (try simp) <;> omega) _) | (refine Below.setCell ?_ (by (try simp) <;> omega) _))
  · have hK : gqC xs ys p = orC (lvF xs) (lvF ys) := by
      unfold gqC orC at *
      by_cases hx0 : lvF xs = 0
      · rw [if_pos hx0] at h1 ⊢
        rw [if_neg h1, if_pos hx0]
      · rw [if_neg hx0, if_neg hx0]
    have hX : gqX xs ys p = none := by unfold gqX; rw [if_neg (by rw [hK]; exact h1)]
    rw [hX, hK]
    have e0 : (orC (lvF xs) (lvF ys) != 0) = true := by simpa using h1
    clear hK hX h1
    obtain ⟨cc, hcc⟩ : ∃ cc, orC (lvF xs) (lvF ys) = cc := ⟨_, rfl⟩
    rw [hcc] at e0 ⊢
    have HOR : Hid (_) := hcc
    clear hcc
    go_enter Tryd.func26, Tryd.ntmps26
    go_wp2_with fail
    refine (implLeavesFault_any x cx xs _ (hx.alloc _) lx).mono ?_
    rintro r u ⟨rfl, hu⟩; have hu2 := hu.symm; subst hu2; clear hu
    go_wp2_with fail
    refine (implLeavesFault_any y cy ys _ (hy.alloc _) ly).mono ?_
    rintro r u ⟨rfl, hu⟩; have hu2 := hu.symm; subst hu2; clear hu
    go_wp2_with fail
    refine (cmpOr_any (lvF xs) (lvF ys) (w.heap.size + 1) _ (by simp [go_sem]) (by simp [go_sem])).mono ?_
    rintro r u ⟨rfl, hu⟩; have hu2 := hu.symm; subst hu2; clear hu
    rw [HOR.out]
    go_wp2
    refine bodyPost_ret (v := .agg #[.int .i64 (cc), .bool false, .slice none 0 0, .slice none 0 0]) (by simp [results, Tryd.results26, go_sem]) rfl ⟨none, 0, none, 0, rfl, OwnC.nil _ _, ?_⟩
    repeat (first | exact Below.refl _ _ | (refine Below.alloc ?_ (by (try simp) <;> omega) _) | (refine Below.setCell ?_ (by (try simp) <;> omega) _))

end Go.Proofs.YtklhkhlmhddmcaaDoor
