/- Contracts: the model's SignHead and CheckHead. -/
import Derived.Test.YtffidkoejlebeaaGreatDoorHdQ
import Derived.Test.YtffidkoejlebeaaGreatDoorKyOp
import Derived.Test.YtffidkoejlebeaaGreatDoorPathsP
import Derived.Test.YtffidkoejlebeaaGreatDoorRegB
import Derived.Deep.RegionWith
namespace Go.Proofs.YtffidkoejlebeaaGreatDoor
open Go.ChangeShapes Go.WideShapes Go.ChangeAt Go.RowKit
set_option maxRecDepth 100000
set_option linter.unusedVariables false
set_option linter.unusedSimpArgs false

theorem pt_six9 {zs : List Int} {k : Int} (ha : allS zs = true) (hl : zs.length ≤ 8) (h0 : 0 ≤ k) (h1 : k < zs.length) : (ptM nS 11 zs k).length ≤ 6 := by
  have hv : lvF zs = 0 := by unfold lvF; rw [if_neg (by omega), if_pos ha]
  have := (climb_pt hv h0 h1).2.2
  rw [show ptL zs k = ptM nS 11 zs k by unfold ptL; rw [if_pos ⟨hv, h0, h1⟩]] at this
  exact this
/-- What comes of signing a head. -/
def sgC (s n z r m k : Int) : Int := if hdB z r m k = true then (if krOk s n = true then (if n ≤ k then 11 else 0) else 3) else 3
def sgI (s n z r m k v : Int) : Int := if sgC s n z r m k = 0 then v else 0
def sgS (s n z r m k : Int) : List Int := if sgC s n z r m k = 0 then shW s k (hdV z r m k) (List.range 16) else []
def sgO (s n z r m k : Int) : List Int := if sgC s n z r m k = 0 then otW s k (hdV z r m k) (List.range 16) else []
def sgP (s n z r m k : Int) : List Int := if sgC s n z r m k = 0 then ptM nS 11 (keysL s n.toNat) k else []
theorem sgC_zero {s n z r m k : Int} (h : sgC s n z r m k = 0) : hdB z r m k = true ∧ krOk s n = true ∧ k < n := by
  unfold sgC at h
  split at h
  · split at h
    · split at h
      · omega
      · exact ⟨‹_›, ‹_›, by omega⟩
    · omega
  · omega
/-- What is signed is a signed head. -/
theorem sg_fault {s n z r m k : Int} (h : sgC s n z r m k = 0) : sdF z r m k k (sgS s n z r m k) (sgO s n z r m k) (sgP s n z r m k) = 0 := by
  obtain ⟨h1, h2, h3⟩ := sgC_zero h
  have kb := (hdB_iff.1 h1).2.2.2
  have hn : (0 ≤ s ∧ s ≤ 999) ∧ 1 ≤ n ∧ n ≤ 8 := by unfold krOk at h2; exact of_decide_eq_true h2
  have e1 : sgS s n z r m k = shW s k (hdV z r m k) (List.range 16) := by unfold sgS; rw [if_pos h]
  have e2 : sgO s n z r m k = otW s k (hdV z r m k) (List.range 16) := by unfold sgO; rw [if_pos h]
  have e3 : sgP s n z r m k = ptM nS 11 (keysL s n.toNat) k := by unfold sgP; rw [if_pos h]
  have kl := keysL_len s n.toNat
  rw [e1, e2, e3]
  refine sdF_of h1 (sgF_of kb ?_ ?_ (shW_all _ _ _ _) (otW_all _ _ _ _)) rfl ?_ (ptM_all _ _ _ (Nat.le_refl _) (keysL_all _ _))
  · rw [shW_len]; simp
  · rw [otW_len]; simp
  · exact pt_six9 (keysL_all _ _) (by omega) kb.1 (by omega)

set_option maxHeartbeats 4000000 in
theorem specSignHead_any (s n z r m k : Int) (w : World) :
    Calls Tryz.prog 24 #[.int .i64 s, .int .i64 n, .agg #[.int .i64 z, .int .i64 r, .int .i64 m, .int .i64 k]] w fun e w' => ∃ a1 c1 a2 c2 a3 c3, e = .returned (.agg #[.int .i64 (sgC s n z r m k), .int .i64 (sgI s n z r m k z), .int .i64 (sgI s n z r m k r), .int .i64 (sgI s n z r m k m), .int .i64 (sgI s n z r m k k), .int .i64 (sgI s n z r m k k), .slice a1 (sgS s n z r m k).length c1, .slice a2 (sgO s n z r m k).length c2, .slice a3 (sgP s n z r m k).length c3]) ∧ OwnH w' w.heap.size a1 a2 a3 c1 c2 c3 (sgS s n z r m k) (sgO s n z r m k) (sgP s n z r m k) ∧ Below w.heap.size w w' := by
  obtain ⟨E, hE⟩ : ∃ E, E = (w.alloc (.cells #[.int .i64 z, .int .i64 r, .int .i64 m, .int .i64 k] 26)).alloc (.cells #[.int .i64 0, .int .i64 0, .int .i64 0, .int .i64 0, .int .i64 0, .int .i64 0, .slice none 0 0, .slice none 0 0, .slice none 0 0] 54) := ⟨_, rfl⟩
  have BE : Below w.heap.size w E := by rw [hE]; exact ((Below.refl _ _).alloc (Nat.le_refl _) _).alloc (by simp) _
  have R1 : Blk E w.heap.size #[.int .i64 z, .int .i64 r, .int .i64 m, .int .i64 k] 26 := by rw [hE]; exact (Blk.new _ _ _).below ((Below.refl _ _).alloc (Nat.le_refl _) _) (Blk.new _ _ _).lt
  have R2 : Blk E (w.heap.size + 1) #[.int .i64 0, .int .i64 0, .int .i64 0, .int .i64 0, .int .i64 0, .int .i64 0, .slice none 0 0, .slice none 0 0, .slice none 0 0] 54 := by
    have := Blk.new (w.alloc (.cells #[.int .i64 z, .int .i64 r, .int .i64 m, .int .i64 k] 26)) #[.int .i64 0, .int .i64 0, .int .i64 0, .int .i64 0, .int .i64 0, .int .i64 0, .slice none 0 0, .slice none 0 0, .slice none 0 0] 54
    rw [World.size_alloc] at this
    rw [hE]; exact this
  have NO : Hid (∀ (w' : World) (c : Int), c ≠ 0 → sgC s n z r m k = c → Below w.heap.size w w' → (fun e w' => ∃ a1 c1 a2 c2 a3 c3, e = .returned (.agg #[.int .i64 (sgC s n z r m k), .int .i64 (sgI s n z r m k z), .int .i64 (sgI s n z r m k r), .int .i64 (sgI s n z r m k m), .int .i64 (sgI s n z r m k k), .int .i64 (sgI s n z r m k k), .slice a1 (sgS s n z r m k).length c1, .slice a2 (sgO s n z r m k).length c2, .slice a3 (sgP s n z r m k).length c3]) ∧ OwnH w' w.heap.size a1 a2 a3 c1 c2 c3 (sgS s n z r m k) (sgO s n z r m k) (sgP s n z r m k) ∧ Below w.heap.size w w') (Ending.returned (.agg #[.int .i64 c, .int .i64 0, .int .i64 0, .int .i64 0, .int .i64 0, .int .i64 0, .slice none 0 0, .slice none 0 0, .slice none 0 0])) w') := fun w' c hc0 hc hB => by
    have hne : ¬ sgC s n z r m k = 0 := by omega
    have e1 : sgS s n z r m k = [] := by unfold sgS; rw [if_neg hne]
    have e2 : sgO s n z r m k = [] := by unfold sgO; rw [if_neg hne]
    have e3 : sgP s n z r m k = [] := by unfold sgP; rw [if_neg hne]
    have e4 : ∀ v, sgI s n z r m k v = 0 := fun v => by unfold sgI; rw [if_neg hne]
    rw [e1, e2, e3, e4, e4, e4, e4, hc]
    exact ⟨none, 0, none, 0, none, 0, rfl, OwnH.nil _ _, hB⟩
  have HA := HdAt.of_blk R1
  have LF := l9Fault_any w.heap.size z r m k E HA
  have q3 : E.cell? ⟨w.heap.size, 3, none⟩ = some (.int .i64 k) := HA.k0
  have q0 : E.cell? ⟨w.heap.size, 0, none⟩ = some (.int .i64 z) := HA.z0
  have q1 : E.cell? ⟨w.heap.size, 1, none⟩ = some (.int .i64 r) := HA.r0
  have q2 : E.cell? ⟨w.heap.size, 2, none⟩ = some (.int .i64 m) := HA.m0
  have ql := HA.lt
  have IS := in_any s 0 999 E
  have IN := in_any n 1 8 E
  clear HA R1
  by_cases hb : hdB z r m k = true
  case neg =>
    have HC : Hid (sgC s n z r m k = 3) := by show _ = _; unfold sgC; rw [if_neg hb]
    rw [show hdF z r m k = 3 by unfold hdF; rw [if_neg hb]] at LF
    have k0 := (R2).cell 0
    have k1 := (R2).cell 1
    have k2 := (R2).cell 2
    have k3 := (R2).cell 3
    have k4 := (R2).cell 4
    have k5 := (R2).cell 5
    have k6 := (R2).cell 6
    have k7 := (R2).cell 7
    have k8 := (R2).cell 8
    have f0 := (R2).frozen 0
    have f1 := (R2).frozen 1
    have f2 := (R2).frozen 2
    have f3 := (R2).frozen 3
    have f4 := (R2).frozen 4
    have f5 := (R2).frozen 5
    have f6 := (R2).frozen 6
    have f7 := (R2).frozen 7
    have f8 := (R2).frozen 8
    have rl := (R2).lt
    simp at k0 k1 k2 k3 k4 k5 k6 k7 k8
    clear hb R2 IS IN
    go_enter Tryz.func24, Tryz.ntmps24
    go_wp2_with fail
    simp only [← hE]
    clear hE
    refine LF.mono ?_
    rintro r' u ⟨rfl, hu⟩; have hu2 := hu.symm; subst hu2; clear hu
    go_wp2
    refine bodyPost_ret (v := .agg #[.int .i64 (3), .int .i64 0, .int .i64 0, .int .i64 0, .int .i64 0, .int .i64 0, .slice none 0 0, .slice none 0 0, .slice none 0 0]) (by simp [results, Tryz.results24, go_sem, k0, k1, k2, k3, k4, k5, k6, k7, k8]) rfl (NO.out _ 3 (by decide) HC.out ?_)
    exact ((((((((BE.setCell (by simp) _).setCell (by simp) _).setCell (by simp) _).setCell (by simp) _).setCell (by simp) _).setCell (by simp) _).setCell (by simp) _).setCell (by simp) _).setCell (by simp) _
  rw [show hdF z r m k = 0 by unfold hdF; rw [if_pos hb]] at LF
  cases h1 : decide (0 ≤ s ∧ s ≤ 999) with
  | false =>
    have hk : ¬ krOk s n = true := by unfold krOk; intro hh; exact absurd (of_decide_eq_true hh).1 (of_decide_eq_false h1)
    have HC : Hid (sgC s n z r m k = 3) := by show _ = _; unfold sgC; rw [if_pos hb, if_neg hk]
    rw [h1] at IS
    have k0 := (R2).cell 0
    have k1 := (R2).cell 1
    have k2 := (R2).cell 2
    have k3 := (R2).cell 3
    have k4 := (R2).cell 4
    have k5 := (R2).cell 5
    have k6 := (R2).cell 6
    have k7 := (R2).cell 7
    have k8 := (R2).cell 8
    have f0 := (R2).frozen 0
    have f1 := (R2).frozen 1
    have f2 := (R2).frozen 2
    have f3 := (R2).frozen 3
    have f4 := (R2).frozen 4
    have f5 := (R2).frozen 5
    have f6 := (R2).frozen 6
    have f7 := (R2).frozen 7
    have f8 := (R2).frozen 8
    have rl := (R2).lt
    simp at k0 k1 k2 k3 k4 k5 k6 k7 k8
    clear hb R2 IN h1 hk
    go_enter Tryz.func24, Tryz.ntmps24
    go_wp2_with fail
    simp only [← hE]
    clear hE
    refine LF.mono ?_
    rintro r' u ⟨rfl, hu⟩; have hu2 := hu.symm; subst hu2; clear hu
    go_wp2_with fail
    refine (IS).mono ?_
    rintro r' u ⟨rfl, hu⟩; have hu2 := hu.symm; subst hu2; clear hu
    go_wp2
    refine bodyPost_ret (v := .agg #[.int .i64 (3), .int .i64 0, .int .i64 0, .int .i64 0, .int .i64 0, .int .i64 0, .slice none 0 0, .slice none 0 0, .slice none 0 0]) (by simp [results, Tryz.results24, go_sem, k0, k1, k2, k3, k4, k5, k6, k7, k8]) rfl (NO.out _ 3 (by decide) HC.out ?_)
    exact ((((((((BE.setCell (by simp) _).setCell (by simp) _).setCell (by simp) _).setCell (by simp) _).setCell (by simp) _).setCell (by simp) _).setCell (by simp) _).setCell (by simp) _).setCell (by simp) _
  | true =>
    rw [h1] at IS
    cases h2 : decide (1 ≤ n ∧ n ≤ 8) with
    | false =>
      have hk : ¬ krOk s n = true := by unfold krOk; intro hh; exact absurd (of_decide_eq_true hh).2 (of_decide_eq_false h2)
      have HC : Hid (sgC s n z r m k = 3) := by show _ = _; unfold sgC; rw [if_pos hb, if_neg hk]
      rw [h2] at IN
      have k0 := (R2).cell 0
      have k1 := (R2).cell 1
      have k2 := (R2).cell 2
      have k3 := (R2).cell 3
      have k4 := (R2).cell 4
      have k5 := (R2).cell 5
      have k6 := (R2).cell 6
      have k7 := (R2).cell 7
      have k8 := (R2).cell 8
      have f0 := (R2).frozen 0
      have f1 := (R2).frozen 1
      have f2 := (R2).frozen 2
      have f3 := (R2).frozen 3
      have f4 := (R2).frozen 4
      have f5 := (R2).frozen 5
      have f6 := (R2).frozen 6
      have f7 := (R2).frozen 7
      have f8 := (R2).frozen 8
      have rl := (R2).lt
      simp at k0 k1 k2 k3 k4 k5 k6 k7 k8
      clear hb R2 h1 h2 hk
      go_enter Tryz.func24, Tryz.ntmps24
      go_wp2_with fail
      simp only [← hE]
      clear hE
      refine LF.mono ?_
      rintro r' u ⟨rfl, hu⟩; have hu2 := hu.symm; subst hu2; clear hu
      go_wp2_with fail
      refine (IS).mono ?_
      rintro r' u ⟨rfl, hu⟩; have hu2 := hu.symm; subst hu2; clear hu
      go_wp2_with fail
      refine (IN).mono ?_
      rintro r' u ⟨rfl, hu⟩; have hu2 := hu.symm; subst hu2; clear hu
      go_wp2
      refine bodyPost_ret (v := .agg #[.int .i64 (3), .int .i64 0, .int .i64 0, .int .i64 0, .int .i64 0, .int .i64 0, .slice none 0 0, .slice none 0 0, .slice none 0 0]) (by simp [results, Tryz.results24, go_sem, k0, k1, k2, k3, k4, k5, k6, k7, k8]) rfl (NO.out _ 3 (by decide) HC.out ?_)
      exact ((((((((BE.setCell (by simp) _).setCell (by simp) _).setCell (by simp) _).setCell (by simp) _).setCell (by simp) _).setCell (by simp) _).setCell (by simp) _).setCell (by simp) _).setCell (by simp) _
    | true =>
      have b1 := of_decide_eq_true h1
      have b2 := of_decide_eq_true h2
      have hk : krOk s n = true := by unfold krOk; exact decide_eq_true ⟨b1, b2⟩
      rw [h2] at IN
      by_cases hkn : n ≤ k
      · have HC : Hid (sgC s n z r m k = 11) := by show _ = _; unfold sgC; rw [if_pos hb, if_pos hk, if_pos hkn]
        have k0 := (R2).cell 0
        have k1 := (R2).cell 1
        have k2 := (R2).cell 2
        have k3 := (R2).cell 3
        have k4 := (R2).cell 4
        have k5 := (R2).cell 5
        have k6 := (R2).cell 6
        have k7 := (R2).cell 7
        have k8 := (R2).cell 8
        have f0 := (R2).frozen 0
        have f1 := (R2).frozen 1
        have f2 := (R2).frozen 2
        have f3 := (R2).frozen 3
        have f4 := (R2).frozen 4
        have f5 := (R2).frozen 5
        have f6 := (R2).frozen 6
        have f7 := (R2).frozen 7
        have f8 := (R2).frozen 8
        have rl := (R2).lt
        simp at k0 k1 k2 k3 k4 k5 k6 k7 k8
        clear hb R2 h1 h2 hk b1 b2
        go_enter Tryz.func24, Tryz.ntmps24
        go_wp2_with fail
        simp only [← hE]
        clear hE
        refine LF.mono ?_
        rintro r' u ⟨rfl, hu⟩; have hu2 := hu.symm; subst hu2; clear hu
        go_wp2_with fail
        refine (IS).mono ?_
        rintro r' u ⟨rfl, hu⟩; have hu2 := hu.symm; subst hu2; clear hu
        go_wp2_with fail
        refine (IN).mono ?_
        rintro r' u ⟨rfl, hu⟩; have hu2 := hu.symm; subst hu2; clear hu
        go_wp2
        refine bodyPost_ret (v := .agg #[.int .i64 (11), .int .i64 0, .int .i64 0, .int .i64 0, .int .i64 0, .int .i64 0, .slice none 0 0, .slice none 0 0, .slice none 0 0]) (by simp [results, Tryz.results24, go_sem, k0, k1, k2, k3, k4, k5, k6, k7, k8]) rfl (NO.out _ 11 (by decide) HC.out ?_)
        exact ((((((((BE.setCell (by simp) _).setCell (by simp) _).setCell (by simp) _).setCell (by simp) _).setCell (by simp) _).setCell (by simp) _).setCell (by simp) _).setCell (by simp) _).setCell (by simp) _
      · have hc : sgC s n z r m k = 0 := by unfold sgC; rw [if_pos hb, if_pos hk, if_neg hkn]
        have e1 : sgS s n z r m k = shW s k (hdV z r m k) (List.range 16) := by unfold sgS; rw [if_pos hc]
        have e2 : sgO s n z r m k = otW s k (hdV z r m k) (List.range 16) := by unfold sgO; rw [if_pos hc]
        have e3 : sgP s n z r m k = ptM nS 11 (keysL s n.toNat) k := by unfold sgP; rw [if_pos hc]
        have e4 : ∀ v, sgI s n z r m k v = v := fun v => by unfold sgI; rw [if_pos hc]
        obtain ⟨N, hN⟩ := Int.eq_ofNat_of_zero_le (show 0 ≤ n by omega)
        have LS := l9Sign_any s N z r m k E hb b1 ⟨by omega, by omega⟩ (by omega)
        have eN : n.toNat = N := by omega
        rw [e1, e2, e3, e4, e4, e4, e4, hc, eN]
        clear e1 e2 e3 e4 hc NO h1 h2 hk b1 b2 hb eN
        generalize shW s k (hdV z r m k) (List.range 16) = sh at *
        generalize otW s k (hdV z r m k) (List.range 16) = ot at *
        generalize ptM nS 11 (keysL s N) k = P at *
        have hkn' : ¬ n ≤ k := hkn
        have LSH : Hid (Calls Tryz.prog 39 #[.int .i64 s, .int .i64 n, .agg #[.int .i64 z, .int .i64 r, .int .i64 m, .int .i64 k]] E fun e w' => ∃ a1 c1 a2 c2 a3 c3, e = .returned (.agg #[.int .i64 z, .int .i64 r, .int .i64 m, .int .i64 k, .int .i64 k, .slice a1 sh.length c1, .slice a2 ot.length c2, .slice a3 P.length c3]) ∧ OwnH w' E.heap.size a1 a2 a3 c1 c2 c3 sh ot P ∧ Below E.heap.size E w') := by rw [hN]; exact LS
        clear LS hN
        have r2 := R2.lt
        go_enter Tryz.func24, Tryz.ntmps24
        go_wp2_with fail
        simp only [← hE]
        clear hE
        refine LF.mono ?_
        rintro r' u ⟨rfl, hu⟩; have hu2 := hu.symm; subst hu2; clear hu
        go_wp2_with fail
        refine (IS).mono ?_
        rintro r' u ⟨rfl, hu⟩; have hu2 := hu.symm; subst hu2; clear hu
        go_wp2_with fail
        refine (IN).mono ?_
        rintro r' u ⟨rfl, hu⟩; have hu2 := hu.symm; subst hu2; clear hu
        go_wp2_with fail
        refine LSH.out.mono ?_
        rintro e u1 ⟨a1, c1, a2, c2, a3, c3, rfl, O1, hb1⟩
        have R3 := R2.below hb1 R2.lt
        have B1 := BE.trans (hb1.mono BE.size)
        have OH : Hid (OwnH u1 E.heap.size a1 a2 a3 c1 c2 c3 sh ot P) := O1
        have BH : Hid (Below w.heap.size w u1) := B1
        have zz := BE.size
        have k0 := (R3).cell 0
        have k1 := (R3).cell 1
        have k2 := (R3).cell 2
        have k3 := (R3).cell 3
        have k4 := (R3).cell 4
        have k5 := (R3).cell 5
        have k6 := (R3).cell 6
        have k7 := (R3).cell 7
        have k8 := (R3).cell 8
        have f0 := (R3).frozen 0
        have f1 := (R3).frozen 1
        have f2 := (R3).frozen 2
        have f3 := (R3).frozen 3
        have f4 := (R3).frozen 4
        have f5 := (R3).frozen 5
        have f6 := (R3).frozen 6
        have f7 := (R3).frozen 7
        have f8 := (R3).frozen 8
        have rl := (R3).lt
        simp at k0 k1 k2 k3 k4 k5 k6 k7 k8
        clear R2 R3 O1 B1 hb1 LF IS IN LSH q0 q1 q2 q3
        go_wp2
        refine bodyPost_ret (v := .agg #[.int .i64 0, .int .i64 z, .int .i64 r, .int .i64 m, .int .i64 k, .int .i64 k, .slice a1 sh.length c1, .slice a2 ot.length c2, .slice a3 P.length c3]) (by simp [results, Tryz.results24, go_sem, k0, k1, k2, k3, k4, k5, k6, k7, k8]) rfl ⟨a1, c1, a2, c2, a3, c3, rfl, ?_, ?_⟩
        · exact (((((((((OH.out.set _ _ r2).set _ _ r2).set _ _ r2).set _ _ r2).set _ _ r2).set _ _ r2).set _ _ r2).set _ _ r2).set _ _ r2).mono zz
        · exact ((((((((BH.out.setCell (by simp) _).setCell (by simp) _).setCell (by simp) _).setCell (by simp) _).setCell (by simp) _).setCell (by simp) _).setCell (by simp) _).setCell (by simp) _).setCell (by simp) _

def chB (root n z r m k i : Int) (sh ot p : List Int) : Bool := decide (sdF z r m k i sh ot p = 0) && ckB i sh ot (hdV z r m k) n p root

set_option maxHeartbeats 4000000 in
theorem specCheckHead_any (root n z r m k i : Int) (a b c : Option Addr) (ca cb cc : Nat) (sh ot p : List Int) (w : World) (hs : Has w .i64 a sh.length sh) (ho : Has w .i64 b ot.length ot) (hp : Has w .i64 c p.length p) (h1 : sh.length ≤ 1048576) (h2 : ot.length ≤ 1048576) (h3 : p.length ≤ 1048576) (hcc : p.length ≤ cc) (hm : cc ≤ maxLen) (hn : -9223372036854775808 ≤ n ∧ n ≤ 9223372036854775807) :
    Calls Tryz.prog 17 #[.int .i64 root, .int .i64 n, .agg #[.int .i64 z, .int .i64 r, .int .i64 m, .int .i64 k, .int .i64 i, .slice a sh.length ca, .slice b ot.length cb, .slice c p.length cc]] w fun e w' => e = .returned (.bool (chB root n z r m k i sh ot p)) ∧ Below w.heap.size w w' := by
  obtain ⟨E, hE⟩ : ∃ E, E = w.alloc (.cells #[.int .i64 z, .int .i64 r, .int .i64 m, .int .i64 k, .int .i64 i, .slice a sh.length ca, .slice b ot.length cb, .slice c p.length cc] 38) := ⟨_, rfl⟩
  have BE : Below w.heap.size w E := by rw [hE]; exact (Below.refl _ _).alloc (Nat.le_refl _) _
  have AT : SdAt E w.heap.size z r m k i a b c ca cb cc sh ot p := by rw [hE]; exact ⟨Blk.new w _ 38, hs.alloc _, ho.alloc _, hp.alloc _⟩
  have VL := AT.v.lt
  have LS : Hid (∀ u : World, Below E.heap.size E u → Calls Tryz.prog 50 #[.pointer (some ⟨w.heap.size, 0, none⟩)] u fun e w' => e = .returned (.int .i64 (sdF z r m k i sh ot p)) ∧ Below u.heap.size u w') := fun u h => l9Signed_any w.heap.size z r m k i a b c ca cb cc sh ot p u (AT.below h) h1 h2 h3
  have K4 := KeptW.cell (W := E) (b := w.heap.size) (o := 4) (v := .int .i64 i) ((AT.v.cell 4).trans rfl) VL
  have K5 := KeptW.cell (W := E) (b := w.heap.size) (o := 5) (v := .slice a sh.length ca) ((AT.v.cell 5).trans rfl) VL
  have K6 := KeptW.cell (W := E) (b := w.heap.size) (o := 6) (v := .slice b ot.length cb) ((AT.v.cell 6).trans rfl) VL
  have K7 := KeptW.cell (W := E) (b := w.heap.size) (o := 7) (v := .slice c p.length cc) ((AT.v.cell 7).trans rfl) VL
  have hne : Nonempty (KeptW E) := ⟨⟨E, Below.refl _ _⟩⟩
  have KB : Hid (∀ d : KeptW E, Below E.heap.size E d.wd) := fun d => d.hb
  have SU : Hid (sdF z r m k i sh ot p = 0 → ∀ u : World, Below E.heap.size E u → Calls Tryz.prog 52 #[.pointer (some ⟨w.heap.size, 0, none⟩)] u fun e w' => e = .returned (.int .i64 (hdV z r m k)) ∧ Below u.heap.size u w') := fun e u h => l9Sum_any w.heap.size z r m k u (AT.below h).hd (sdF_zero e).1
  have CK : Hid (∀ u : World, Below E.heap.size E u → Calls Tryz.prog 51 #[.agg #[.int .i64 i, .slice a sh.length ca, .slice b ot.length cb], .int .i64 (hdV z r m k), .int .i64 n, .slice c p.length cc, .int .i64 root] u fun r' w' => r' = .returned (.bool (ckB i sh ot (hdV z r m k) n p root)) ∧ Below u.heap.size u w') := fun u h => specCheckSign_any i (hdV z r m k) n root a b c ca cb cc sh ot p u ((AT.below h).s) ((AT.below h).o) ((AT.below h).p) h1 h2 h3 hcc hm hn
  have HB : Hid (chB root n z r m k i sh ot p = (decide (sdF z r m k i sh ot p = 0) && ckB i sh ot (hdV z r m k) n p root)) := rfl
  have FIN : Hid (∀ d : KeptW E, Below w.heap.size w d.wd) := fun d => BE.trans (d.hb.mono BE.size)
  generalize chB root n z r m k i sh ot p = RR at *
  generalize sdF z r m k i sh ot p = sd at *
  generalize ckB i sh ot (hdV z r m k) n p root = kk at *
  generalize hdV z r m k = hv at *
  clear hs ho hp AT hcc hm hn h1 h2 h3 BE
  by_cases q : sd = 0
  · have RB : Hid (RR = kk) := by show _ = _; rw [HB.out, decide_eq_true q]; rfl
    have SU1 := SU.out q
    have SUH : Hid (∀ u : World, Below E.heap.size E u → Calls Tryz.prog 52 #[.pointer (some ⟨w.heap.size, 0, none⟩)] u fun e w' => e = .returned (.int .i64 hv) ∧ Below u.heap.size u w') := SU1
    subst q
    clear SU SU1 HB
    go_enter Tryz.func17, Tryz.ntmps17
    go_upto_region 1 with fail
    simp only [← hE]
    clear hE
    refine wp_region_kept (by kernel_rfl) (by kernel_rfl) ?_
    iterate 14 (go_big_quiet_step (first | (go_at_call 50; exact KeptW.calls (LS.out _ (KB.out _))) | (go_at_call 52; exact KeptW.calls (SUH.out _ (KB.out _))) | (go_at_call 51; exact KeptW.calls (CK.out _ (KB.out _)))))
    refine wpQuiet_nil ?_
    rintro _ ⟨d, rfl⟩
    have FD := FIN.out d
    clear LS SUH CK FIN KB K4 K5 K6 K7
    go_wp2
    go_ret
    exact ⟨ret_bool RB.out.symm, FD⟩
  · have RB : Hid (RR = false) := by show _ = _; rw [HB.out, decide_eq_false q]; rfl
    have qb : (sd == 0) = false := by simpa using q
    clear SU HB CK q
    go_enter Tryz.func17, Tryz.ntmps17
    go_upto_region 1 with fail
    simp only [← hE]
    clear hE
    refine wp_region_kept (by kernel_rfl) (by kernel_rfl) ?_
    iterate 14 (go_big_quiet_step (first | (go_at_call 50; exact KeptW.calls (LS.out _ (KB.out _))) | fail))
    refine wpQuiet_nil ?_
    rintro _ ⟨d, rfl⟩
    have FD := FIN.out d
    clear LS FIN KB K4 K5 K6 K7
    go_wp2
    go_ret
    exact ⟨ret_bool RB.out.symm, FD⟩

end Go.Proofs.YtffidkoejlebeaaGreatDoor
