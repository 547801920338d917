/- Contracts of the model of chapter 8: KeySum, KeysRoot, SignSum, the fault of a signature, what opens it, whether it is taken. -/
import Derived.Test.YtncckpdglimdoaaDoorKySq
import Derived.Test.YtncckpdglimdoaaDoorRoot4S
namespace Go.Proofs.YtncckpdglimdoaaDoor
open Go.ChangeShapes Go.WideShapes Go.ChangeAt Go.RowKit
set_option maxRecDepth 100000
set_option linter.unusedVariables false
set_option linter.unusedSimpArgs false

set_option maxHeartbeats 2000000 in
theorem specKeySum_any (a : Option Addr) (c : Nat) (l : List Int) (w : World) (h : Has w .i64 a l.length l) (hl : l.length ≤ 1048576) :
    Calls Tryd.prog 21 #[.slice a l.length c] w fun r w' => r = .returned (.agg #[.int .i64 (kyC l), .int .i64 (kyV l)]) ∧ Below w.heap.size w w' := by
  obtain ⟨E, hE⟩ : ∃ E, E = w.alloc (.cells #[.int .i64 0, .int .i64 0] 38) := ⟨_, rfl⟩
  have zE : E.heap.size = w.heap.size + 1 := by rw [hE]; simp
  have B0 : Below w.heap.size w E := by rw [hE]; exact (Below.refl _ _).alloc (Nat.le_refl _) _
  have RE : Blk E w.heap.size #[.int .i64 0, .int .i64 0] 38 := by rw [hE]; exact Blk.new _ _ _
  have h' : Has E .i64 a l.length l := h.below B0 (Nat.le_refl _)
  by_cases h32 : l.length = 32
  · have e32 : ((l.length : Int) != 32) = false := by simp; omega
    have AL := fun u hu => l1All_any a c l u hu hl
    cases ha : allS l with
    | false =>
      have HC : Hid (kyC l = 3 ∧ kyV l = 0) := by
        have e : kyC l = 3 := by unfold kyC suF; rw [if_pos h32, ha]; rfl
        exact ⟨e, by unfold kyV; rw [if_neg (by omega)]⟩
      simp only [ha] at AL
      have k0 : E.cell? ⟨w.heap.size, 0, none⟩ = some (.int .i64 0) := (RE.cell 0).trans rfl
      have k1 : E.cell? ⟨w.heap.size, 1, none⟩ = some (.int .i64 0) := (RE.cell 1).trans rfl
      have f0 := RE.frozen 0
      have f1 := RE.frozen 1
      clear h32
      go_enter Tryd.func21, Tryd.ntmps21
      go_wp2_with fail
      simp only [← hE]
      clear hE
      refine (AL _ h').mono ?_
      rintro r u ⟨rfl, hu⟩; have hu2 := hu.symm; subst hu2; clear hu
      go_wp2
      refine bodyPost_ret (v := .agg #[.int .i64 3, .int .i64 0]) (by simp [results, Tryd.results21, go_sem, k0, k1]) rfl ⟨by rw [HC.out.1, HC.out.2], ?_⟩
      exact spec_set2 B0 (Nat.le_refl _) (Nat.le_refl _) _ _
    | true =>
      have HC : Hid (kyC l = 0 ∧ kyV l = keyS l) := ⟨kyC_of h32 ha, kyV_of h32 ha⟩
      have KS : Hid (∀ u : World, Has u .i64 a l.length l → Calls Tryd.prog 71 #[.slice a l.length c] u fun r w' => r = .returned (.int .i64 (keyS l)) ∧ Below u.heap.size u w') := fun u hu => l8KeySum_any a c l u hu (by omega) (by omega) ha
      simp only [ha] at AL
      generalize keyS l = x at *
      clear h32
      go_enter Tryd.func21, Tryd.ntmps21
      go_wp2_with fail
      simp only [← hE]
      clear hE
      refine (AL _ h').mono ?_
      rintro r u ⟨rfl, hu⟩; have hu2 := hu.symm; subst hu2; clear hu
      go_wp2_with fail
      refine (KS.out _ h').mono ?_
      rintro r u1 ⟨rfl, hb1⟩
      have B1 := B0.trans (hb1.mono B0.size)
      have R1 := RE.below hb1 RE.lt
      have k0 : u1.cell? ⟨w.heap.size, 0, none⟩ = some (.int .i64 0) := (R1.cell 0).trans rfl
      have k1 : u1.cell? ⟨w.heap.size, 1, none⟩ = some (.int .i64 0) := (R1.cell 1).trans rfl
      have f0 := R1.frozen 0
      have f1 := R1.frozen 1
      clear R1 hb1
      go_wp2
      refine bodyPost_ret (v := .agg #[.int .i64 0, .int .i64 x]) (by simp [results, Tryd.results21, go_sem, k0, k1]) rfl ⟨by rw [HC.out.1, HC.out.2], ?_⟩
      exact spec_set2 B1 (Nat.le_refl _) (Nat.le_refl _) _ _
  · have e32 : ((l.length : Int) != 32) = true := by simp; omega
    have HC : Hid (kyC l = 2 ∧ kyV l = 0) := by
      have e : kyC l = 2 := by unfold kyC; rw [if_neg h32]
      exact ⟨e, by unfold kyV; rw [if_neg (by omega)]⟩
    clear h32 RE h' zE
    subst hE
    go_enter Tryd.func21, Tryd.ntmps21
    go_wp2
    refine bodyPost_ret (v := .agg #[.int .i64 2, .int .i64 0]) (by simp [results, Tryd.results21, go_sem]) rfl ⟨by rw [HC.out.1, HC.out.2], ?_⟩
    repeat (first | exact Below.refl _ _ | refine Below.alloc ?_ (by (try simp) <;> omega) _ | refine Below.setCell ?_ (by (try simp) <;> omega) _)

set_option maxHeartbeats 2000000 in
theorem specKeysRoot_any (s n : Int) (w : World) :
    Calls Tryd.prog 36 #[.int .i64 s, .int .i64 n] w fun r w' => r = .returned (.agg #[.int .i64 (krC s n), .int .i64 (krV s n)]) ∧ Below w.heap.size w w' := by
  obtain ⟨E, hE⟩ : ∃ E, E = w.alloc (.cells #[.int .i64 0, .int .i64 0] 38) := ⟨_, rfl⟩
  have zE : E.heap.size = w.heap.size + 1 := by rw [hE]; simp
  have B0 : Below w.heap.size w E := by rw [hE]; exact (Below.refl _ _).alloc (Nat.le_refl _) _
  have RE : Blk E w.heap.size #[.int .i64 0, .int .i64 0] 38 := by rw [hE]; exact Blk.new _ _ _
  have IS := fun u => in_any s 0 999 u
  have IN := fun u => in_any n 1 8 u
  have e0 : krOk s n = (decide (0 ≤ s ∧ s ≤ 999) && decide (1 ≤ n ∧ n ≤ 8)) := by
    unfold krOk
    rw [Bool.eq_iff_iff]
    simp only [Bool.and_eq_true, decide_eq_true_eq]
  have BAD : krOk s n = false → Hid (krC s n = 3 ∧ krV s n = 0) := fun h => by
    show _ ∧ _
    unfold krC krV; rw [h]; exact ⟨rfl, rfl⟩
  cases h1 : decide (0 ≤ s ∧ s ≤ 999) with
  | false =>
    have HC := BAD (by rw [e0, h1]; rfl)
    simp only [h1] at IS
    have k0 : E.cell? ⟨w.heap.size, 0, none⟩ = some (.int .i64 0) := (RE.cell 0).trans rfl
    have k1 : E.cell? ⟨w.heap.size, 1, none⟩ = some (.int .i64 0) := (RE.cell 1).trans rfl
    have f0 := RE.frozen 0
    have f1 := RE.frozen 1
    clear BAD e0 h1
    go_enter Tryd.func36, Tryd.ntmps36
    go_wp2_with fail
    simp only [← hE]
    clear hE
    refine (IS _).mono ?_
    rintro r u ⟨rfl, hu⟩; have hu2 := hu.symm; subst hu2; clear hu
    go_wp2
    refine bodyPost_ret (v := .agg #[.int .i64 3, .int .i64 0]) (by simp [results, Tryd.results36, go_sem, k0, k1]) rfl ⟨by rw [HC.out.1, HC.out.2], ?_⟩
    exact spec_set2 B0 (Nat.le_refl _) (Nat.le_refl _) _ _
  | true =>
    simp only [h1] at IS
    cases h2 : decide (1 ≤ n ∧ n ≤ 8) with
    | false =>
      have HC := BAD (by rw [e0, h1, h2]; rfl)
      simp only [h2] at IN
      have k0 : E.cell? ⟨w.heap.size, 0, none⟩ = some (.int .i64 0) := (RE.cell 0).trans rfl
      have k1 : E.cell? ⟨w.heap.size, 1, none⟩ = some (.int .i64 0) := (RE.cell 1).trans rfl
      have f0 := RE.frozen 0
      have f1 := RE.frozen 1
      clear BAD e0 h1 h2
      go_enter Tryd.func36, Tryd.ntmps36
      go_wp2_with fail
      simp only [← hE]
      clear hE
      refine (IS _).mono ?_
      rintro r u ⟨rfl, hu⟩; have hu2 := hu.symm; subst hu2; clear hu
      go_wp2_with fail
      refine (IN _).mono ?_
      rintro r u ⟨rfl, hu⟩; have hu2 := hu.symm; subst hu2; clear hu
      go_wp2
      refine bodyPost_ret (v := .agg #[.int .i64 3, .int .i64 0]) (by simp [results, Tryd.results36, go_sem, k0, k1]) rfl ⟨by rw [HC.out.1, HC.out.2], ?_⟩
      exact spec_set2 B0 (Nat.le_refl _) (Nat.le_refl _) _ _
    | true =>
      have hok : krOk s n = true := by rw [e0, h1, h2]; rfl
      have HC : Hid (krC s n = 0 ∧ krV s n = rtM nS 11 (keysL s n.toNat)) := by show _ ∧ _; unfold krC krV; rw [hok]; exact ⟨rfl, rfl⟩
      simp only [h2] at IN
      obtain ⟨s0, s1⟩ := of_decide_eq_true h1
      obtain ⟨n0, n1⟩ := of_decide_eq_true h2
      obtain ⟨N, rfl⟩ : ∃ N : Nat, n = N := ⟨n.toNat, by omega⟩
      have KY : Hid (∀ u : World, Calls Tryd.prog 84 #[.int .i64 s, .int .i64 N] u fun r w' => ∃ a' c', r = .returned (.slice a' (keysL s N).length c') ∧ OwnN w' u.heap.size (.slice a' (keysL s N).length c') (keysL s N) ∧ Below u.heap.size u w') := fun u => l8Keys_any s N u ⟨s0, s1⟩ (by omega)
      have RT : Hid (∀ (x : Option Addr) (c : Nat) (u : World), Has u .i64 x (keysL s N).length (keysL s N) → (keysL s N).length ≤ c → c ≤ maxLen → Calls Tryd.prog 89 #[.slice x (keysL s N).length c] u fun r w' => r = .returned (.int .i64 (rtM nS 11 (keysL s N))) ∧ Below u.heap.size u w') := fun x c u hu h1 h2 => l4Root_any _ x c _ u (Nat.le_refl _) (by rw [keysL_len]; omega) (keysL_all _ _) hu h1 h2
      have WF : Hid (∀ x ∈ keysL s N, (Lit.int .i64 x).wf = true) := allS_wf (keysL_all s N)
      have eN : (N : Int).toNat = N := Int.toNat_natCast N
      rw [eN] at HC
      generalize rtM nS 11 (keysL s N) = x at *
      generalize keysL s N = ks at *
      clear BAD e0 h1 h2 hok eN n0 n1
      go_enter Tryd.func36, Tryd.ntmps36
      go_wp2_with fail
      simp only [← hE]
      clear hE
      refine (IS _).mono ?_
      rintro r u ⟨rfl, hu⟩; have hu2 := hu.symm; subst hu2; clear hu
      go_wp2_with fail
      refine (IN _).mono ?_
      rintro r u ⟨rfl, hu⟩; have hu2 := hu.symm; subst hu2; clear hu
      go_wp2_with fail
      refine (KY.out _).mono ?_
      rintro r u1 ⟨a1, c1, rfl, O1, hb1⟩
      obtain ⟨_, _, e1, g1, g2⟩ := own_shape1 O1
      simp at e1
      obtain ⟨rfl, rfl⟩ := e1
      have B1 := B0.trans (hb1.mono B0.size)
      have R1 := RE.below hb1 RE.lt
      have H1 := RT.out a1 c1 _ (has_of_own O1 WF.out) g1 g2
      clear O1 hb1 g1 g2
      go_wp2_with fail
      refine H1.mono ?_
      rintro r u2 ⟨rfl, hb2⟩
      have B2 := B1.trans (hb2.mono B1.size)
      have R2 := R1.below hb2 R1.lt
      have k0 : u2.cell? ⟨w.heap.size, 0, none⟩ = some (.int .i64 0) := (R2.cell 0).trans rfl
      have k1 : u2.cell? ⟨w.heap.size, 1, none⟩ = some (.int .i64 0) := (R2.cell 1).trans rfl
      have f0 := R2.frozen 0
      have f1 := R2.frozen 1
      clear R1 R2 hb2
      go_wp2
      refine bodyPost_ret (v := .agg #[.int .i64 0, .int .i64 x]) (by simp [results, Tryd.results36, go_sem, k0, k1]) rfl ⟨by rw [HC.out.1, HC.out.2], ?_⟩
      exact spec_set2 B2 (Nat.le_refl _) (Nat.le_refl _) _ _

set_option maxHeartbeats 2000000 in
theorem specSignSum_any (s i x : Int) (w : World) :
    Calls Tryd.prog 25 #[.int .i64 s, .int .i64 i, .int .i64 x] w fun r w' => ∃ a1 c1 a2 c2, r = .returned (.agg #[.int .i64 (ssC s i x), .int .i64 (ssI s i x), .slice a1 (ssS s i x).length c1, .slice a2 (ssO s i x).length c2]) ∧ OwnN w' w.heap.size (.slice a1 (ssS s i x).length c1) (ssS s i x) ∧ OwnN w' w.heap.size (.slice a2 (ssO s i x).length c2) (ssO s i x) ∧ (∀ y z, a1 = some y → a2 = some z → y.block ≠ z.block) ∧ Below w.heap.size w w' := by
  obtain ⟨E, hE⟩ : ∃ E, E = w.alloc (.cells #[.int .i64 0, .int .i64 0, .slice none 0 0, .slice none 0 0] 30) := ⟨_, rfl⟩
  have zE : E.heap.size = w.heap.size + 1 := by rw [hE]; simp
  have B0 : Below w.heap.size w E := by rw [hE]; exact (Below.refl _ _).alloc (Nat.le_refl _) _
  have RE : Blk E w.heap.size #[.int .i64 0, .int .i64 0, .slice none 0 0, .slice none 0 0] 30 := by rw [hE]; exact Blk.new _ _ _
  have IS := fun u => l8Is_any s i u
  have IX := fun u => l2Is_any x u
  have e0 : ssOk s i x = (siOk s i && decide (0 ≤ x ∧ x ≤ 65520)) := by
    unfold ssOk siOk
    rw [Bool.eq_iff_iff]
    simp only [Bool.and_eq_true, decide_eq_true_eq]
    exact ⟨fun h => ⟨⟨h.1, h.2.1⟩, h.2.2⟩, fun h => ⟨h.1.1, h.1.2, h.2⟩⟩
  have BAD : ssOk s i x = false → Hid (ssC s i x = 3 ∧ ssI s i x = 0 ∧ ssS s i x = [] ∧ ssO s i x = []) := fun h => by
    show _ ∧ _
    unfold ssC ssI ssS ssO; rw [h]; exact ⟨rfl, rfl, rfl, rfl⟩
  cases h1 : siOk s i with
  | false =>
    have HC := BAD (by rw [e0, h1]; rfl)
    simp only [h1] at IS
    have k0 : E.cell? ⟨w.heap.size, 0, none⟩ = some (.int .i64 0) := (RE.cell 0).trans rfl
    have k1 : E.cell? ⟨w.heap.size, 1, none⟩ = some (.int .i64 0) := (RE.cell 1).trans rfl
    have k2 : E.cell? ⟨w.heap.size, 2, none⟩ = some (.slice none 0 0) := (RE.cell 2).trans rfl
    have k3 : E.cell? ⟨w.heap.size, 3, none⟩ = some (.slice none 0 0) := (RE.cell 3).trans rfl
    have f0 := RE.frozen 0
    have f1 := RE.frozen 1
    have f2 := RE.frozen 2
    have f3 := RE.frozen 3
    clear BAD e0 h1
    go_enter Tryd.func25, Tryd.ntmps25
    go_wp2_with fail
    simp only [← hE]
    clear hE
    refine (IS _).mono ?_
    rintro r u ⟨rfl, hu⟩; have hu2 := hu.symm; subst hu2; clear hu
    go_wp2
    refine bodyPost_ret (v := .agg #[.int .i64 3, .int .i64 0, .slice none 0 0, .slice none 0 0]) (by simp [results, Tryd.results25, go_sem, k0, k1, k2, k3]) rfl ⟨none, 0, none, 0, by rw [HC.out.1, HC.out.2.1, HC.out.2.2.1, HC.out.2.2.2]; rfl, by rw [HC.out.2.2.1]; exact nil_ownN _ _, by rw [HC.out.2.2.2]; exact nil_ownN _ _, (fun y z e => by cases e), ?_⟩
    exact spec_set2 (spec_set2 B0 (Nat.le_refl _) (Nat.le_refl _) _ _) (Nat.le_refl _) (Nat.le_refl _) _ _
  | true =>
    simp only [h1] at IS
    cases h2 : decide (0 ≤ x ∧ x ≤ 65520) with
    | false =>
      have HC := BAD (by rw [e0, h1, h2]; rfl)
      simp only [h2] at IX
      have k0 : E.cell? ⟨w.heap.size, 0, none⟩ = some (.int .i64 0) := (RE.cell 0).trans rfl
      have k1 : E.cell? ⟨w.heap.size, 1, none⟩ = some (.int .i64 0) := (RE.cell 1).trans rfl
      have k2 : E.cell? ⟨w.heap.size, 2, none⟩ = some (.slice none 0 0) := (RE.cell 2).trans rfl
      have k3 : E.cell? ⟨w.heap.size, 3, none⟩ = some (.slice none 0 0) := (RE.cell 3).trans rfl
      have f0 := RE.frozen 0
      have f1 := RE.frozen 1
      have f2 := RE.frozen 2
      have f3 := RE.frozen 3
      clear BAD e0 h1 h2
      go_enter Tryd.func25, Tryd.ntmps25
      go_wp2_with fail
      simp only [← hE]
      clear hE
      refine (IS _).mono ?_
      rintro r u ⟨rfl, hu⟩; have hu2 := hu.symm; subst hu2; clear hu
      go_wp2_with fail
      refine (IX _).mono ?_
      rintro r u ⟨rfl, hu⟩; have hu2 := hu.symm; subst hu2; clear hu
      go_wp2
      refine bodyPost_ret (v := .agg #[.int .i64 3, .int .i64 0, .slice none 0 0, .slice none 0 0]) (by simp [results, Tryd.results25, go_sem, k0, k1, k2, k3]) rfl ⟨none, 0, none, 0, by rw [HC.out.1, HC.out.2.1, HC.out.2.2.1, HC.out.2.2.2]; rfl, by rw [HC.out.2.2.1]; exact nil_ownN _ _, by rw [HC.out.2.2.2]; exact nil_ownN _ _, (fun y z e => by cases e), ?_⟩
      exact spec_set2 (spec_set2 B0 (Nat.le_refl _) (Nat.le_refl _) _ _) (Nat.le_refl _) (Nat.le_refl _) _ _
    | true =>
      have hok : ssOk s i x = true := by rw [e0, h1, h2]; rfl
      have HC : Hid (ssC s i x = 0 ∧ ssI s i x = i ∧ ssS s i x = shW s i x (List.range 16) ∧ ssO s i x = otW s i x (List.range 16)) := by show _ ∧ _; unfold ssC ssI ssS ssO; rw [hok]; exact ⟨rfl, rfl, rfl, rfl⟩
      simp only [h2] at IX
      unfold siOk at h1
      have h1' := of_decide_eq_true h1
      have h2' := of_decide_eq_true h2
      have SG : Hid (∀ u : World, Calls Tryd.prog 74 #[.int .i64 s, .int .i64 i, .int .i64 x] u fun r w' => ∃ a1 c1 a2 c2, r = .returned (.agg #[.int .i64 i, .slice a1 (shW s i x (List.range 16)).length c1, .slice a2 (otW s i x (List.range 16)).length c2]) ∧ OwnN w' u.heap.size (.slice a1 (shW s i x (List.range 16)).length c1) (shW s i x (List.range 16)) ∧ OwnN w' u.heap.size (.slice a2 (otW s i x (List.range 16)).length c2) (otW s i x (List.range 16)) ∧ (∀ y z, a1 = some y → a2 = some z → y.block ≠ z.block) ∧ Below u.heap.size u w') := fun u => l8Sign_any s i x u h1'.1 h1'.2 h2'
      generalize shW s i x (List.range 16) = sh at *
      generalize otW s i x (List.range 16) = ot at *
      clear BAD e0 h1 h2 hok h1' h2'
      go_enter Tryd.func25, Tryd.ntmps25
      go_wp2_with fail
      simp only [← hE]
      clear hE
      refine (IS _).mono ?_
      rintro r u ⟨rfl, hu⟩; have hu2 := hu.symm; subst hu2; clear hu
      go_wp2_with fail
      refine (IX _).mono ?_
      rintro r u ⟨rfl, hu⟩; have hu2 := hu.symm; subst hu2; clear hu
      go_wp2_with fail
      refine (SG.out _).mono ?_
      rintro r u1 ⟨a1, c1, a2, c2, rfl, O1, O2, hap, hb1⟩
      have B1 := B0.trans (hb1.mono B0.size)
      have R1 := RE.below hb1 RE.lt
      have k0 : u1.cell? ⟨w.heap.size, 0, none⟩ = some (.int .i64 0) := (R1.cell 0).trans rfl
      have k1 : u1.cell? ⟨w.heap.size, 1, none⟩ = some (.int .i64 0) := (R1.cell 1).trans rfl
      have k2 : u1.cell? ⟨w.heap.size, 2, none⟩ = some (.slice none 0 0) := (R1.cell 2).trans rfl
      have k3 : u1.cell? ⟨w.heap.size, 3, none⟩ = some (.slice none 0 0) := (R1.cell 3).trans rfl
      have f0 := R1.frozen 0
      have f1 := R1.frozen 1
      have f2 := R1.frozen 2
      have f3 := R1.frozen 3
      have OH1 : Hid (OwnN _ _ _ _) := O1
      have OH2 : Hid (OwnN _ _ _ _) := O2
      have HA : Hid (∀ y z, a1 = some y → a2 = some z → y.block ≠ z.block) := hap
      clear R1 hb1 O1 O2 hap
      go_wp2
      refine bodyPost_ret (v := .agg #[.int .i64 0, .int .i64 i, .slice a1 sh.length c1, .slice a2 ot.length c2]) (by simp [results, Tryd.results25, go_sem, k0, k1, k2, k3]) rfl ⟨a1, c1, a2, c2, by rw [HC.out.1, HC.out.2.1, HC.out.2.2.1, HC.out.2.2.2], ?_, ?_, HA.out, ?_⟩
      · rw [HC.out.2.2.1]
        exact own_mono (own_set (own_set (own_set (own_set OH1.out (by omega) _) (by omega) _) (by omega) _) (by omega) _) (by omega)
      · rw [HC.out.2.2.2]
        exact own_mono (own_set (own_set (own_set (own_set OH2.out (by omega) _) (by omega) _) (by omega) _) (by omega) _) (by omega)
      · exact spec_set2 (spec_set2 B1 (Nat.le_refl _) (Nat.le_refl _) _ _) (Nat.le_refl _) (Nat.le_refl _) _ _

end Go.Proofs.YtncckpdglimdoaaDoor
