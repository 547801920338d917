/- Contracts of the model of chapter 8: SecretOf, PublicOf, KeySum, KeysRoot, SignSum, the fault of a signature, what it opens. -/
import Derived.Test.YtncckpdglimdoaaDoorKySg
namespace Go.Proofs.YtncckpdglimdoaaDoor
open Go.ChangeShapes Go.WideShapes Go.ChangeAt Go.RowKit
set_option maxRecDepth 100000
set_option linter.unusedVariables false
set_option linter.unusedSimpArgs false

theorem spec_set2 {w u : World} {B : Nat} (h : Below B w u) {p q : Addr} (hp : B ≤ p.block) (hq : B ≤ q.block) (x y : Value) : Below B w ((u.setCell p x).setCell q y) := (h.setCell hp _).setCell hq _

set_option maxHeartbeats 2000000 in
theorem specSecretOf_any (s i b d : Int) (w : World) :
    Calls Tryd.prog 19 #[.int .i64 s, .int .i64 i, .int .i64 b, .int .i64 d] w fun r w' => r = .returned (.agg #[.int .i64 (seC s i b d), .int .i64 (seV s i b d)]) ∧ Below w.heap.size w w' := by
  obtain ⟨E, hE⟩ : ∃ E, E = w.alloc (.cells #[.int .i64 0, .int .i64 0] 38) := ⟨_, rfl⟩
  have B0 : Below w.heap.size w E := by rw [hE]; exact (Below.refl _ _).alloc (Nat.le_refl _) _
  have RE : Blk E w.heap.size #[.int .i64 0, .int .i64 0] 38 := by rw [hE]; exact Blk.new _ _ _
  have IS := fun u => l8Is_any s i u
  have k0 : E.cell? ⟨w.heap.size, 0, none⟩ = some (.int .i64 0) := (RE.cell 0).trans rfl
  have k1 : E.cell? ⟨w.heap.size, 1, none⟩ = some (.int .i64 0) := (RE.cell 1).trans rfl
  have f0 := RE.frozen 0
  have f1 := RE.frozen 1
  have BAD : seOk s i b d = false → Hid (seC s i b d = 3 ∧ seV s i b d = 0) := fun h => by
    show _ ∧ _
    unfold seC seV; rw [h]; exact ⟨rfl, rfl⟩
  have e0 : seOk s i b d = (siOk s i && (decide (0 ≤ b ∧ b ≤ 15) && decide (0 ≤ d ∧ d ≤ 1))) := by
    unfold seOk siOk
    rw [Bool.eq_iff_iff]
    simp only [Bool.and_eq_true, decide_eq_true_eq]
    exact ⟨fun h => ⟨⟨h.1, h.2.1⟩, h.2.2⟩, fun h => ⟨h.1.1, h.1.2, h.2⟩⟩
  cases h1 : siOk s i with
  | false =>
    have HB := BAD (by rw [e0, h1]; rfl)
    simp only [h1] at IS
    clear BAD e0 h1
    go_enter Tryd.func19, Tryd.ntmps19
    go_wp2_with fail
    simp only [← hE]
    clear hE
    refine (IS _).mono ?_
    rintro r u ⟨rfl, hu⟩; have hu2 := hu.symm; subst hu2; clear hu
    go_wp2
    refine bodyPost_ret (v := .agg #[.int .i64 3, .int .i64 0]) (by simp [results, Tryd.results19, go_sem, k0, k1]) rfl ⟨by rw [HB.out.1, HB.out.2], ?_⟩
    exact spec_set2 B0 (Nat.le_refl _) (Nat.le_refl _) _ _
  | true =>
    simp only [h1] at IS
    have IB := fun u => in_any b 0 15 u
    cases hb : decide (0 ≤ b ∧ b ≤ 15) with
    | false =>
      have HB := BAD (by rw [e0, hb, h1]; rfl)
      simp only [hb] at IB
      clear BAD e0 h1 hb
      go_enter Tryd.func19, Tryd.ntmps19
      go_wp2_with fail
      simp only [← hE]
      clear hE
      refine (IS _).mono ?_
      rintro r u ⟨rfl, hu⟩; have hu2 := hu.symm; subst hu2; clear hu
      go_wp2_with fail
      refine (IB _).mono ?_
      rintro r u ⟨rfl, hu⟩; have hu2 := hu.symm; subst hu2; clear hu
      go_wp2
      refine bodyPost_ret (v := .agg #[.int .i64 3, .int .i64 0]) (by simp [results, Tryd.results19, go_sem, k0, k1]) rfl ⟨by rw [HB.out.1, HB.out.2], ?_⟩
      exact spec_set2 B0 (Nat.le_refl _) (Nat.le_refl _) _ _
    | true =>
      simp only [hb] at IB
      have ID := fun u => in_any d 0 1 u
      cases hd : decide (0 ≤ d ∧ d ≤ 1) with
      | false =>
        have HB := BAD (by rw [e0, hd, hb, h1]; rfl)
        simp only [hd] at ID
        clear BAD e0 h1 hb hd
        go_enter Tryd.func19, Tryd.ntmps19
        go_wp2_with fail
        simp only [← hE]
        clear hE
        refine (IS _).mono ?_
        rintro r u ⟨rfl, hu⟩; have hu2 := hu.symm; subst hu2; clear hu
        go_wp2_with fail
        refine (IB _).mono ?_
        rintro r u ⟨rfl, hu⟩; have hu2 := hu.symm; subst hu2; clear hu
        go_wp2_with fail
        refine (ID _).mono ?_
        rintro r u ⟨rfl, hu⟩; have hu2 := hu.symm; subst hu2; clear hu
        go_wp2
        refine bodyPost_ret (v := .agg #[.int .i64 3, .int .i64 0]) (by simp [results, Tryd.results19, go_sem, k0, k1]) rfl ⟨by rw [HB.out.1, HB.out.2], ?_⟩
        exact spec_set2 B0 (Nat.le_refl _) (Nat.le_refl _) _ _
      | true =>
        have hok : seOk s i b d = true := by rw [e0, hd, hb, h1]; rfl
        have HV : Hid (seC s i b d = 0 ∧ seV s i b d = secV s i b d) := by show _ ∧ _; unfold seC seV; rw [hok]; exact ⟨rfl, rfl⟩
        simp only [hd] at ID
        unfold seOk at hok
        have hok' := of_decide_eq_true hok
        have SE : Hid (∀ u : World, Calls Tryd.prog 65 #[.int .i64 s, .int .i64 i, .int .i64 b, .int .i64 d] u fun r w' => r = .returned (.int .i64 (secV s i b d)) ∧ Below u.heap.size u w') := fun u => l8Secret_any s i b d u hok'.1 hok'.2.1 hok'.2.2.1 hok'.2.2.2
        generalize secV s i b d = x at *
        clear BAD e0 h1 hb hd hok hok' k0 k1 f0 f1
        go_enter Tryd.func19, Tryd.ntmps19
        go_wp2_with fail
        simp only [← hE]
        clear hE
        refine (IS _).mono ?_
        rintro r u ⟨rfl, hu⟩; have hu2 := hu.symm; subst hu2; clear hu
        go_wp2_with fail
        refine (IB _).mono ?_
        rintro r u ⟨rfl, hu⟩; have hu2 := hu.symm; subst hu2; clear hu
        go_wp2_with fail
        refine (ID _).mono ?_
        rintro r u ⟨rfl, hu⟩; have hu2 := hu.symm; subst hu2; clear hu
        go_wp2_with fail
        refine (SE.out _).mono ?_
        rintro r u1 ⟨rfl, hb1⟩
        have B1 := B0.trans (hb1.mono B0.size)
        have R1 := RE.below hb1 RE.lt
        have k0 : u1.cell? ⟨w.heap.size, 0, none⟩ = some (.int .i64 0) := (R1.cell 0).trans rfl
        have k1 : u1.cell? ⟨w.heap.size, 1, none⟩ = some (.int .i64 0) := (R1.cell 1).trans rfl
        have f0 := R1.frozen 0
        have f1 := R1.frozen 1
        clear R1 hb1
        go_wp2
        refine bodyPost_ret (v := .agg #[.int .i64 0, .int .i64 x]) (by simp [results, Tryd.results19, go_sem, k0, k1]) rfl ⟨by rw [HV.out.1, HV.out.2], ?_⟩
        exact spec_set2 B1 (Nat.le_refl _) (Nat.le_refl _) _ _

set_option maxHeartbeats 2000000 in
theorem specPublicOf_any (s i : Int) (w : World) :
    Calls Tryd.prog 23 #[.int .i64 s, .int .i64 i] w fun r w' => ∃ a' c', r = .returned (.agg #[.int .i64 (pkC s i), .slice a' (pkL s i).length c']) ∧ OwnN w' w.heap.size (.slice a' (pkL s i).length c') (pkL s i) ∧ Below w.heap.size w w' := by
  obtain ⟨E, hE⟩ : ∃ E, E = w.alloc (.cells #[.int .i64 0, .slice none 0 0] 42) := ⟨_, rfl⟩
  have zE : E.heap.size = w.heap.size + 1 := by rw [hE]; simp
  have B0 : Below w.heap.size w E := by rw [hE]; exact (Below.refl _ _).alloc (Nat.le_refl _) _
  have RE : Blk E w.heap.size #[.int .i64 0, .slice none 0 0] 42 := by rw [hE]; exact Blk.new _ _ _
  have IS := fun u => l8Is_any s i u
  cases h1 : siOk s i with
  | false =>
    have HC : Hid (pkC s i = 3 ∧ pkL s i = []) := by show _ ∧ _; unfold pkC pkL; rw [h1]; exact ⟨rfl, rfl⟩
    simp only [h1] at IS
    have k0 : E.cell? ⟨w.heap.size, 0, none⟩ = some (.int .i64 0) := (RE.cell 0).trans rfl
    have k1 : E.cell? ⟨w.heap.size, 1, none⟩ = some (.slice none 0 0) := (RE.cell 1).trans rfl
    have f0 := RE.frozen 0
    have f1 := RE.frozen 1
    clear h1
    go_enter Tryd.func23, Tryd.ntmps23
    go_wp2_with fail
    simp only [← hE]
    clear hE
    refine (IS _).mono ?_
    rintro r u ⟨rfl, hu⟩; have hu2 := hu.symm; subst hu2; clear hu
    go_wp2
    refine bodyPost_ret (v := .agg #[.int .i64 3, .slice none 0 0]) (by simp [results, Tryd.results23, go_sem, k0, k1]) rfl ⟨none, 0, by rw [HC.out.1, HC.out.2]; rfl, by rw [HC.out.2]; exact nil_ownN _ _, ?_⟩
    exact spec_set2 B0 (Nat.le_refl _) (Nat.le_refl _) _ _
  | true =>
    have HC : Hid (pkC s i = 0 ∧ pkL s i = pubL s i) := by show _ ∧ _; unfold pkC pkL; rw [h1]; exact ⟨rfl, rfl⟩
    simp only [h1] at IS
    unfold siOk at h1
    have h1' := of_decide_eq_true h1
    have PB : Hid (∀ u : World, Calls Tryd.prog 61 #[.int .i64 s, .int .i64 i] u fun r w' => ∃ a' c', r = .returned (.slice a' (pubL s i).length c') ∧ OwnN w' u.heap.size (.slice a' (pubL s i).length c') (pubL s i) ∧ Below u.heap.size u w') := fun u => l8Public_any s i u h1'.1 h1'.2
    generalize pubL s i = ps at *
    clear h1 h1'
    go_enter Tryd.func23, Tryd.ntmps23
    go_wp2_with fail
    simp only [← hE]
    clear hE
    refine (IS _).mono ?_
    rintro r u ⟨rfl, hu⟩; have hu2 := hu.symm; subst hu2; clear hu
    go_wp2_with fail
    refine (PB.out _).mono ?_
    rintro r u1 ⟨a1, c1, rfl, O1, hb1⟩
    have B1 := B0.trans (hb1.mono B0.size)
    have R1 := RE.below hb1 RE.lt
    have k0 : u1.cell? ⟨w.heap.size, 0, none⟩ = some (.int .i64 0) := (R1.cell 0).trans rfl
    have k1 : u1.cell? ⟨w.heap.size, 1, none⟩ = some (.slice none 0 0) := (R1.cell 1).trans rfl
    have f0 := R1.frozen 0
    have f1 := R1.frozen 1
    have OH : Hid (OwnN _ _ _ _) := O1
    clear R1 hb1 O1
    go_wp2
    refine bodyPost_ret (v := .agg #[.int .i64 0, .slice a1 ps.length c1]) (by simp [results, Tryd.results23, go_sem, k0, k1]) rfl ⟨a1, c1, by rw [HC.out.1, HC.out.2], ?_, ?_⟩
    · rw [HC.out.2]
      exact own_mono (own_set (own_set OH.out (by omega) _) (by omega) _) (by omega)
    · exact spec_set2 B1 (Nat.le_refl _) (Nat.le_refl _) _ _

end Go.Proofs.YtncckpdglimdoaaDoor
