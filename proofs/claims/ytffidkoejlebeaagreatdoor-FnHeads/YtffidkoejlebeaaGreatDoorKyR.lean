/- Contracts of the program's chapter 8: KeysRoot, SecretOf, PublicOf, the fault of a signature. -/
import Derived.Test.YtffidkoejlebeaaGreatDoorKyT
import Derived.Test.YtffidkoejlebeaaGreatDoorRegB
import Derived.Test.YtffidkoejlebeaaGreatDoorIRootP
namespace Go.Proofs.YtffidkoejlebeaaGreatDoor
open Go.ChangeShapes Go.WideShapes Go.ChangeAt Go.RowKit
set_option maxRecDepth 100000
set_option linter.unusedVariables false
set_option linter.unusedSimpArgs false

theorem lit_newM (w : World) (xs : List Value) (T : Nat) : ∀ (j : Nat) (u : Value), xs[j]? = some u → (w.alloc (.cells xs.toArray T)).cell? ((⟨w.heap.size, 0, none⟩ : Addr).add j) = some u := by
  intro j u hj
  have h := (Blk.new w xs.toArray T).cell j
  rw [List.getElem?_toArray, hj] at h
  by_cases h0 : j = 0
  · subst h0; simpa [Addr.add] using h
  · simpa [Addr.add, h0] using h

set_option maxHeartbeats 2000000 in
theorem keySumsOf_any (s : Int) (N : Nat) (w : World) (hT : Tab w) (hs : 0 ≤ s ∧ s ≤ 999) (hN : N ≤ 8) :
    Calls Tryz.prog 60 #[.int .i64 s, .int .i64 N] w fun r w' => ∃ a' c', r = .returned (.slice a' (keysL s N).length c') ∧ OwnM w' w.heap.size (.slice a' (keysL s N).length c') (keysL s N) ∧ Below w.heap.size w w' := by
  obtain ⟨i0, hi, hz0, hz1, hz2⟩ := info_parts info64
  have PB : Hid (∀ (n : Nat) (u : World), n < 8 → Below w.heap.size w u → Calls Tryz.prog 96 #[.int .i64 s, .int .i64 n] u fun r w' => ∃ a' c', r = .returned (.slice a' (pubL s n).length c') ∧ OwnM w' u.heap.size (.slice a' (pubL s n).length c') (pubL s n) ∧ Below u.heap.size u w') := fun n u h hu => publicOf_any s n u (hT.below hu (Nat.le_refl _)) hs (by omega)
  have KS : Hid (∀ (n : Nat) (a : Option Addr) (c : Nat) (u : World), Below w.heap.size w u → Has u .i64 a (pubL s n).length (pubL s n) → Calls Tryz.prog 95 #[.slice a (pubL s n).length c] u fun r w' => r = .returned (.agg #[.int .i64 0, .int .i64 (keyS (pubL s n))]) ∧ Below u.heap.size u w') := fun n a c u hu h => by
    have := implKeySum_any a c _ u (hT.below hu (Nat.le_refl _)) h (by rw [pubL_len]; omega)
    rw [kyC_of (pubL_len s n) (pubL_all s n), kyV_of (pubL_len s n) (pubL_all s n)] at this
    exact this
  have WF : Hid (∀ n : Nat, ∀ x ∈ pubL s n, (Lit.int .i64 x).wf = true) := fun n => allS_wf (pubL_all s n)
  have SU : Hid (∀ n, keysL s (n + 1) = keysL s n ++ [keyS (pubL s n)]) := fun n => keysL_succ s n
  have LN : Hid (∀ n, (keysL s n).length = n) := fun n => keysL_len s n
  have F1 := fldK1
  clear hT
  go_enter Tryz.func60, Tryz.ntmps60
  go_wp2
  go_loopw [5, 8] (fun v b wr => ∃ n : Nat, n ≤ N ∧ b = .int .i64 n ∧ OwnM wr w.heap.size v (keysL s n) ∧ Below w.heap.size w wr) (fun _ b _ => N - (intOf b).toNat)
  case atStart => exact ⟨0, Nat.zero_le _, rfl, World.ownsRow_nil _ _ _ _, Below.refl _ _⟩
  case round =>
    obtain ⟨n, hn, rfl, hO, hbel⟩ := hrel
    obtain ⟨va, vc, rfl, _, _⟩ := own_shapeM hO
    have zr := hbel.size
    by_cases hlt : n < N
    · have hlt' : (n : Int) < (N : Int) := by omega
      have zl : (keysL s n).length ≤ 32 := by have := LN.out n; omega
      have HSU := SU.out n
      have P := PB.out n
      have K := KS.out n
      have W := WF.out n
      generalize keyS (pubL s n) = y at *
      generalize pubL s n = ps at *
      generalize keysL s n = zs at *
      have HS2 : Hid (keysL s (n + 1) = zs ++ [y]) := HSU
      have WH : Hid (∀ x ∈ ps, (Lit.int .i64 x).wf = true) := W
      clear HSU W
      go_wp2_with fail
      refine (P _ (by omega) hbel).mono ?_
      rintro r u1 ⟨pa, pc, rfl, O1, hb1⟩
      have B1 := hbel.trans (hb1.mono zr)
      replace hO := own_below hO hb1
      have H1 := has_of_own O1 WH.out
      clear hb1 O1
      go_wp2_with fail
      refine (K pa pc _ B1 H1).mono ?_
      rintro r u2 ⟨rfl, hb2⟩
      have B2 := B1.trans (hb2.mono B1.size)
      replace hO := own_below hO hb2
      clear hb2 H1
      have z2 := B2.size
      go_wp2_with (at_builtin; refine wpList_append_own _ rfl _ _ 34 rfl w.heap.size 2 i0 (.int .i64 0) 1 8 Tryz.underlying34 hi hz0 hz1 hz2 rfl (by decide) _ (zs.length) _ rfl (hO.alloc _) ⟨u2.heap.size, 0, none⟩ 1 1 [.int .i64 y] rfl (by simp) (lit_newM _ [.int .i64 y] 2) (by intro u hu; simp at hu; rcases hu with rfl <;> rfl) (by unfold maxLen; omega) (by omega) (by simp; omega) ?_; intro v5 w5 hn5 hg5 hx5)
      have B5 : Below w.heap.size w w5 := (B2.alloc z2 _).trans ((Below.refl _ _).grown hg5 (by simp; omega) (fun k hk => (hO.lt k hk).1))
      have O5 : OwnM w5 w.heap.size v5 (keysL s (n + 1)) := by
        rw [HS2.out]
        show World.ownsRow w5 _ _ 1 v5 (zs ++ [y]).length _
        rw [List.length_append]
        simpa using hn5
      clear hn5 hg5 hx5 hO
      go_wp2
      go_roundw
      case rel => exact ⟨n + 1, by omega, by go_num, O5, B5⟩
      case measure => simp [intOf]; omega
    · obtain rfl : n = N := by omega
      clear hlt
      have HO : Hid (_) := hO
      clear hO
      go_wp2
      go_ret
      exact ⟨va, vc, rfl, HO.out, hbel⟩

set_option maxHeartbeats 2000000 in
theorem implKeysRoot_any (s n : Int) (w : World) (hT : Tab w) :
    Calls Tryz.prog 27 #[.int .i64 s, .int .i64 n] w fun r w' => r = .returned (.agg #[.int .i64 (krC s n), .int .i64 (krV s n)]) ∧ Below w.heap.size w w' := by
  obtain ⟨E, hE⟩ : ∃ E, E = w.alloc (.cells #[.int .i64 0, .int .i64 0] 45) := ⟨_, rfl⟩
  have zE : E.heap.size = w.heap.size + 1 := by rw [hE]; simp
  have B0 : Below w.heap.size w E := by rw [hE]; exact (Below.refl _ _).alloc (Nat.le_refl _) _
  have RE : Blk E w.heap.size #[.int .i64 0, .int .i64 0] 45 := by rw [hE]; exact Blk.new _ _ _
  have IS := fun u => isSeed_any s u
  have IN := fun u => isKeyCount_any n u
  have e0 : krOk s n = (decide (0 ≤ s ∧ s ≤ 999) && decide (1 ≤ n ∧ n ≤ 8)) := by
    unfold krOk
    rw [Bool.eq_iff_iff]
    simp only [Bool.and_eq_true, decide_eq_true_eq]
  have BAD : krOk s n = false → Hid (krC s n = 3 ∧ krV s n = 0) := fun h => by
    show _ ∧ _
    unfold krC krV; rw [h]; exact ⟨rfl, rfl⟩
  cases h1 : decide (0 ≤ s ∧ s ≤ 999) with
  | false =>
    have HC := BAD (by rw [e0, h1]; rfl)
    simp only [h1] at IS
    have k0 : E.cell? ⟨w.heap.size, 0, none⟩ = some (.int .i64 0) := (RE.cell 0).trans rfl
    have k1 : E.cell? ⟨w.heap.size, 1, none⟩ = some (.int .i64 0) := (RE.cell 1).trans rfl
    have f0 := RE.frozen 0
    have f1 := RE.frozen 1
    clear BAD e0 h1
    go_enter Tryz.func27, Tryz.ntmps27
    go_wp2_with fail
    simp only [← hE]
    clear hE
    refine (IS _).mono ?_
    rintro r u ⟨rfl, hu⟩; have hu2 := hu.symm; subst hu2; clear hu
    go_wp2
    refine bodyPost_ret (v := .agg #[.int .i64 3, .int .i64 0]) (by simp [results, Tryz.results27, go_sem, k0, k1]) rfl ⟨by rw [HC.out.1, HC.out.2], ?_⟩
    exact set2 B0 (Nat.le_refl _) (Nat.le_refl _) _ _
  | true =>
    simp only [h1] at IS
    cases h2 : decide (1 ≤ n ∧ n ≤ 8) with
    | false =>
      have HC := BAD (by rw [e0, h1, h2]; rfl)
      simp only [h2] at IN
      have k0 : E.cell? ⟨w.heap.size, 0, none⟩ = some (.int .i64 0) := (RE.cell 0).trans rfl
      have k1 : E.cell? ⟨w.heap.size, 1, none⟩ = some (.int .i64 0) := (RE.cell 1).trans rfl
      have f0 := RE.frozen 0
      have f1 := RE.frozen 1
      clear BAD e0 h1 h2
      go_enter Tryz.func27, Tryz.ntmps27
      go_wp2_with fail
      simp only [← hE]
      clear hE
      refine (IS _).mono ?_
      rintro r u ⟨rfl, hu⟩; have hu2 := hu.symm; subst hu2; clear hu
      go_wp2_with fail
      refine (IN _).mono ?_
      rintro r u ⟨rfl, hu⟩; have hu2 := hu.symm; subst hu2; clear hu
      go_wp2
      refine bodyPost_ret (v := .agg #[.int .i64 3, .int .i64 0]) (by simp [results, Tryz.results27, go_sem, k0, k1]) rfl ⟨by rw [HC.out.1, HC.out.2], ?_⟩
      exact set2 B0 (Nat.le_refl _) (Nat.le_refl _) _ _
    | true =>
      have hok : krOk s n = true := by rw [e0, h1, h2]; rfl
      have HC : Hid (krC s n = 0 ∧ krV s n = rtM nS 11 (keysL s n.toNat)) := by show _ ∧ _; unfold krC krV; rw [hok]; exact ⟨rfl, rfl⟩
      simp only [h2] at IN
      obtain ⟨s0, s1⟩ := of_decide_eq_true h1
      obtain ⟨n0, n1⟩ := of_decide_eq_true h2
      obtain ⟨N, rfl⟩ : ∃ N : Nat, n = N := ⟨n.toNat, by omega⟩
      have KY : Hid (∀ u : World, Below w.heap.size w u → Calls Tryz.prog 60 #[.int .i64 s, .int .i64 N] u fun r w' => ∃ a' c', r = .returned (.slice a' (keysL s N).length c') ∧ OwnM w' u.heap.size (.slice a' (keysL s N).length c') (keysL s N) ∧ Below u.heap.size u w') := fun u hu => keySumsOf_any s N u (hT.below hu (Nat.le_refl _)) ⟨s0, s1⟩ (by omega)
      have RT : Hid (∀ (x : Option Addr) (c : Nat) (u : World), Below w.heap.size w u → Has u .i64 x (keysL s N).length (keysL s N) → (keysL s N).length ≤ c → c ≤ maxLen → Calls Tryz.prog 62 #[.slice x (keysL s N).length c] u fun r w' => r = .returned (.agg #[.int .i64 0, .int .i64 (rtM nS 11 (keysL s N))]) ∧ Below u.heap.size u w') := fun x c u hb hu h1 h2 => by
        have := implRootOf_any x c (keysL s N) u (hT.below hb (Nat.le_refl _)) hu (by rw [keysL_len]; omega) h1 h2
        have hz : lvF (keysL s N) = 0 := by unfold lvF; rw [keysL_len, if_neg (by omega), if_pos (keysL_all _ _)]
        rw [show rtV (keysL s N) = rtM nS 11 (keysL s N) by unfold rtV; rw [if_pos hz], hz] at this
        exact this
      have WF : Hid (∀ x ∈ keysL s N, (Lit.int .i64 x).wf = true) := allS_wf (keysL_all s N)
      have eN : (N : Int).toNat = N := Int.toNat_natCast N
      rw [eN] at HC
      generalize rtM nS 11 (keysL s N) = x at *
      generalize keysL s N = ks at *
      clear BAD e0 h1 h2 hok eN n0 n1 hT
      go_enter Tryz.func27, Tryz.ntmps27
      go_wp2_with fail
      simp only [← hE]
      clear hE
      refine (IS _).mono ?_
      rintro r u ⟨rfl, hu⟩; have hu2 := hu.symm; subst hu2; clear hu
      go_wp2_with fail
      refine (IN _).mono ?_
      rintro r u ⟨rfl, hu⟩; have hu2 := hu.symm; subst hu2; clear hu
      go_wp2_with fail
      refine (KY.out _ B0).mono ?_
      rintro r u1 ⟨a1, c1, rfl, O1, hb1⟩
      obtain ⟨_, _, e1, g1, g2⟩ := own_shapeM O1
      simp at e1
      obtain ⟨rfl, rfl⟩ := e1
      have B1 := B0.trans (hb1.mono B0.size)
      have R1 := RE.below hb1 RE.lt
      have H1 := RT.out a1 c1 _ B1 (has_of_own O1 WF.out) g1 g2
      clear O1 hb1 g1 g2
      go_wp2_with fail
      refine H1.mono ?_
      rintro r u2 ⟨rfl, hb2⟩
      have B2 := B1.trans (hb2.mono B1.size)
      have R2 := R1.below hb2 R1.lt
      have k0 : u2.cell? ⟨w.heap.size, 0, none⟩ = some (.int .i64 0) := (R2.cell 0).trans rfl
      have k1 : u2.cell? ⟨w.heap.size, 1, none⟩ = some (.int .i64 0) := (R2.cell 1).trans rfl
      have f0 := R2.frozen 0
      have f1 := R2.frozen 1
      clear R1 R2 hb2
      go_wp2
      refine bodyPost_ret (v := .agg #[.int .i64 0, .int .i64 x]) (by simp [results, Tryz.results27, go_sem, k0, k1]) rfl ⟨by rw [HC.out.1, HC.out.2], ?_⟩
      exact set2 B2 (Nat.le_refl _) (Nat.le_refl _) _ _

end Go.Proofs.YtffidkoejlebeaaGreatDoor
