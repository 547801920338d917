/- Contracts of the program's chapter 8: KeysRoot, SecretOf, PublicOf, the fault of a signature. -/
import Derived.Test.YtffidkoejlebeaaDoorKyQ
import Derived.Test.YtffidkoejlebeaaDoorCOr
import Derived.Test.YtffidkoejlebeaaDoorIRootP
namespace Go.Proofs.YtffidkoejlebeaaDoor
open Go.ChangeShapes Go.WideShapes Go.ChangeAt Go.RowKit
set_option maxRecDepth 100000
set_option linter.unusedVariables false
set_option linter.unusedSimpArgs false

theorem lit_newM (w : World) (xs : List Value) (T : Nat) : ∀ (j : Nat) (u : Value), xs[j]? = some u → (w.alloc (.cells xs.toArray T)).cell? ((⟨w.heap.size, 0, none⟩ : Addr).add j) = some u := by
  intro j u hj
  have h := (Blk.new w xs.toArray T).cell j
  rw [List.getElem?_toArray, hj] at h
  by_cases h0 : j = 0
  · subst h0; simpa [Addr.add] using h
  · simpa [Addr.add, h0] using h

set_option maxHeartbeats 2000000 in
theorem keySumsOf_any (s : Int) (N : Nat) (w : World) (hT : Tab w) (hs : 0 ≤ s ∧ s ≤ 999) (hN : N ≤ 8) :
    Calls Tryd.prog 50 #[.int .i64 s, .int .i64 N] w fun r w' => ∃ a' c', r = .returned (.slice a' (keysL s N).length c') ∧ OwnM w' w.heap.size (.slice a' (keysL s N).length c') (keysL s N) ∧ Below w.heap.size w w' := by
  obtain ⟨i0, hi, hz0, hz1, hz2⟩ := info_parts info64
  have PB : Hid (∀ (n : Nat) (u : World), n < 8 → Below w.heap.size w u → Calls Tryd.prog 83 #[.int .i64 s, .int .i64 n] u fun r w' => ∃ a' c', r = .returned (.slice a' (pubL s n).length c') ∧ OwnM w' u.heap.size (.slice a' (pubL s n).length c') (pubL s n) ∧ Below u.heap.size u w') := fun n u h hu => publicOf_any s n u (hT.below hu (Nat.le_refl _)) hs (by omega)
  have KS : Hid (∀ (n : Nat) (a : Option Addr) (c : Nat) (u : World), Below w.heap.size w u → Has u .i64 a (pubL s n).length (pubL s n) → Calls Tryd.prog 82 #[.slice a (pubL s n).length c] u fun r w' => r = .returned (.agg #[.int .i64 0, .int .i64 (keyS (pubL s n))]) ∧ Below u.heap.size u w') := fun n a c u hu h => by
    have := implKeySum_any a c _ u (hT.below hu (Nat.le_refl _)) h (by rw [pubL_len]; omega)
    rw [kyC_of (pubL_len s n) (pubL_all s n), kyV_of (pubL_len s n) (pubL_all s n)] at this
    exact this
  have WF : Hid (∀ n : Nat, ∀ x ∈ pubL s n, (Lit.int .i64 x).wf = true) := fun n => allS_wf (pubL_all s n)
  have SU : Hid (∀ n, keysL s (n + 1) = keysL s n ++ [keyS (pubL s n)]) := fun n => keysL_succ s n
  have LN : Hid (∀ n, (keysL s n).length = n) := fun n => keysL_len s n
  have F1 := fldK1
  clear hT
  go_enter Tryd.func50, Tryd.ntmps50
  go_wp2
  go_loopw [5, 8] (fun v b wr => ∃ n : Nat, n ≤ N ∧ b = .int .i64 n ∧ OwnM wr w.heap.size v (keysL s n) ∧ Below w.heap.size w wr) (fun _ b _ => N - (intOf b).toNat)
  case atStart => exact ⟨0, Nat.zero_le _, rfl, World.ownsRow_nil _ _ _ _, Below.refl _ _⟩
  case round =>
    obtain ⟨n, hn, rfl, hO, hbel⟩ := hrel
    obtain ⟨va, vc, rfl, _, _⟩ := own_shapeM hO
    have zr := hbel.size
    by_cases hlt : n < N
    · have hlt' : (n : Int) < (N : Int) := by omega
      have zl : (keysL s n).length ≤ 32 := by have := LN.out n; omega
      have HSU := SU.out n
      have P := PB.out n
      have K := KS.out n
      have W := WF.out n
      generalize keyS (pubL s n) = y at *
      generalize pubL s n = ps at *
      generalize keysL s n = zs at *
      have HS2 : Hid (keysL s (n + 1) = zs ++ [y]) := HSU
      have WH : Hid (∀ x ∈ ps, (Lit.int .i64 x).wf = true) := W
      clear HSU W
      go_wp2_with fail
      refine (P _ (by omega) hbel).mono ?_
      rintro r u1 ⟨pa, pc, rfl, O1, hb1⟩
      have B1 := hbel.trans (hb1.mono zr)
      replace hO := own_below hO hb1
      have H1 := has_of_own O1 WH.out
      clear hb1 O1
      go_wp2_with fail
      refine (K pa pc _ B1 H1).mono ?_
      rintro r u2 ⟨rfl, hb2⟩
      have B2 := B1.trans (hb2.mono B1.size)
      replace hO := own_below hO hb2
      clear hb2 H1
      have z2 := B2.size
      go_wp2_with (at_builtin; refine wpList_append_own _ rfl _ _ 44 rfl w.heap.size 2 i0 (.int .i64 0) 1 8 Tryd.underlying44 hi hz0 hz1 hz2 rfl (by decide) _ (zs.length) _ rfl (hO.alloc _) ⟨u2.heap.size, 0, none⟩ 1 1 [.int .i64 y] rfl (by simp) (lit_newM _ [.int .i64 y] 2) (by intro u hu; simp at hu; rcases hu with rfl <;> rfl) (by unfold maxLen; omega) (by omega) (by simp; omega) ?_; intro v5 w5 hn5 hg5 hx5)
      have B5 : Below w.heap.size w w5 := (B2.alloc z2 _).trans ((Below.refl _ _).grown hg5 (by simp; omega) (fun k hk => (hO.lt k hk).1))
      have O5 : OwnM w5 w.heap.size v5 (keysL s (n + 1)) := by
        rw [HS2.out]
        show World.ownsRow w5 _ _ 1 v5 (zs ++ [y]).length _
        rw [List.length_append]
        simpa using hn5
      clear hn5 hg5 hx5 hO
      go_wp2
      go_roundw
      case rel => exact ⟨n + 1, by omega, by go_num, O5, B5⟩
      case measure => simp [intOf]; omega
    · obtain rfl : n = N := by omega
      clear hlt
      have HO : Hid (_) := hO
      clear hO
      go_wp2
      go_ret
      exact ⟨va, vc, rfl, HO.out, hbel⟩

end Go.Proofs.YtffidkoejlebeaaDoor
