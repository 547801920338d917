/- Contracts of the laws' own: the measure of a signed head, from any number that is left. -/
import Derived.Test.YtffidkoejlebeaaHdT
namespace Go.Proofs.Ytffidkoejlebeaa
open Go.ChangeShapes Go.WideShapes Go.ChangeAt Go.RowKit
set_option maxRecDepth 100000
set_option linter.unusedVariables false
set_option linter.unusedSimpArgs false

set_option maxHeartbeats 2000000 in
theorem szSignL_any (L f : Int) (L0 : 0 ≤ L) (L1 : L ≤ 1048576) (a b : Option Addr) (la lb ca cb : Nat) (w : World) (hla : la ≤ 9223372036854775807) (hlb : lb ≤ 9223372036854775807) :
    Calls Try.prog 18 #[.agg #[.int .i64 f, .slice a la ca, .slice b lb cb], .int .i64 L] w fun r w' => r = .returned (.int .i64 (if (la : Int) + lb ≤ L then L - la - lb else -1)) ∧ Below w.heap.size w w' := by
  by_cases h1 : (la : Int) ≤ L
  · have e1 : (if L - (la : Int) < 0 then -1 else L - (la : Int)) = L - (la : Int) := by rw [if_neg (by omega)]
    by_cases h2 : (la : Int) + lb ≤ L
    · have e2 : (if L - (la : Int) - (lb : Int) < 0 then -1 else L - (la : Int) - (lb : Int)) = L - (la : Int) - (lb : Int) := by rw [if_neg (by omega)]
      rw [if_pos h2]
      have k1 : 0 ≤ L - (la : Int) := by omega
      have k2 : 0 ≤ L - (la : Int) - (lb : Int) := by omega
      have tok1 : True := trivial
      go_enter Try.func18, Try.ntmps18
      go_wp2_with (first | (go_at_call 19; have _t := tok1; refine (szInt64S_any a la ca _ _ (by omega) (by omega) hla).mono ?_; rintro r u ⟨rfl, rfl⟩; clear tok1 _t) | (go_at_call 19; refine (szInt64S_any b lb cb _ _ (by omega) (by omega) hlb).mono ?_; rintro r u ⟨rfl, rfl⟩))
      go_ret
      exact ⟨rfl, (Below.refl _ _).alloc (Nat.le_refl _) _⟩
    · have e2 : (if L - (la : Int) - (lb : Int) < 0 then -1 else L - (la : Int) - (lb : Int)) = -1 := by rw [if_pos (by omega)]
      rw [if_neg h2]
      have k1 : 0 ≤ L - (la : Int) := by omega
      have tok1 : True := trivial
      go_enter Try.func18, Try.ntmps18
      go_wp2_with (first | (go_at_call 19; have _t := tok1; refine (szInt64S_any a la ca _ _ (by omega) (by omega) hla).mono ?_; rintro r u ⟨rfl, rfl⟩; clear tok1 _t) | (go_at_call 19; refine (szInt64S_any b lb cb _ _ (by omega) (by omega) hlb).mono ?_; rintro r u ⟨rfl, rfl⟩))
      go_ret
      exact ⟨rfl, (Below.refl _ _).alloc (Nat.le_refl _) _⟩
  · have e1 : (if L - (la : Int) < 0 then -1 else L - (la : Int)) = -1 := by rw [if_pos (by omega)]
    rw [if_neg (by omega)]
    go_enter Try.func18, Try.ntmps18
    go_wp2_with (go_at_call 19; refine (szInt64S_any a la ca _ _ (by omega) (by omega) hla).mono ?_; rintro r u ⟨rfl, rfl⟩)
    go_ret
    exact ⟨rfl, (Below.refl _ _).alloc (Nat.le_refl _) _⟩

set_option maxHeartbeats 2000000 in
theorem szSignedL_any (L : Int) (L0 : 0 ≤ L) (L1 : L ≤ 1048576) (z r m k i : Int) (a b c : Option Addr) (la lb lc ca cb cc : Nat) (w : World) (hla : la ≤ 9223372036854775807) (hlb : lb ≤ 9223372036854775807) (hlc : lc ≤ 9223372036854775807) :
    Calls Try.prog 9 #[.agg #[.int .i64 z, .int .i64 r, .int .i64 m, .int .i64 k, .int .i64 i, .slice a la ca, .slice b lb cb, .slice c lc cc], .int .i64 L] w fun r' w' => r' = .returned (.int .i64 (if (la : Int) + lb + lc ≤ L then L - la - lb - lc else -1)) ∧ Below w.heap.size w w' := by
  have SZ := szSignL_any L i L0 L1 a b la lb ca cb (w.alloc (.cells #[.int .i64 z, .int .i64 r, .int .i64 m, .int .i64 k, .int .i64 i, .slice a la ca, .slice b lb cb, .slice c lc cc] 32)) hla hlb
  by_cases h1 : (la : Int) + lb ≤ L
  · have g1 : ¬ L - (la : Int) - (lb : Int) < 0 := by omega
    have S2 : Hid (∀ u : World, Calls Try.prog 19 #[.slice c lc cc, .int .i64 (L - (la : Int) - (lb : Int))] u fun r w' => r = .returned (.int .i64 (if (la : Int) + lb + lc ≤ L then L - (la : Int) - lb - lc else -1)) ∧ w' = u) := fun u => by
      have := szInt64S_any c lc cc (L - (la : Int) - (lb : Int)) u (by omega) (by omega) hlc
      by_cases h2 : (la : Int) + lb + lc ≤ L
      · rw [if_neg (by omega)] at this; rw [if_pos h2]; exact this
      · rw [if_pos (by omega)] at this; rw [if_neg h2]; exact this
    rw [if_pos h1] at SZ
    by_cases h2 : (la : Int) + lb + lc ≤ L
    · rw [if_pos h2] at S2 ⊢
      have g2 : ¬ L - (la : Int) - (lb : Int) - (lc : Int) < 0 := by omega
      clear h1 h2
      go_enter Try.func9, Try.ntmps9
      go_wp2_with fail
      refine SZ.mono ?_
      rintro e u1 ⟨rfl, hb1⟩
      have hc := (hb1.cell (p := ⟨w.heap.size, 7, none⟩) (by simp)).trans (show _ = some (.slice c lc cc) by simp [go_sem])
      have zz := hb1.size
      simp at zz
      go_wp2_with fail
      refine (S2.out _).mono ?_
      rintro e u ⟨rfl, hu⟩; have hu2 := hu.symm; subst hu2; clear hu
      go_wp2
      go_ret
      exact ⟨rfl, ((Below.refl _ _).alloc (Nat.le_refl _) _).trans (hb1.mono (by simp))⟩
    · rw [if_neg h2] at S2 ⊢
      clear h1 h2
      go_enter Try.func9, Try.ntmps9
      go_wp2_with fail
      refine SZ.mono ?_
      rintro e u1 ⟨rfl, hb1⟩
      have hc := (hb1.cell (p := ⟨w.heap.size, 7, none⟩) (by simp)).trans (show _ = some (.slice c lc cc) by simp [go_sem])
      have zz := hb1.size
      simp at zz
      go_wp2_with fail
      refine (S2.out _).mono ?_
      rintro e u ⟨rfl, hu⟩; have hu2 := hu.symm; subst hu2; clear hu
      go_wp2
      go_ret
      exact ⟨rfl, ((Below.refl _ _).alloc (Nat.le_refl _) _).trans (hb1.mono (by simp))⟩
  · rw [if_neg h1] at SZ
    rw [if_neg (by omega)]
    clear h1
    go_enter Try.func9, Try.ntmps9
    go_wp2_with fail
    refine SZ.mono ?_
    rintro e u1 ⟨rfl, hb1⟩
    go_wp2
    go_ret
    exact ⟨rfl, ((Below.refl _ _).alloc (Nat.le_refl _) _).trans (hb1.mono (by simp))⟩

end Go.Proofs.Ytffidkoejlebeaa
