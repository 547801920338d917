/- Contracts of the laws' own functions over signatures: copied, held against each other, their size. -/
import Derived.Test.YtffidkoejlebeaaDoorInts
namespace Go.Proofs.YtffidkoejlebeaaDoor
open Go.ChangeShapes Go.WideShapes Go.ChangeAt Go.RowKit
set_option maxRecDepth 100000
set_option linter.unusedVariables false
set_option linter.unusedSimpArgs false

theorem Has.setCellK {w : World} {k : IntKind} {g o len : Nat} {zs : List Int} (h : Has w k (some ⟨g, o, none⟩) len zs) {b p : Nat} (hne : b ≠ g) (u : Value) : Has (w.setCell ⟨b, p, none⟩ u) k (some ⟨g, o, none⟩) len zs := by
  refine ⟨h.1, h.2.1, h.2.2.imp id ?_⟩
  rintro ⟨b', off, hb, hlt, hc⟩
  simp at hb
  obtain ⟨rfl, rfl⟩ := hb
  exact ⟨g, o, rfl, by simpa using hlt, fun i hi => (World.cell?_of_block (w := w) (Below.heap_setCell w ⟨b, p, none⟩ u g (Ne.symm hne))).trans (hc i hi)⟩

theorem szInt64S_any (a : Option Addr) (len cap : Nat) (n : Int) (w : World) (hn : -1 ≤ n) (hn2 : n ≤ 1048576) (hl : len ≤ 9223372036854775807) :
    Calls Tryd.prog 54 #[.slice a len cap, .int .i64 n] w fun r w' => r = .returned (.int .i64 (if n - len < 0 then -1 else n - len)) ∧ w' = w := by
  by_cases h : n - (len : Int) < 0
  · rw [if_pos h]
    go_enter Tryd.func54, Tryd.ntmps54
    go_wp2
    go_ret
    exact ⟨rfl, rfl⟩
  · rw [if_neg h]
    have h' : 0 ≤ n - (len : Int) := by omega
    go_enter Tryd.func54, Tryd.ntmps54
    go_wp2
    go_ret
    exact ⟨rfl, rfl⟩

set_option maxHeartbeats 1000000 in
theorem szSign_any (f : Int) (a b : Option Addr) (la lb ca cb : Nat) (w : World) (hla : la ≤ 9223372036854775807) (hlb : lb ≤ 9223372036854775807) :
    Calls Tryd.prog 53 #[.agg #[.int .i64 f, .slice a la ca, .slice b lb cb], .int .i64 1048576] w fun r w' => r = .returned (.int .i64 (if la + lb ≤ 1048576 then 1048576 - la - lb else -1)) ∧ Below w.heap.size w w' := by
  by_cases h1 : la ≤ 1048576
  · have e1 : (if (1048576 : Int) - (la : Int) < 0 then -1 else 1048576 - (la : Int)) = 1048576 - (la : Int) := by rw [if_neg (by omega)]
    by_cases h2 : la + lb ≤ 1048576
    · have e2 : (if (1048576 : Int) - (la : Int) - (lb : Int) < 0 then -1 else 1048576 - (la : Int) - (lb : Int)) = 1048576 - (la : Int) - (lb : Int) := by rw [if_neg (by omega)]
      rw [if_pos h2]
      have k1 : 0 ≤ (1048576 : Int) - (la : Int) := by omega
      have k2 : 0 ≤ (1048576 : Int) - (la : Int) - (lb : Int) := by omega
      have tok1 : True := trivial
      go_enter Tryd.func53, Tryd.ntmps53
      go_wp2_with (first | (go_at_call 54; have _t := tok1; refine (szInt64S_any a la ca _ _ (by omega) (by omega) hla).mono ?_; rintro r u ⟨rfl, rfl⟩; clear tok1 _t) | (go_at_call 54; refine (szInt64S_any b lb cb _ _ (by omega) (by omega) hlb).mono ?_; rintro r u ⟨rfl, rfl⟩))
      go_ret
      exact ⟨rfl, (Below.refl _ _).alloc (Nat.le_refl _) _⟩
    · have e2 : (if (1048576 : Int) - (la : Int) - (lb : Int) < 0 then -1 else 1048576 - (la : Int) - (lb : Int)) = -1 := by rw [if_pos (by omega)]
      rw [if_neg h2]
      have k1 : 0 ≤ (1048576 : Int) - (la : Int) := by omega
      have tok1 : True := trivial
      go_enter Tryd.func53, Tryd.ntmps53
      go_wp2_with (first | (go_at_call 54; have _t := tok1; refine (szInt64S_any a la ca _ _ (by omega) (by omega) hla).mono ?_; rintro r u ⟨rfl, rfl⟩; clear tok1 _t) | (go_at_call 54; refine (szInt64S_any b lb cb _ _ (by omega) (by omega) hlb).mono ?_; rintro r u ⟨rfl, rfl⟩))
      go_ret
      exact ⟨rfl, (Below.refl _ _).alloc (Nat.le_refl _) _⟩
  · have e1 : (if (1048576 : Int) - (la : Int) < 0 then -1 else 1048576 - (la : Int)) = -1 := by rw [if_pos (by omega)]
    rw [if_neg (by omega)]
    go_enter Tryd.func53, Tryd.ntmps53
    go_wp2_with (go_at_call 54; refine (szInt64S_any a la ca _ _ (by omega) (by omega) hla).mono ?_; rintro r u ⟨rfl, rfl⟩)
    go_ret
    exact ⟨rfl, (Below.refl _ _).alloc (Nat.le_refl _) _⟩

set_option maxHeartbeats 2000000 in
theorem toSign_any (f : Int) (a b : Option Addr) (ca cb : Nat) (zs ys : List Int) (w : World) (ha : Has w .i64 a zs.length zs) (hb : Has w .i64 b ys.length ys) (hla : zs.length ≤ 1048576) (hlb : ys.length ≤ 1048576) :
    Calls Tryd.prog 57 #[.agg #[.int .i64 f, .slice a zs.length ca, .slice b ys.length cb]] w fun r w' => ∃ g1 g2, r = .returned (.agg #[.int .i64 f, .slice (some ⟨g1, 0, none⟩) zs.length zs.length, .slice (some ⟨g2, 0, none⟩) ys.length ys.length]) ∧ Has w' .i64 (some ⟨g1, 0, none⟩) zs.length zs ∧ Has w' .i64 (some ⟨g2, 0, none⟩) ys.length ys ∧ w.heap.size ≤ g1 ∧ g1 < g2 ∧ g2 < w'.heap.size ∧ Below w.heap.size w w' := by
  go_enter Tryd.func57, Tryd.ntmps57
  go_wp2_with fail
  refine (toInts_has a ca zs _ (((ha.alloc _).alloc _).alloc _) hla).mono ?_
  rintro r u1 ⟨rfl, hb1, H1, hy1⟩
  simp at hy1
  have hT1 : Below w.heap.size w u1 := ((((Below.refl _ _).alloc (Nat.le_refl _) _).alloc (by simp) _).alloc (by simp; omega) _).trans (hb1.mono (by simp; omega))
  have X1 : Has u1 .i64 (some ⟨w.heap.size + 1 + 1 + 1, 0, none⟩) zs.length zs := by simpa using H1
  have b2 := hb1.cell (p := ⟨w.heap.size, 2, none⟩) (by simp; omega)
  have r0 := hb1.cell (p := ⟨w.heap.size + 1, 0, none⟩) (by simp)
  have r1 := hb1.cell (p := ⟨w.heap.size + 1, 1, none⟩) (by simp)
  have r2 := hb1.cell (p := ⟨w.heap.size + 1, 2, none⟩) (by simp)
  have q0 := hb1.cell (p := ⟨w.heap.size + 1 + 1, 0, none⟩) (by simp)
  have q1 := hb1.cell (p := ⟨w.heap.size + 1 + 1, 1, none⟩) (by simp)
  have q2 := hb1.cell (p := ⟨w.heap.size + 1 + 1, 2, none⟩) (by simp)
  have g0 := hb1.frozen (p := ⟨w.heap.size + 1, 0, none⟩) (by simp)
  have g1 := hb1.frozen (p := ⟨w.heap.size + 1, 1, none⟩) (by simp)
  have g2 := hb1.frozen (p := ⟨w.heap.size + 1, 2, none⟩) (by simp)
  have k1 := hb1.frozen (p := ⟨w.heap.size + 1 + 1, 1, none⟩) (by simp)
  have k2 := hb1.frozen (p := ⟨w.heap.size + 1 + 1, 2, none⟩) (by simp)
  simp [go_sem] at b2 r0 r1 r2 q0 q1 q2 g0 g1 g2 k1 k2
  clear hb1 H1
  go_wp2_with fail
  refine (toInts_has b cb ys _ (hb.below (hT1.setCell (by simp; omega) _) (Nat.le_refl _)) hlb).mono ?_
  rintro r u2 ⟨rfl, hb2, H2, hy2⟩
  obtain ⟨hc2, hf2⟩ := bcell hb2
  simp at hy2
  have z1 : w.heap.size < u1.heap.size := by omega
  have z2 : w.heap.size + 1 < u1.heap.size := by omega
  have z3 : w.heap.size + 1 + 1 < u1.heap.size := by omega
  go_wp2
  have X2 : Has u2 .i64 (some ⟨u1.heap.size, 0, none⟩) ys.length ys := by simpa using H2
  have X3 := (X1.setCellK (b := w.heap.size + 1 + 1) (p := 1) (by omega) (.slice (some ⟨w.heap.size + 1 + 1 + 1, 0, none⟩) zs.length zs.length)).below hb2 (Nat.le_refl _)
  have e0 := (hb2.cell (p := ⟨w.heap.size + 1, 0, none⟩) (by simpa using z2)).trans ((World.cell?_of_block (w := u1) (Below.heap_setCell u1 ⟨w.heap.size + 1 + 1, 1, none⟩ _ (w.heap.size + 1) (by show w.heap.size + 1 ≠ w.heap.size + 1 + 1; omega))).trans r0)
  have e1 := (hb2.cell (p := ⟨w.heap.size + 1, 1, none⟩) (by simpa using z2)).trans ((World.cell?_of_block (w := u1) (Below.heap_setCell u1 ⟨w.heap.size + 1 + 1, 1, none⟩ _ (w.heap.size + 1) (by show w.heap.size + 1 ≠ w.heap.size + 1 + 1; omega))).trans r1)
  have e2 := (hb2.cell (p := ⟨w.heap.size + 1, 2, none⟩) (by simpa using z2)).trans ((World.cell?_of_block (w := u1) (Below.heap_setCell u1 ⟨w.heap.size + 1 + 1, 1, none⟩ _ (w.heap.size + 1) (by show w.heap.size + 1 ≠ w.heap.size + 1 + 1; omega))).trans r2)
  refine bodyPost_ret (v := .agg #[.int .i64 f, .slice (some ⟨w.heap.size + 1 + 1 + 1, 0, none⟩) zs.length zs.length, .slice (some ⟨u1.heap.size, 0, none⟩) ys.length ys.length]) (by simp [results, Tryd.results57, go_sem, e0, e1, e2]) rfl ⟨_, _, rfl, ?_, ?_, ?_, ?_, ?_, ?_⟩
  · exact (((X3.setCellK (by omega) _).setCellK (by omega) _).setCellK (by omega) _).setCellK (by omega) _
  · exact (((X2.setCellK (by omega) _).setCellK (by omega) _).setCellK (by omega) _).setCellK (by omega) _
  · omega
  · omega
  · simp; omega
  · exact ((((((hT1.setCell (by simp; omega) _).trans (hb2.mono (by simp; omega))).setCell (by simp; omega) _).setCell (by simp) _).setCell (by simp) _).setCell (by simp) _)

set_option maxHeartbeats 1000000 in
theorem eqSign_any (f : Int) (a b c d : Option Addr) (ca cb cc cd : Nat) (zs ys : List Int) (w : World) (ha : Has w .i64 a zs.length zs) (hb : Has w .i64 b ys.length ys) (hc : Has w .i64 c zs.length zs) (hd : Has w .i64 d ys.length ys) (hla : zs.length ≤ 1048576) (hlb : ys.length ≤ 1048576) :
    Calls Tryd.prog 62 #[.agg #[.int .i64 f, .slice a zs.length ca, .slice b ys.length cb], .agg #[.int .i64 f, .slice c zs.length cc, .slice d ys.length cd]] w fun r w' => r = .returned (.bool true) ∧ Below w.heap.size w w' := by
  have hff : (f != f) = false := by simp
  have A := (ha.alloc (.cells #[.int .i64 f, .slice a zs.length ca, .slice b ys.length cb] 46)).alloc (.cells #[.int .i64 f, .slice c zs.length cc, .slice d ys.length cd] 46)
  have B := (hb.alloc (.cells #[.int .i64 f, .slice a zs.length ca, .slice b ys.length cb] 46)).alloc (.cells #[.int .i64 f, .slice c zs.length cc, .slice d ys.length cd] 46)
  have C := (hc.alloc (.cells #[.int .i64 f, .slice a zs.length ca, .slice b ys.length cb] 46)).alloc (.cells #[.int .i64 f, .slice c zs.length cc, .slice d ys.length cd] 46)
  have D := (hd.alloc (.cells #[.int .i64 f, .slice a zs.length ca, .slice b ys.length cb] 46)).alloc (.cells #[.int .i64 f, .slice c zs.length cc, .slice d ys.length cd] 46)
  go_enter Tryd.func62, Tryd.ntmps62
  go_wp2_with fail
  refine (eqInts_any a c ca cc zs _ A C hla).mono ?_
  rintro r u1 ⟨rfl, hb1⟩
  obtain ⟨hc1, hf1⟩ := bcell hb1
  have B1 := B.below hb1 (Nat.le_refl _)
  have D1 := D.below hb1 (Nat.le_refl _)
  go_wp2_with fail
  refine (eqInts_any b d cb cd ys _ B1 D1 hlb).mono ?_
  rintro r u2 ⟨rfl, hb2⟩
  go_wp2
  go_ret
  exact ⟨rfl, ((((Below.refl _ _).alloc (Nat.le_refl _) _).alloc (by simp) _).trans (hb1.mono (by simp; omega))).trans (hb2.mono (by have := hb1.size; simp at this; omega))⟩

end Go.Proofs.YtffidkoejlebeaaDoor
