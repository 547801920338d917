/- At every two signed heads the program's SameSigned answers as the specification's model of it, and leaves both as they were. -/
import Derived.Test.YtffidkoejlebeaaHdE
import Derived.Test.YtffidkoejlebeaaHdG
import Derived.Test.YtffidkoejlebeaaAgg8
import Derived.Test.YtffidkoejlebeaaIHs
import Derived.Deep.RegionHeld3
import Derived.Deep.DeepCutAuto
namespace Go.Proofs.Ytffidkoejlebeaa
open Go.ChangeShapes Go.WideShapes Go.ChangeAt Go.RowKit
set_option linter.unusedVariables false
set_option linter.unusedSimpArgs false

set_option maxRecDepth 100000 in
set_option maxHeartbeats 16000000 in
theorem fnExactSameSigned_walk (w : World) (z0 r0 m0 k0 i0 : Int) (a0 b0 c0 : Option Addr) (la0 ca0 lb0 cb0 lc0 cc0 : Nat) (sh0 ot0 p0 : List Int) (wa0 : IsRow .i64 w a0 la0 ca0 sh0) (wb0 : IsRow .i64 w b0 lb0 cb0 ot0) (wc0 : IsRow .i64 w c0 lc0 cc0 p0) (z1 r1 m1 k1 i1 : Int) (a1 b1 c1 : Option Addr) (la1 ca1 lb1 cb1 lc1 cc1 : Nat) (sh1 ot1 p1 : List Int) (wa1 : IsRow .i64 w a1 la1 ca1 sh1) (wb1 : IsRow .i64 w b1 lb1 cb1 ot1) (wc1 : IsRow .i64 w c1 lc1 cc1 p1) :
    Calls Try.prog 5 #[.agg #[.int .i64 z0, .int .i64 r0, .int .i64 m0, .int .i64 k0, .int .i64 i0, .slice a0 la0 ca0, .slice b0 lb0 cb0, .slice c0 lc0 cc0], .agg #[.int .i64 z1, .int .i64 r1, .int .i64 m1, .int .i64 k1, .int .i64 i1, .slice a1 la1 ca1, .slice b1 lb1 cb1, .slice c1 lc1 cc1]] w fun e w' => e = .returned (.bool true) ∧ Below w.heap.size w w' := by
  have hm : ∀ (k : IntKind) (a : Option Addr) (l c : Nat) (z : List Int), IsRow k w a l c z → l ≤ 9223372036854775807 := by
    intro k a l c z h
    rcases h with ⟨_, rfl, _, _⟩ | ⟨_, _, h1, h2, _⟩
    · omega
    · unfold maxLen at h2; omega
  have hl1 := hm _ _ _ _ _ wa0
  have hl2 := hm _ _ _ _ _ wb0
  have hl3 := hm _ _ _ _ _ wc0
  have hl4 := hm _ _ _ _ _ wa1
  have hl5 := hm _ _ _ _ _ wb1
  have hl6 := hm _ _ _ _ _ wc1
  have A1 := Has.of_row wa0
  have hla := A1.1
  generalize sh0.take la0 = sh at A1 hla
  subst hla
  have A2 := Has.of_row wb0
  have hla := A2.1
  generalize ot0.take lb0 = ot at A2 hla
  subst hla
  have A3 := Has.of_row wc0
  have hla := A3.1
  generalize p0.take lc0 = p at A3 hla
  subst hla
  have Q1 := Has.of_row wa1
  have hla := Q1.1
  generalize sh1.take la1 = xh at Q1 hla
  subst hla
  have Q2 := Has.of_row wb1
  have hla := Q2.1
  generalize ot1.take lb1 = xt at Q2 hla
  subst hla
  have Q3 := Has.of_row wc1
  have hla := Q3.1
  generalize p1.take lc1 = xp at Q3 hla
  subst hla
  clear wa0 wb0 wc0 wa1 wb1 wc1 hm
  obtain ⟨V, hV⟩ : ∃ V, V = w.heap.size := ⟨_, rfl⟩
  obtain ⟨V1, hV1⟩ : ∃ V, V = w.heap.size + 1 := ⟨_, rfl⟩
  obtain ⟨E, hE⟩ : ∃ E, E = (w.alloc (.cells #[.int .i64 z0, .int .i64 r0, .int .i64 m0, .int .i64 k0, .int .i64 i0, .slice a0 sh.length ca0, .slice b0 ot.length cb0, .slice c0 p.length cc0] 32)).alloc (.cells #[.int .i64 z1, .int .i64 r1, .int .i64 m1, .int .i64 k1, .int .i64 i1, .slice a1 xh.length ca1, .slice b1 xt.length cb1, .slice c1 xp.length cc1] 32) := ⟨_, rfl⟩
  have BE : Below w.heap.size w E := by rw [hE]; exact ((Below.refl _ _).alloc (Nat.le_refl _) _).alloc (by simp) _
  have RA : Blk E V #[.int .i64 z0, .int .i64 r0, .int .i64 m0, .int .i64 k0, .int .i64 i0, .slice a0 sh.length ca0, .slice b0 ot.length cb0, .slice c0 p.length cc0] 32 := by rw [hE, hV]; exact (Blk.new _ _ _).below ((Below.refl _ _).alloc (Nat.le_refl _) _) (Blk.new _ _ _).lt
  have RB : Blk E V1 #[.int .i64 z1, .int .i64 r1, .int .i64 m1, .int .i64 k1, .int .i64 i1, .slice a1 xh.length ca1, .slice b1 xt.length cb1, .slice c1 xp.length cc1] 32 := by
    have := Blk.new (w.alloc (.cells #[.int .i64 z0, .int .i64 r0, .int .i64 m0, .int .i64 k0, .int .i64 i0, .slice a0 sh.length ca0, .slice b0 ot.length cb0, .slice c0 p.length cc0] 32)) #[.int .i64 z1, .int .i64 r1, .int .i64 m1, .int .i64 k1, .int .i64 i1, .slice a1 xh.length ca1, .slice b1 xt.length cb1, .slice c1 xp.length cc1] 32
    rw [World.size_alloc] at this
    rw [hE, hV1]; exact this
  have e0 := RA.cell 0
  have e1 := RA.cell 1
  have e2 := RA.cell 2
  have e3 := RA.cell 3
  have e4 := RA.cell 4
  have e5 := RA.cell 5
  have e6 := RA.cell 6
  have e7 := RA.cell 7
  have e9 := RA.lt
  simp at e0 e1 e2 e3 e4 e5 e6 e7
  have f0 := RB.cell 0
  have f1 := RB.cell 1
  have f2 := RB.cell 2
  have f3 := RB.cell 3
  have f4 := RB.cell 4
  have f5 := RB.cell 5
  have f6 := RB.cell 6
  have f7 := RB.cell 7
  have f9 := RB.lt
  simp at f0 f1 f2 f3 f4 f5 f6 f7
  have FA : Hid (∀ wx : World, Below E.heap.size E wx → (Blk wx V #[.int .i64 z0, .int .i64 r0, .int .i64 m0, .int .i64 k0, .int .i64 i0, .slice a0 sh.length ca0, .slice b0 ot.length cb0, .slice c0 p.length cc0] 32 ∧ Blk wx V1 #[.int .i64 z1, .int .i64 r1, .int .i64 m1, .int .i64 k1, .int .i64 i1, .slice a1 xh.length ca1, .slice b1 xt.length cb1, .slice c1 xp.length cc1] 32) ∧ (Has wx .i64 a0 sh.length sh ∧ Has wx .i64 b0 ot.length ot ∧ Has wx .i64 c0 p.length p) ∧ Has wx .i64 a1 xh.length xh ∧ Has wx .i64 b1 xt.length xt ∧ Has wx .i64 c1 xp.length xp) := fun wx h => by
    have h' := BE.trans (h.mono BE.size)
    exact ⟨⟨RA.below h RA.lt, RB.below h RB.lt⟩, ⟨A1.below h' (Nat.le_refl _), A2.below h' (Nat.le_refl _), A3.below h' (Nat.le_refl _)⟩, Q1.below h' (Nat.le_refl _), Q2.below h' (Nat.le_refl _), Q3.below h' (Nat.le_refl _)⟩
  clear A1 A2 A3 Q1 Q2 Q3 RA RB
  by_cases hbig : sh.length + ot.length + p.length ≤ 1048576
  case neg =>
    have hif : (if sh.length + ot.length + p.length ≤ 1048576 then (1048576 : Int) - sh.length - ot.length - p.length else -1) = -1 := if_neg hbig
    clear hbig
    go_enter Try.func5, Try.ntmps5
    go_wp2_with fail
    simp only [← hV1]
    simp only [← hV, ← hE]
    clear hV hV1 hE
    refine (szSigned_any z0 r0 m0 k0 i0 a0 b0 c0 _ _ _ ca0 cb0 cc0 _ hl1 hl2 hl3).mono ?_
    rintro r u1 ⟨rfl, hb1⟩
    rw [hif]
    go_wp2
    go_ret
    exact ⟨rfl, BE.trans (hb1.mono BE.size)⟩
  case pos =>
    have s1 : sh.length ≤ 1048576 := by omega
    have s2 : ot.length ≤ 1048576 := by omega
    have s3 : p.length ≤ 1048576 := by omega
    obtain ⟨L, hL⟩ : ∃ L : Int, L = 1048576 - sh.length - ot.length - p.length := ⟨_, rfl⟩
    have L0 : 0 ≤ L := by omega
    have L1 : L ≤ 1048576 := by omega
    have SZ1 : Hid (∀ u : World, Calls Try.prog 9 #[.agg #[.int .i64 z0, .int .i64 r0, .int .i64 m0, .int .i64 k0, .int .i64 i0, .slice a0 sh.length ca0, .slice b0 ot.length cb0, .slice c0 p.length cc0], .int .i64 1048576] u fun r' w' => r' = .returned (.int .i64 L) ∧ Below u.heap.size u w') := fun u => by
      have := szSigned_any z0 r0 m0 k0 i0 a0 b0 c0 _ _ _ ca0 cb0 cc0 u hl1 hl2 hl3
      rw [if_pos hbig, ← hL] at this
      exact this
    have SZ2 := fun u => szSignedL_any L L0 L1 z1 r1 m1 k1 i1 a1 b1 c1 _ _ _ ca1 cb1 cc1 u hl4 hl5 hl6
    have hnn : (0 : Int) ≤ L := L0
    clear hbig
    by_cases hbig : (xh.length : Int) + xt.length + xp.length ≤ L
    case neg =>
      have SZ2' : Hid (∀ u : World, Calls Try.prog 9 #[.agg #[.int .i64 z1, .int .i64 r1, .int .i64 m1, .int .i64 k1, .int .i64 i1, .slice a1 xh.length ca1, .slice b1 xt.length cb1, .slice c1 xp.length cc1], .int .i64 L] u fun r' w' => r' = .returned (.int .i64 (-1)) ∧ Below u.heap.size u w') := fun u => by
        have := SZ2 u
        rw [if_neg hbig] at this
        exact this
      clear hbig SZ2 hL L0 L1
      go_enter Try.func5, Try.ntmps5
      go_wp2_with fail
      simp only [← hV1]
      simp only [← hV, ← hE]
      clear hV hV1 hE
      refine (SZ1.out _).mono ?_
      rintro r u1 ⟨rfl, hb1⟩
      clear e0 e1 e2 e3 e4 e5 e6 e7 e9
      clear f0 f1 f2 f3 f4 f5 f6 f7 f9
      obtain ⟨⟨R1, R2⟩, _⟩ := FA.out _ hb1
      have e0 := R1.cell 0
      have e1 := R1.cell 1
      have e2 := R1.cell 2
      have e3 := R1.cell 3
      have e4 := R1.cell 4
      have e5 := R1.cell 5
      have e6 := R1.cell 6
      have e7 := R1.cell 7
      have e9 := R1.lt
      simp at e0 e1 e2 e3 e4 e5 e6 e7
      have f0 := R2.cell 0
      have f1 := R2.cell 1
      have f2 := R2.cell 2
      have f3 := R2.cell 3
      have f4 := R2.cell 4
      have f5 := R2.cell 5
      have f6 := R2.cell 6
      have f7 := R2.cell 7
      have f9 := R2.lt
      simp at f0 f1 f2 f3 f4 f5 f6 f7
      go_wp2_with fail
      refine (SZ2'.out _).mono ?_
      rintro r u2 ⟨rfl, hb2⟩
      go_wp2
      go_ret
      exact ⟨rfl, BE.trans ((hb1.trans (hb2.mono hb1.size)).mono BE.size)⟩
    have t1 : xh.length ≤ 1048576 := by omega
    have t2 : xt.length ≤ 1048576 := by omega
    have t3 : xp.length ≤ 1048576 := by omega
    obtain ⟨L2, hL2⟩ : ∃ L2 : Int, L2 = L - xh.length - xt.length - xp.length := ⟨_, rfl⟩
    have hnn2 : (0 : Int) ≤ L2 := by omega
    have SZ2' : Hid (∀ u : World, Calls Try.prog 9 #[.agg #[.int .i64 z1, .int .i64 r1, .int .i64 m1, .int .i64 k1, .int .i64 i1, .slice a1 xh.length ca1, .slice b1 xt.length cb1, .slice c1 xp.length cc1], .int .i64 L] u fun r' w' => r' = .returned (.int .i64 L2) ∧ Below u.heap.size u w') := fun u => by
      have := SZ2 u
      rw [if_pos hbig, ← hL2] at this
      exact this
    clear hbig SZ2 hL hL2 L0 L1
    obtain ⟨cd, hcd⟩ : ∃ c, c = smB z0 r0 m0 k0 i0 sh ot p z1 r1 m1 k1 i1 xh xt xp := ⟨_, rfl⟩
    have SP : Hid (∀ (a b c a' b' c' : Option Addr) (ca cb cc ca' cb' cc' : Nat) (x : World), (Has x .i64 a sh.length sh ∧ Has x .i64 b ot.length ot ∧ Has x .i64 c p.length p) → (Has x .i64 a' xh.length xh ∧ Has x .i64 b' xt.length xt ∧ Has x .i64 c' xp.length xp) → Calls Try.prog 14 #[.agg #[.int .i64 z0, .int .i64 r0, .int .i64 m0, .int .i64 k0, .int .i64 i0, .slice a sh.length ca, .slice b ot.length cb, .slice c p.length cc], .agg #[.int .i64 z1, .int .i64 r1, .int .i64 m1, .int .i64 k1, .int .i64 i1, .slice a' xh.length ca', .slice b' xt.length cb', .slice c' xp.length cc']] x fun r w' => r = .returned (.bool cd) ∧ Below x.heap.size x w') := by
      rw [hcd]
      exact fun a b c a' b' c' ca cb cc ca' cb' cc' x h1 h2 => specSameSigned_any z0 r0 m0 k0 i0 z1 r1 m1 k1 i1 a b c a' b' c' ca cb cc ca' cb' cc' sh ot p xh xt xp x h1.1 h1.2.1 h1.2.2 h2.1 h2.2.1 h2.2.2 s1 s2 s3
    have IM : Hid (∀ (a b c a' b' c' : Option Addr) (ca cb cc ca' cb' cc' : Nat) (x : World), (Has x .i64 a sh.length sh ∧ Has x .i64 b ot.length ot ∧ Has x .i64 c p.length p) → (Has x .i64 a' xh.length xh ∧ Has x .i64 b' xt.length xt ∧ Has x .i64 c' xp.length xp) → Calls Try.prog 15 #[.agg #[.int .i64 z0, .int .i64 r0, .int .i64 m0, .int .i64 k0, .int .i64 i0, .slice a sh.length ca, .slice b ot.length cb, .slice c p.length cc], .agg #[.int .i64 z1, .int .i64 r1, .int .i64 m1, .int .i64 k1, .int .i64 i1, .slice a' xh.length ca', .slice b' xt.length cb', .slice c' xp.length cc']] x fun r w' => r = .returned (.bool cd) ∧ Below x.heap.size x w') := by
      rw [hcd]
      exact fun a b c a' b' c' ca cb cc ca' cb' cc' x h1 h2 => implSameSigned_any z0 r0 m0 k0 i0 z1 r1 m1 k1 i1 a b c a' b' c' ca cb cc ca' cb' cc' sh ot p xh xt xp x h1.1 h1.2.1 h1.2.2 h2.1 h2.2.1 h2.2.2 s1 s2 s3
    clear hcd
    have TA : Hid (∀ wx : World, Below E.heap.size E wx → Calls Try.prog 11 #[.agg #[.int .i64 z0, .int .i64 r0, .int .i64 m0, .int .i64 k0, .int .i64 i0, .slice a0 sh.length ca0, .slice b0 ot.length cb0, .slice c0 p.length cc0]] wx fun e w' => ∃ g1 g2 g3, e = .returned (.agg #[.int .i64 z0, .int .i64 r0, .int .i64 m0, .int .i64 k0, .int .i64 i0, .slice (some ⟨g1, 0, none⟩) sh.length sh.length, .slice (some ⟨g2, 0, none⟩) ot.length ot.length, .slice (some ⟨g3, 0, none⟩) p.length p.length]) ∧ (Has w' .i64 (some ⟨g1, 0, none⟩) sh.length sh ∧ Has w' .i64 (some ⟨g2, 0, none⟩) ot.length ot ∧ Has w' .i64 (some ⟨g3, 0, none⟩) p.length p) ∧ Below wx.heap.size wx w') := fun wx h => by
      obtain ⟨_, ⟨h1, h2, h3⟩, _⟩ := FA.out _ h
      refine (toSigned_any z0 r0 m0 k0 i0 a0 b0 c0 ca0 cb0 cc0 sh ot p wx h1 h2 h3 s1 s2 s3).mono ?_
      rintro e u ⟨g1, g2, g3, he, x1, x2, x3, hb⟩
      exact ⟨g1, g2, g3, he, ⟨x1, x2, x3⟩, hb⟩
    have TB : Hid (∀ wx : World, Below E.heap.size E wx → Calls Try.prog 11 #[.agg #[.int .i64 z1, .int .i64 r1, .int .i64 m1, .int .i64 k1, .int .i64 i1, .slice a1 xh.length ca1, .slice b1 xt.length cb1, .slice c1 xp.length cc1]] wx fun e w' => ∃ g1 g2 g3, e = .returned (.agg #[.int .i64 z1, .int .i64 r1, .int .i64 m1, .int .i64 k1, .int .i64 i1, .slice (some ⟨g1, 0, none⟩) xh.length xh.length, .slice (some ⟨g2, 0, none⟩) xt.length xt.length, .slice (some ⟨g3, 0, none⟩) xp.length xp.length]) ∧ (Has w' .i64 (some ⟨g1, 0, none⟩) xh.length xh ∧ Has w' .i64 (some ⟨g2, 0, none⟩) xt.length xt ∧ Has w' .i64 (some ⟨g3, 0, none⟩) xp.length xp) ∧ Below wx.heap.size wx w') := fun wx h => by
      obtain ⟨_, _, h1, h2, h3⟩ := FA.out _ h
      refine (toSigned_any z1 r1 m1 k1 i1 a1 b1 c1 ca1 cb1 cc1 xh xt xp wx h1 h2 h3 t1 t2 t3).mono ?_
      rintro e u ⟨g1, g2, g3, he, x1, x2, x3, hb⟩
      exact ⟨g1, g2, g3, he, ⟨x1, x2, x3⟩, hb⟩
    have QA : Hid (∀ (a b c a' b' c' : Option Addr) (ca cb cc ca' cb' cc' : Nat) (x : World), (Has x .i64 a sh.length sh ∧ Has x .i64 b ot.length ot ∧ Has x .i64 c p.length p) → (Has x .i64 a' sh.length sh ∧ Has x .i64 b' ot.length ot ∧ Has x .i64 c' p.length p) → Calls Try.prog 13 #[.agg #[.int .i64 z0, .int .i64 r0, .int .i64 m0, .int .i64 k0, .int .i64 i0, .slice a sh.length ca, .slice b ot.length cb, .slice c p.length cc], .agg #[.int .i64 z0, .int .i64 r0, .int .i64 m0, .int .i64 k0, .int .i64 i0, .slice a' sh.length ca', .slice b' ot.length cb', .slice c' p.length cc']] x fun r w' => r = .returned (.bool true) ∧ Below x.heap.size x w') := fun a b c a' b' c' ca cb cc ca' cb' cc' x h1 h2 => eqSigned_any z0 r0 m0 k0 i0 a b c a' b' c' ca cb cc ca' cb' cc' sh ot p x h1.1 h1.2.1 h1.2.2 h2.1 h2.2.1 h2.2.2 s1 s2 s3
    have QB : Hid (∀ (a b c a' b' c' : Option Addr) (ca cb cc ca' cb' cc' : Nat) (x : World), (Has x .i64 a xh.length xh ∧ Has x .i64 b xt.length xt ∧ Has x .i64 c xp.length xp) → (Has x .i64 a' xh.length xh ∧ Has x .i64 b' xt.length xt ∧ Has x .i64 c' xp.length xp) → Calls Try.prog 13 #[.agg #[.int .i64 z1, .int .i64 r1, .int .i64 m1, .int .i64 k1, .int .i64 i1, .slice a xh.length ca, .slice b xt.length cb, .slice c xp.length cc], .agg #[.int .i64 z1, .int .i64 r1, .int .i64 m1, .int .i64 k1, .int .i64 i1, .slice a' xh.length ca', .slice b' xt.length cb', .slice c' xp.length cc']] x fun r w' => r = .returned (.bool true) ∧ Below x.heap.size x w') := fun a b c a' b' c' ca cb cc ca' cb' cc' x h1 h2 => eqSigned_any z1 r1 m1 k1 i1 a b c a' b' c' ca cb cc ca' cb' cc' xh xt xp x h1.1 h1.2.1 h1.2.2 h2.1 h2.2.1 h2.2.2 t1 t2 t3
    clear s1 s2 s3 t1 t2 t3
    go_enter Try.func5, Try.ntmps5
    go_wp2_with fail
    simp only [← hV1]
    simp only [← hV, ← hE]
    clear hV hV1 hE
    refine (SZ1.out _).mono ?_
    rintro r u1 ⟨rfl, D1⟩
    clear e0 e1 e2 e3 e4 e5 e6 e7 e9
    clear f0 f1 f2 f3 f4 f5 f6 f7 f9
    obtain ⟨⟨R1, R2⟩, _⟩ := FA.out _ D1
    have e0 := R1.cell 0
    have e1 := R1.cell 1
    have e2 := R1.cell 2
    have e3 := R1.cell 3
    have e4 := R1.cell 4
    have e5 := R1.cell 5
    have e6 := R1.cell 6
    have e7 := R1.cell 7
    have e9 := R1.lt
    simp at e0 e1 e2 e3 e4 e5 e6 e7
    have f0 := R2.cell 0
    have f1 := R2.cell 1
    have f2 := R2.cell 2
    have f3 := R2.cell 3
    have f4 := R2.cell 4
    have f5 := R2.cell 5
    have f6 := R2.cell 6
    have f7 := R2.cell 7
    have f9 := R2.lt
    simp at f0 f1 f2 f3 f4 f5 f6 f7
    clear R1 R2 SZ1
    go_wp2_with fail
    refine (SZ2'.out _).mono ?_
    rintro r u2 ⟨rfl, hb2⟩
    have DE := D1.trans (hb2.mono D1.size)
    clear e0 e1 e2 e3 e4 e5 e6 e7 e9
    clear f0 f1 f2 f3 f4 f5 f6 f7 f9
    clear hb2 D1 SZ2'
    have K8 : Hid (∀ wx : World, Below u2.heap.size u2 wx → ((wx.cell? ⟨V, 0, none⟩ = some (.int .i64 z0) ∧ wx.cell? ⟨V, 1, none⟩ = some (.int .i64 r0) ∧ wx.cell? ⟨V, 2, none⟩ = some (.int .i64 m0) ∧ wx.cell? ⟨V, 3, none⟩ = some (.int .i64 k0) ∧ wx.cell? ⟨V, 4, none⟩ = some (.int .i64 i0) ∧ wx.cell? ⟨V, 5, none⟩ = some (.slice a0 sh.length ca0) ∧ wx.cell? ⟨V, 6, none⟩ = some (.slice b0 ot.length cb0) ∧ wx.cell? ⟨V, 7, none⟩ = some (.slice c0 p.length cc0)) ∧ (wx.cell? ⟨V1, 0, none⟩ = some (.int .i64 z1) ∧ wx.cell? ⟨V1, 1, none⟩ = some (.int .i64 r1) ∧ wx.cell? ⟨V1, 2, none⟩ = some (.int .i64 m1) ∧ wx.cell? ⟨V1, 3, none⟩ = some (.int .i64 k1) ∧ wx.cell? ⟨V1, 4, none⟩ = some (.int .i64 i1) ∧ wx.cell? ⟨V1, 5, none⟩ = some (.slice a1 xh.length ca1) ∧ wx.cell? ⟨V1, 6, none⟩ = some (.slice b1 xt.length cb1) ∧ wx.cell? ⟨V1, 7, none⟩ = some (.slice c1 xp.length cc1))) ∧ Below u2.heap.size u2 wx) := fun wx h => by
      obtain ⟨⟨q1, q2⟩, _⟩ := FA.out wx (DE.trans (h.mono DE.size))
      refine ⟨⟨⟨?_, ?_, ?_, ?_, ?_, ?_, ?_, ?_⟩, ?_, ?_, ?_, ?_, ?_, ?_, ?_, ?_⟩, h⟩
      all_goals (first | exact (q1.cell _).trans rfl | exact (q2.cell _).trans rfl)
    have KE : Hid (∀ wx : World, Below u2.heap.size u2 wx → Below E.heap.size E wx) := fun wx h => DE.trans (h.mono DE.size)
    have D0 : Below u2.heap.size u2 u2.drew := (Below.refl _ _).drew
    go_wp2_with fail
    go_region_held3 (fun wx => ((wx.cell? ⟨V, 0, none⟩ = some (.int .i64 z0) ∧ wx.cell? ⟨V, 1, none⟩ = some (.int .i64 r0) ∧ wx.cell? ⟨V, 2, none⟩ = some (.int .i64 m0) ∧ wx.cell? ⟨V, 3, none⟩ = some (.int .i64 k0) ∧ wx.cell? ⟨V, 4, none⟩ = some (.int .i64 i0) ∧ wx.cell? ⟨V, 5, none⟩ = some (.slice a0 sh.length ca0) ∧ wx.cell? ⟨V, 6, none⟩ = some (.slice b0 ot.length cb0) ∧ wx.cell? ⟨V, 7, none⟩ = some (.slice c0 p.length cc0)) ∧ (wx.cell? ⟨V1, 0, none⟩ = some (.int .i64 z1) ∧ wx.cell? ⟨V1, 1, none⟩ = some (.int .i64 r1) ∧ wx.cell? ⟨V1, 2, none⟩ = some (.int .i64 m1) ∧ wx.cell? ⟨V1, 3, none⟩ = some (.int .i64 k1) ∧ wx.cell? ⟨V1, 4, none⟩ = some (.int .i64 i1) ∧ wx.cell? ⟨V1, 5, none⟩ = some (.slice a1 xh.length ca1) ∧ wx.cell? ⟨V1, 6, none⟩ = some (.slice b1 xt.length cb1) ∧ wx.cell? ⟨V1, 7, none⟩ = some (.slice c1 xp.length cc1))) ∧ Below u2.heap.size u2 wx)
      ((first | exact K8.out _ D0 | exact K8.out _ D1 | exact K8.out _ D2 | exact K8.out _ D3))
      (first | (go_at_call_of 11 (Value.agg #[.int .i64 z0, .int .i64 r0, .int .i64 m0, .int .i64 k0, .int .i64 i0, .slice a0 sh.length ca0, .slice b0 ot.length cb0, .slice c0 p.length cc0]); refine (TA.out _ (KE.out _ D0)).mono ?_; rintro r u3 ⟨g1, g2, g3, rfl, X1, hb3⟩; have D1 := D0.trans (hb3.mono D0.size)) | (go_at_call_of 11 (Value.agg #[.int .i64 z1, .int .i64 r1, .int .i64 m1, .int .i64 k1, .int .i64 i1, .slice a1 xh.length ca1, .slice b1 xt.length cb1, .slice c1 xp.length cc1]); refine (TB.out _ (KE.out _ D1)).mono ?_; rintro r u4 ⟨h1, h2, h3, rfl, Y1, hb4⟩; have D2 := D1.trans (hb4.mono D1.size); have X2 := And.intro (X1.1.below hb4 (Nat.le_refl _)) (And.intro (X1.2.1.below hb4 (Nat.le_refl _)) (X1.2.2.below hb4 (Nat.le_refl _)))) | (go_at_call 14; refine (SP.out _ _ _ _ _ _ _ _ _ _ _ _ _ X2 Y1).mono ?_; rintro r u5 ⟨rfl, hb5⟩; have D3 := D2.trans (hb5.mono D2.size)))
    have DE5 := KE.out _ D3
    have BU := BE.trans (DE5.mono BE.size)
    clear D0 D1 D2 D3 K8 KE X1 X2 Y1 hb3 hb4 hb5 SP DE
    obtain ⟨⟨R1, R2⟩, _⟩ := FA.out _ DE5
    have e0 := R1.cell 0
    have e1 := R1.cell 1
    have e2 := R1.cell 2
    have e3 := R1.cell 3
    have e4 := R1.cell 4
    have e5 := R1.cell 5
    have e6 := R1.cell 6
    have e7 := R1.cell 7
    have e9 := R1.lt
    simp at e0 e1 e2 e3 e4 e5 e6 e7
    clear R1 R2
    go_wp2_with fail
    refine (TA.out _ DE5).mono ?_
    rintro r u6 ⟨g1, g2, g3, rfl, X6, hb6⟩
    clear e0 e1 e2 e3 e4 e5 e6 e7 e9
    obtain ⟨G, hG⟩ : ∃ G, G = u6.heap.size := ⟨_, rfl⟩
    obtain ⟨F, hF⟩ : ∃ F, F = u6.alloc (.cells #[.int .i64 z0, .int .i64 r0, .int .i64 m0, .int .i64 k0, .int .i64 i0, .slice (some ⟨g1, 0, none⟩) sh.length sh.length, .slice (some ⟨g2, 0, none⟩) ot.length ot.length, .slice (some ⟨g3, 0, none⟩) p.length p.length] 37) := ⟨_, rfl⟩
    have BF : Below u6.heap.size u6 F := by rw [hF]; exact (Below.refl _ _).alloc (Nat.le_refl _) _
    have RF : Blk F G #[.int .i64 z0, .int .i64 r0, .int .i64 m0, .int .i64 k0, .int .i64 i0, .slice (some ⟨g1, 0, none⟩) sh.length sh.length, .slice (some ⟨g2, 0, none⟩) ot.length ot.length, .slice (some ⟨g3, 0, none⟩) p.length p.length] 37 := by rw [hF, hG]; exact Blk.new _ _ _
    have DE6 := DE5.trans (hb6.mono DE5.size)
    have DF := DE6.trans (BF.mono DE6.size)
    have VX : Hid (∀ wx : World, Below F.heap.size F wx → Blk wx G #[.int .i64 z0, .int .i64 r0, .int .i64 m0, .int .i64 k0, .int .i64 i0, .slice (some ⟨g1, 0, none⟩) sh.length sh.length, .slice (some ⟨g2, 0, none⟩) ot.length ot.length, .slice (some ⟨g3, 0, none⟩) p.length p.length] 37 ∧ Has wx .i64 (some ⟨g1, 0, none⟩) sh.length sh ∧ Has wx .i64 (some ⟨g2, 0, none⟩) ot.length ot ∧ Has wx .i64 (some ⟨g3, 0, none⟩) p.length p) := fun wx h => by
      have h' := BF.trans (h.mono BF.size)
      exact ⟨RF.below h RF.lt, X6.1.below h' (Nat.le_refl _), X6.2.1.below h' (Nat.le_refl _), X6.2.2.below h' (Nat.le_refl _)⟩
    obtain ⟨⟨R1, R2⟩, _⟩ := FA.out _ DE6
    have f0 := R2.cell 0
    have f1 := R2.cell 1
    have f2 := R2.cell 2
    have f3 := R2.cell 3
    have f4 := R2.cell 4
    have f5 := R2.cell 5
    have f6 := R2.cell 6
    have f7 := R2.cell 7
    have f9 := R2.lt
    simp at f0 f1 f2 f3 f4 f5 f6 f7
    clear X6 BF RF hb6 DE6 DE5 R1 R2
    go_wp2_with fail
    simp only [← hG, ← hF]
    clear hG hF
    refine (TB.out _ DF).mono ?_
    rintro r u7 ⟨h1, h2, h3, rfl, Y7, hb7⟩
    clear f0 f1 f2 f3 f4 f5 f6 f7 f9
    obtain ⟨G1, hG⟩ : ∃ G, G = u7.heap.size := ⟨_, rfl⟩
    obtain ⟨J, hJ⟩ : ∃ F, F = u7.alloc (.cells #[.int .i64 z1, .int .i64 r1, .int .i64 m1, .int .i64 k1, .int .i64 i1, .slice (some ⟨h1, 0, none⟩) xh.length xh.length, .slice (some ⟨h2, 0, none⟩) xt.length xt.length, .slice (some ⟨h3, 0, none⟩) xp.length xp.length] 37) := ⟨_, rfl⟩
    have BJ : Below u7.heap.size u7 J := by rw [hJ]; exact (Below.refl _ _).alloc (Nat.le_refl _) _
    have RJ : Blk J G1 #[.int .i64 z1, .int .i64 r1, .int .i64 m1, .int .i64 k1, .int .i64 i1, .slice (some ⟨h1, 0, none⟩) xh.length xh.length, .slice (some ⟨h2, 0, none⟩) xt.length xt.length, .slice (some ⟨h3, 0, none⟩) xp.length xp.length] 37 := by rw [hJ, hG]; exact Blk.new _ _ _
    have FJ : Below F.heap.size F J := hb7.trans (BJ.mono hb7.size)
    have DJ := DF.trans (FJ.mono DF.size)
    have VY : Hid (∀ wx : World, Below J.heap.size J wx → Blk wx G1 #[.int .i64 z1, .int .i64 r1, .int .i64 m1, .int .i64 k1, .int .i64 i1, .slice (some ⟨h1, 0, none⟩) xh.length xh.length, .slice (some ⟨h2, 0, none⟩) xt.length xt.length, .slice (some ⟨h3, 0, none⟩) xp.length xp.length] 37 ∧ Has wx .i64 (some ⟨h1, 0, none⟩) xh.length xh ∧ Has wx .i64 (some ⟨h2, 0, none⟩) xt.length xt ∧ Has wx .i64 (some ⟨h3, 0, none⟩) xp.length xp) := fun wx h => by
      have h' := BJ.trans (h.mono BJ.size)
      exact ⟨RJ.below h RJ.lt, Y7.1.below h' (Nat.le_refl _), Y7.2.1.below h' (Nat.le_refl _), Y7.2.2.below h' (Nat.le_refl _)⟩
    have YG := (VX.out _ FJ).2
    have YG1 := (VY.out _ (Below.refl _ _)).2
    have RG := (VX.out _ hb7).1
    have e0 := RG.cell 0
    have e1 := RG.cell 1
    have e2 := RG.cell 2
    have e3 := RG.cell 3
    have e4 := RG.cell 4
    have e5 := RG.cell 5
    have e6 := RG.cell 6
    have e7 := RG.cell 7
    have e9 := RG.lt
    simp at e0 e1 e2 e3 e4 e5 e6 e7
    clear Y7 BJ RJ hb7 DF RG
    go_wp2_with fail
    simp only [← hG, ← hJ]
    clear hG hJ
    refine (IM.out _ _ _ _ _ _ _ _ _ _ _ _ _ YG YG1).mono ?_
    rintro r u8 ⟨rfl, hb8⟩
    clear e0 e1 e2 e3 e4 e5 e6 e7 e9
    clear YG YG1 IM
    have hne : (cd != cd) = false := by simp
    have KJ : Hid (∀ wx : World, Below u8.heap.size u8 wx → Below J.heap.size J wx) := fun wx h => hb8.trans (h.mono hb8.size)
    have KF : Hid (∀ wx : World, Below u8.heap.size u8 wx → Below F.heap.size F wx) := fun wx h => FJ.trans ((KJ.out _ h).mono FJ.size)
    have KE : Hid (∀ wx : World, Below u8.heap.size u8 wx → Below E.heap.size E wx) := fun wx h => DJ.trans ((KJ.out _ h).mono DJ.size)
    clear hb8 FJ DJ BU
    have K14 : Hid (∀ wx : World, Below u8.heap.size u8 wx → ((wx.cell? ⟨V, 0, none⟩ = some (.int .i64 z0) ∧ wx.cell? ⟨V, 1, none⟩ = some (.int .i64 r0) ∧ wx.cell? ⟨V, 2, none⟩ = some (.int .i64 m0) ∧ wx.cell? ⟨V, 3, none⟩ = some (.int .i64 k0) ∧ wx.cell? ⟨V, 4, none⟩ = some (.int .i64 i0) ∧ wx.cell? ⟨V, 5, none⟩ = some (.slice a0 sh.length ca0) ∧ wx.cell? ⟨V, 6, none⟩ = some (.slice b0 ot.length cb0) ∧ wx.cell? ⟨V, 7, none⟩ = some (.slice c0 p.length cc0)) ∧ (wx.cell? ⟨G, 0, none⟩ = some (.int .i64 z0) ∧ wx.cell? ⟨G, 1, none⟩ = some (.int .i64 r0) ∧ wx.cell? ⟨G, 2, none⟩ = some (.int .i64 m0) ∧ wx.cell? ⟨G, 3, none⟩ = some (.int .i64 k0) ∧ wx.cell? ⟨G, 4, none⟩ = some (.int .i64 i0) ∧ wx.cell? ⟨G, 5, none⟩ = some (.slice (some ⟨g1, 0, none⟩) sh.length sh.length) ∧ wx.cell? ⟨G, 6, none⟩ = some (.slice (some ⟨g2, 0, none⟩) ot.length ot.length) ∧ wx.cell? ⟨G, 7, none⟩ = some (.slice (some ⟨g3, 0, none⟩) p.length p.length))) ∧ Below u8.heap.size u8 wx) := fun wx h => by
      have q1 := (FA.out wx (KE.out _ h)).1.1
      have q2 := (VX.out wx (KF.out _ h)).1
      refine ⟨⟨⟨?_, ?_, ?_, ?_, ?_, ?_, ?_, ?_⟩, ?_, ?_, ?_, ?_, ?_, ?_, ?_, ?_⟩, h⟩
      all_goals (first | exact (q1.cell _).trans rfl | exact (q2.cell _).trans rfl)
    have D0 : Below u8.heap.size u8 u8.drew := (Below.refl _ _).drew
    go_wp2_with fail
    go_region_held3 (fun wx => ((wx.cell? ⟨V, 0, none⟩ = some (.int .i64 z0) ∧ wx.cell? ⟨V, 1, none⟩ = some (.int .i64 r0) ∧ wx.cell? ⟨V, 2, none⟩ = some (.int .i64 m0) ∧ wx.cell? ⟨V, 3, none⟩ = some (.int .i64 k0) ∧ wx.cell? ⟨V, 4, none⟩ = some (.int .i64 i0) ∧ wx.cell? ⟨V, 5, none⟩ = some (.slice a0 sh.length ca0) ∧ wx.cell? ⟨V, 6, none⟩ = some (.slice b0 ot.length cb0) ∧ wx.cell? ⟨V, 7, none⟩ = some (.slice c0 p.length cc0)) ∧ (wx.cell? ⟨G, 0, none⟩ = some (.int .i64 z0) ∧ wx.cell? ⟨G, 1, none⟩ = some (.int .i64 r0) ∧ wx.cell? ⟨G, 2, none⟩ = some (.int .i64 m0) ∧ wx.cell? ⟨G, 3, none⟩ = some (.int .i64 k0) ∧ wx.cell? ⟨G, 4, none⟩ = some (.int .i64 i0) ∧ wx.cell? ⟨G, 5, none⟩ = some (.slice (some ⟨g1, 0, none⟩) sh.length sh.length) ∧ wx.cell? ⟨G, 6, none⟩ = some (.slice (some ⟨g2, 0, none⟩) ot.length ot.length) ∧ wx.cell? ⟨G, 7, none⟩ = some (.slice (some ⟨g3, 0, none⟩) p.length p.length))) ∧ Below u8.heap.size u8 wx)
      ((first | exact K14.out _ D0 | exact K14.out _ D1 | exact K14.out _ D2))
      (first | (go_at_call 11; refine (TA.out _ (KE.out _ D0)).mono ?_; rintro r u9 ⟨x1, x2, x3, rfl, X9, hb9⟩; have D1 := D0.trans (hb9.mono D0.size)) | (go_at_call 13; refine (QA.out _ _ _ _ _ _ _ _ _ _ _ _ _ (VX.out _ (KF.out _ D1)).2 X9).mono ?_; rintro r ux ⟨rfl, hbx⟩; have D2 := D1.trans (hbx.mono D1.size)))
    have PE := KE.out _ D2
    have PJ := KJ.out _ D2
    clear D0 D1 D2 K14 hb9 hbx X9 KE KJ KF QA TA
    have K16 : Hid (∀ wx : World, Below ux.heap.size ux wx → ((wx.cell? ⟨V1, 0, none⟩ = some (.int .i64 z1) ∧ wx.cell? ⟨V1, 1, none⟩ = some (.int .i64 r1) ∧ wx.cell? ⟨V1, 2, none⟩ = some (.int .i64 m1) ∧ wx.cell? ⟨V1, 3, none⟩ = some (.int .i64 k1) ∧ wx.cell? ⟨V1, 4, none⟩ = some (.int .i64 i1) ∧ wx.cell? ⟨V1, 5, none⟩ = some (.slice a1 xh.length ca1) ∧ wx.cell? ⟨V1, 6, none⟩ = some (.slice b1 xt.length cb1) ∧ wx.cell? ⟨V1, 7, none⟩ = some (.slice c1 xp.length cc1)) ∧ (wx.cell? ⟨G1, 0, none⟩ = some (.int .i64 z1) ∧ wx.cell? ⟨G1, 1, none⟩ = some (.int .i64 r1) ∧ wx.cell? ⟨G1, 2, none⟩ = some (.int .i64 m1) ∧ wx.cell? ⟨G1, 3, none⟩ = some (.int .i64 k1) ∧ wx.cell? ⟨G1, 4, none⟩ = some (.int .i64 i1) ∧ wx.cell? ⟨G1, 5, none⟩ = some (.slice (some ⟨h1, 0, none⟩) xh.length xh.length) ∧ wx.cell? ⟨G1, 6, none⟩ = some (.slice (some ⟨h2, 0, none⟩) xt.length xt.length) ∧ wx.cell? ⟨G1, 7, none⟩ = some (.slice (some ⟨h3, 0, none⟩) xp.length xp.length))) ∧ Below ux.heap.size ux wx) := fun wx h => by
      have q1 := (FA.out wx (PE.trans (h.mono PE.size))).1.2
      have q2 := (VY.out wx (PJ.trans (h.mono PJ.size))).1
      refine ⟨⟨⟨?_, ?_, ?_, ?_, ?_, ?_, ?_, ?_⟩, ?_, ?_, ?_, ?_, ?_, ?_, ?_, ?_⟩, h⟩
      all_goals (first | exact (q1.cell _).trans rfl | exact (q2.cell _).trans rfl)
    have D0 : Below ux.heap.size ux ux.drew := (Below.refl _ _).drew
    have PEk : Hid (∀ wx : World, Below ux.heap.size ux wx → Below E.heap.size E wx ∧ Below J.heap.size J wx) := fun wx h => ⟨PE.trans (h.mono PE.size), PJ.trans (h.mono PJ.size)⟩
    clear PE PJ
    go_wp2_with fail
    go_region_held3 (fun wx => ((wx.cell? ⟨V1, 0, none⟩ = some (.int .i64 z1) ∧ wx.cell? ⟨V1, 1, none⟩ = some (.int .i64 r1) ∧ wx.cell? ⟨V1, 2, none⟩ = some (.int .i64 m1) ∧ wx.cell? ⟨V1, 3, none⟩ = some (.int .i64 k1) ∧ wx.cell? ⟨V1, 4, none⟩ = some (.int .i64 i1) ∧ wx.cell? ⟨V1, 5, none⟩ = some (.slice a1 xh.length ca1) ∧ wx.cell? ⟨V1, 6, none⟩ = some (.slice b1 xt.length cb1) ∧ wx.cell? ⟨V1, 7, none⟩ = some (.slice c1 xp.length cc1)) ∧ (wx.cell? ⟨G1, 0, none⟩ = some (.int .i64 z1) ∧ wx.cell? ⟨G1, 1, none⟩ = some (.int .i64 r1) ∧ wx.cell? ⟨G1, 2, none⟩ = some (.int .i64 m1) ∧ wx.cell? ⟨G1, 3, none⟩ = some (.int .i64 k1) ∧ wx.cell? ⟨G1, 4, none⟩ = some (.int .i64 i1) ∧ wx.cell? ⟨G1, 5, none⟩ = some (.slice (some ⟨h1, 0, none⟩) xh.length xh.length) ∧ wx.cell? ⟨G1, 6, none⟩ = some (.slice (some ⟨h2, 0, none⟩) xt.length xt.length) ∧ wx.cell? ⟨G1, 7, none⟩ = some (.slice (some ⟨h3, 0, none⟩) xp.length xp.length))) ∧ Below ux.heap.size ux wx)
      ((first | exact K16.out _ D0 | exact K16.out _ D1 | exact K16.out _ D2))
      (first | (go_at_call 11; refine (TB.out _ (PEk.out _ D0).1).mono ?_; rintro r uy ⟨x1, x2, x3, rfl, X9, hby⟩; have D1 := D0.trans (hby.mono D0.size)) | (go_at_call 13; refine (QB.out _ _ _ _ _ _ _ _ _ _ _ _ _ (VY.out _ (PEk.out _ D1).2).2 X9).mono ?_; rintro r uz ⟨rfl, hbz⟩; have D2 := D1.trans (hbz.mono D1.size)))
    have PZ := (PEk.out _ D2).1
    go_wp2
    go_ret
    exact ⟨rfl, BE.trans (PZ.mono BE.size)⟩

set_option maxRecDepth 100000 in
theorem fnExactSameSigned_lifted (os : Os) (started : os.Started) (H : Type) (enc : TypeId × Value → H) :
    ReturnsInHanded {} Try.checked os 5 .any (Rows.fnExactSameSignedSpec.pre6 enc Try.prog Try.f5 Rows.fnExactSameSignedRow.domain false) (Rows.fnExactSameSignedSpec.post enc Try.prog Try.f5 false true false false) := by
  refine returnsInHanded_of_change (C := Try.checked) own started (by kernel_rfl) Try.func5
    (ChangeSpec.witness6 (enc := enc) (C := Try.checked) false ⟨#[], #[.agg #[.int .i64 0, .int .i64 0, .int .i64 0, .int .i64 0, .int .i64 0, .slice none 0 0, .slice none 0 0, .slice none 0 0], .agg #[.int .i64 0, .int .i64 0, .int .i64 0, .int .i64 0, .int .i64 0, .slice none 0 0, .slice none 0 0, .slice none 0 0]], []⟩ 8 (by kernel_rfl) (by kernel_rfl) (by kernel_rfl) (by kernel_rfl)) ?_
  intro W base args ds gs before hval0 hW hcnd _
  have hval : ∀ (j : Nat) t v, Try.f5.params[j]? = some t → args[j]? = some v → Value.okWide Try.prog W .any base t v := hval0
  have hW' := hW
  obtain ⟨p, q, hA0, hV, rfl, hfz, hnd⟩ := hW
  have hA : DataW.TrodAll enc Try.prog W 0 (fun _ => true) true Try.f5.params.toList args.toList ds p := hA0
  rw [Try.params5] at hA hval
  obtain ⟨v0, vs0, d0, ds0, p0, q0, hargs, rfl, rfl, h0, tr0⟩ := trodAll_cons hA
  obtain ⟨v1, vs1, d1, ds1, p1, q1, rfl, rfl, rfl, h1, tr1⟩ := trodAll_cons tr0
  obtain ⟨rfl, rfl, rfl⟩ := trodAll_nil tr1
  obtain rfl : args = #[v0, v1] := by cases args; simp_all
  obtain ⟨rfl, rfl⟩ := trodVars_none hV
  have g0 := h0
  have lt0 : ∀ x ∈ p0, x.block < W.heap.size := by obtain ⟨m, hm⟩ := g0; exact DataW.trod_lt m _ _ _ hm
  have g1 := h1
  have lt1 : ∀ x ∈ p1, x.block < W.heap.size := by obtain ⟨m, hm⟩ := g1; exact DataW.trod_lt m _ _ _ hm
  obtain ⟨t0, t1, t2, t3, t4, t5, t6, t7, y0, y1, y2, y3, y4, y5, y6, y7, fu, fv, fw, rfl, ⟨hy0, hy1, hy2, hy3⟩, ⟨hy4, hy5, hy6⟩, hy7⟩ := open_signed Try.underlying32 Try.underlying23 Try.underlying30 (by kernel_rfl) (by kernel_rfl) (by kernel_rfl) (by kernel_rfl) (by kernel_rfl) (hval 0 32 v0 rfl rfl) h0
  obtain ⟨z0, q0, rfl, wz0⟩ := DataW.trod_int Try.underlying2 hy0
  obtain ⟨r0, q1, rfl, wr0⟩ := DataW.trod_int Try.underlying2 hy1
  obtain ⟨m0, q2, rfl, wm0⟩ := DataW.trod_int Try.underlying2 hy2
  obtain ⟨k0, q3, rfl, wk0⟩ := DataW.trod_int Try.underlying2 hy3
  obtain ⟨i0, q4, rfl, wi0⟩ := DataW.trod_int Try.underlying2 hy4
  obtain ⟨a0, la0, ca0, sh0, q5, wa0⟩ := row_of_trod Try.underlying28 Try.underlying2 (by kernel_rfl) hy5
  obtain ⟨b0, lb0, cb0, ot0, q6, wb0⟩ := row_of_trod Try.underlying28 Try.underlying2 (by kernel_rfl) hy6
  obtain ⟨c0, lc0, cc0, p0, q7, wc0⟩ := row_of_trod Try.underlying28 Try.underlying2 (by kernel_rfl) hy7
  simp at q0 q1 q2 q3 q4
  subst q0 q1 q2 q3 q4 q5 q6 q7
  obtain ⟨t0, t1, t2, t3, t4, t5, t6, t7, y0, y1, y2, y3, y4, y5, y6, y7, fu, fv, fw, rfl, ⟨hy0, hy1, hy2, hy3⟩, ⟨hy4, hy5, hy6⟩, hy7⟩ := open_signed Try.underlying32 Try.underlying23 Try.underlying30 (by kernel_rfl) (by kernel_rfl) (by kernel_rfl) (by kernel_rfl) (by kernel_rfl) (hval 1 32 v1 rfl rfl) h1
  obtain ⟨z1, q0, rfl, wz1⟩ := DataW.trod_int Try.underlying2 hy0
  obtain ⟨r1, q1, rfl, wr1⟩ := DataW.trod_int Try.underlying2 hy1
  obtain ⟨m1, q2, rfl, wm1⟩ := DataW.trod_int Try.underlying2 hy2
  obtain ⟨k1, q3, rfl, wk1⟩ := DataW.trod_int Try.underlying2 hy3
  obtain ⟨i1, q4, rfl, wi1⟩ := DataW.trod_int Try.underlying2 hy4
  obtain ⟨a1, la1, ca1, sh1, q5, wa1⟩ := row_of_trod Try.underlying28 Try.underlying2 (by kernel_rfl) hy5
  obtain ⟨b1, lb1, cb1, ot1, q6, wb1⟩ := row_of_trod Try.underlying28 Try.underlying2 (by kernel_rfl) hy6
  obtain ⟨c1, lc1, cc1, p1, q7, wc1⟩ := row_of_trod Try.underlying28 Try.underlying2 (by kernel_rfl) hy7
  simp at q0 q1 q2 q3 q4
  subst q0 q1 q2 q3 q4 q5 q6 q7
  clear hA0 hval0
  refine (fnExactSameSigned_walk W z0 r0 m0 k0 i0 a0 b0 c0 la0 ca0 lb0 cb0 lc0 cc0 sh0 ot0 p0 wa0 wb0 wc0 z1 r1 m1 k1 i1 a1 b1 c1 la1 ca1 lb1 cb1 lc1 cc1 sh1 ot1 p1 wa1 wb1 wc1).mono fun e W' ⟨he, bel⟩ => ?_
  subst he
  exact ⟨_, rfl, _, _, _, [], _, [], hW', trodAll_mk1 (shut_bool Try.underlying4 _), (trodAll_cons_mk (Below.trod laidOut (by kernel_rfl) (of_decide_eq_true (by kernel_rfl)) g0 bel lt0) (trodAll_cons_mk (Below.trod laidOut (by kernel_rfl) (of_decide_eq_true (by kernel_rfl)) g1 bel lt1) trodAll_mk0)), rfl, bel.frame _, fun h => by cases h⟩

theorem fnExactSameSigned_holds : Rows.FnExactSameSignedSaid :=
  OpenClaim.holds_of_wide 5 Try.f5 rfl rfl rfl rfl rfl rfl rfl ⟨rfl, rfl, rfl, rfl, rfl⟩ rfl rfl rfl rfl rfl (by kernel_rfl) Try.func5 (by kernel_rfl)
    (of_decide_eq_true (by kernel_rfl)) (by unfold Func.isWrapper; first | (rw [if_pos (by decide +kernel)]; kernel_rfl) | (rw [if_neg (by decide +kernel)]; exact ⟨rfl, rfl⟩))
    (fun os started H enc _ => fnExactSameSigned_lifted os started H enc)
#print axioms fnExactSameSigned_holds
end Go.Proofs.Ytffidkoejlebeaa
