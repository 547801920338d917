/- Contracts of the laws' own functions over heads, and over signed ones. -/
import Derived.Test.YtffidkoejlebeaaDoorKyE
import Derived.Test.YtffidkoejlebeaaDoorEqInt
import Derived.Test.YtffidkoejlebeaaDoorFrB
import Derived.Test.YtffidkoejlebeaaDoorRegB
namespace Go.Proofs.YtffidkoejlebeaaDoor
open Go.ChangeShapes Go.WideShapes Go.ChangeAt Go.RowKit
set_option maxRecDepth 100000
set_option linter.unusedVariables false
set_option linter.unusedSimpArgs false

set_option maxHeartbeats 1000000 in
theorem toHead_any (z r m k : Int) (w : World) :
    Calls Tryd.prog 9 #[.agg #[.int .i64 z, .int .i64 r, .int .i64 m, .int .i64 k]] w fun e w' => e = .returned (.agg #[.int .i64 z, .int .i64 r, .int .i64 m, .int .i64 k]) ∧ Below w.heap.size w w' := by
  go_enter Tryd.func9, Tryd.ntmps9
  go_wp2
  refine bodyPost_ret (v := .agg #[.int .i64 z, .int .i64 r, .int .i64 m, .int .i64 k]) (by simp [results, Tryd.results9, go_sem]) rfl ⟨rfl, ?_⟩
  repeat (first | exact Below.refl _ _ | refine Below.alloc ?_ (by (try simp) <;> omega) _ | refine Below.setCell ?_ (by (try simp) <;> omega) _)

set_option maxHeartbeats 1000000 in
theorem eqHead_any (z r m k : Int) (w : World) :
    Calls Tryd.prog 41 #[.agg #[.int .i64 z, .int .i64 r, .int .i64 m, .int .i64 k], .agg #[.int .i64 z, .int .i64 r, .int .i64 m, .int .i64 k]] w fun e w' => e = .returned (.bool true) ∧ Below w.heap.size w w' := by
  have e1 : (z != z) = false := by simp
  have e2 : (r != r) = false := by simp
  have e3 : (m != m) = false := by simp
  have e4 : (k != k) = false := by simp
  go_enter Tryd.func41, Tryd.ntmps41
  go_wp2
  go_ret
  exact ⟨rfl, ((Below.refl _ _).alloc (Nat.le_refl _) _).alloc (by simp) _⟩

set_option maxHeartbeats 1000000 in
theorem eqHeadR_any (cd z r m k : Int) (w : World) :
    Calls Tryd.prog 17 #[.agg #[.int .i64 cd, .int .i64 z, .int .i64 r, .int .i64 m, .int .i64 k], .agg #[.int .i64 cd, .int .i64 z, .int .i64 r, .int .i64 m, .int .i64 k]] w fun e w' => e = .returned (.bool true) ∧ Below w.heap.size w w' := by
  have e1 : (cd != cd) = false := by simp
  go_enter Tryd.func17, Tryd.ntmps17
  go_wp2_with fail
  refine (eqHead_any z r m k _).mono ?_
  rintro e u1 ⟨rfl, hb1⟩
  go_wp2
  go_ret
  exact ⟨rfl, (((Below.refl _ _).alloc (Nat.le_refl _) _).alloc (by simp) _).trans (hb1.mono (by simp; omega))⟩

set_option maxHeartbeats 1000000 in
theorem szSigned_any (z r m k i : Int) (a b c : Option Addr) (la lb lc ca cb cc : Nat) (w : World) (hla : la ≤ 9223372036854775807) (hlb : lb ≤ 9223372036854775807) (hlc : lc ≤ 9223372036854775807) :
    Calls Tryd.prog 27 #[.agg #[.int .i64 z, .int .i64 r, .int .i64 m, .int .i64 k, .int .i64 i, .slice a la ca, .slice b lb cb, .slice c lc cc], .int .i64 1048576] w fun r' w' => r' = .returned (.int .i64 (if la + lb + lc ≤ 1048576 then 1048576 - la - lb - lc else -1)) ∧ Below w.heap.size w w' := by
  have SZ := szSign_any i a b la lb ca cb (w.alloc (.cells #[.int .i64 z, .int .i64 r, .int .i64 m, .int .i64 k, .int .i64 i, .slice a la ca, .slice b lb cb, .slice c lc cc] 57)) hla hlb
  by_cases h1 : la + lb ≤ 1048576
  · have g1 : ¬ (1048576 : Int) - (la : Int) - (lb : Int) < 0 := by omega
    have S2 : Hid (∀ u : World, Calls Tryd.prog 54 #[.slice c lc cc, .int .i64 (1048576 - (la : Int) - (lb : Int))] u fun r w' => r = .returned (.int .i64 (if la + lb + lc ≤ 1048576 then 1048576 - (la : Int) - lb - lc else -1)) ∧ w' = u) := fun u => by
      have := szInt64S_any c lc cc (1048576 - (la : Int) - (lb : Int)) u (by omega) (by omega) hlc
      by_cases h2 : la + lb + lc ≤ 1048576
      · rw [if_neg (by omega)] at this; rw [if_pos h2]; exact this
      · rw [if_pos (by omega)] at this; rw [if_neg h2]; exact this
    rw [if_pos h1] at SZ
    by_cases h2 : la + lb + lc ≤ 1048576
    · rw [if_pos h2] at S2 ⊢
      have g2 : ¬ (1048576 : Int) - (la : Int) - (lb : Int) - (lc : Int) < 0 := by omega
      clear h1 h2
      go_enter Tryd.func27, Tryd.ntmps27
      go_wp2_with fail
      refine SZ.mono ?_
      rintro e u1 ⟨rfl, hb1⟩
      have hc := (hb1.cell (p := ⟨w.heap.size, 7, none⟩) (by simp)).trans (show _ = some (.slice c lc cc) by simp [go_sem])
      have zz := hb1.size
      simp at zz
      go_wp2_with fail
      refine (S2.out _).mono ?_
      rintro e u ⟨rfl, hu⟩; have hu2 := hu.symm; subst hu2; clear hu
      go_wp2
      go_ret
      exact ⟨rfl, ((Below.refl _ _).alloc (Nat.le_refl _) _).trans (hb1.mono (by simp))⟩
    · rw [if_neg h2] at S2 ⊢
      clear h1 h2
      go_enter Tryd.func27, Tryd.ntmps27
      go_wp2_with fail
      refine SZ.mono ?_
      rintro e u1 ⟨rfl, hb1⟩
      have hc := (hb1.cell (p := ⟨w.heap.size, 7, none⟩) (by simp)).trans (show _ = some (.slice c lc cc) by simp [go_sem])
      have zz := hb1.size
      simp at zz
      go_wp2_with fail
      refine (S2.out _).mono ?_
      rintro e u ⟨rfl, hu⟩; have hu2 := hu.symm; subst hu2; clear hu
      go_wp2
      go_ret
      exact ⟨rfl, ((Below.refl _ _).alloc (Nat.le_refl _) _).trans (hb1.mono (by simp))⟩
  · rw [if_neg h1] at SZ
    rw [if_neg (by omega)]
    clear h1
    go_enter Tryd.func27, Tryd.ntmps27
    go_wp2_with fail
    refine SZ.mono ?_
    rintro e u1 ⟨rfl, hb1⟩
    go_wp2
    go_ret
    exact ⟨rfl, ((Below.refl _ _).alloc (Nat.le_refl _) _).trans (hb1.mono (by simp))⟩

theorem Has.frK {M : Nat → Prop} {w w' : World} {K : IntKind} {g o n : Nat} {zs : List Int} (h : Has w K (some ⟨g, o, none⟩) n zs) (hf : Fr M w w') (hn : ¬ M g) : Has w' K (some ⟨g, o, none⟩) n zs := by
  refine ⟨h.1, h.2.1, h.2.2.imp id ?_⟩
  rintro ⟨b', off, e, hlt, hc⟩
  have e' := e
  simp at e'
  obtain ⟨rfl, rfl⟩ := e'
  exact ⟨g, o, rfl, Nat.lt_of_lt_of_le hlt hf.size, fun i hi => (World.cell?_of_block (hf.block g hlt hn)).trans (hc i hi)⟩

set_option maxHeartbeats 4000000 in
theorem toSigned_any (z r m k i : Int) (a b c : Option Addr) (ca cb cc : Nat) (sh ot p : List Int) (w : World) (hs : Has w .i64 a sh.length sh) (ho : Has w .i64 b ot.length ot) (hp : Has w .i64 c p.length p) (h1 : sh.length ≤ 1048576) (h2 : ot.length ≤ 1048576) (h3 : p.length ≤ 1048576) :
    Calls Tryd.prog 29 #[.agg #[.int .i64 z, .int .i64 r, .int .i64 m, .int .i64 k, .int .i64 i, .slice a sh.length ca, .slice b ot.length cb, .slice c p.length cc]] w fun e w' => ∃ g1 g2 g3, e = .returned (.agg #[.int .i64 z, .int .i64 r, .int .i64 m, .int .i64 k, .int .i64 i, .slice (some ⟨g1, 0, none⟩) sh.length sh.length, .slice (some ⟨g2, 0, none⟩) ot.length ot.length, .slice (some ⟨g3, 0, none⟩) p.length p.length]) ∧ Has w' .i64 (some ⟨g1, 0, none⟩) sh.length sh ∧ Has w' .i64 (some ⟨g2, 0, none⟩) ot.length ot ∧ Has w' .i64 (some ⟨g3, 0, none⟩) p.length p ∧ Below w.heap.size w w' := by
  obtain ⟨E, hE⟩ : ∃ E, E = ((w.alloc (.cells #[.int .i64 z, .int .i64 r, .int .i64 m, .int .i64 k, .int .i64 i, .slice a sh.length ca, .slice b ot.length cb, .slice c p.length cc] 57)).alloc (.cells #[.int .i64 0, .int .i64 0, .int .i64 0, .int .i64 0, .int .i64 0, .slice none 0 0, .slice none 0 0, .slice none 0 0] 48)).alloc (.cells #[.int .i64 0, .int .i64 0, .int .i64 0, .int .i64 0, .int .i64 0, .slice none 0 0, .slice none 0 0, .slice none 0 0] 48) := ⟨_, rfl⟩
  have BE : Below w.heap.size w E := by rw [hE]; exact (((Below.refl _ _).alloc (Nat.le_refl _) _).alloc (by simp) _).alloc (by simp; omega) _
  have zE : E.heap.size = w.heap.size + 1 + 1 + 1 := by rw [hE]; simp
  have RB : Blk E w.heap.size #[.int .i64 z, .int .i64 r, .int .i64 m, .int .i64 k, .int .i64 i, .slice a sh.length ca, .slice b ot.length cb, .slice c p.length cc] 57 := by rw [hE]; exact ((Blk.new _ _ _).below ((Below.refl _ _).alloc (Nat.le_refl _) _) (Blk.new _ _ _).lt).below ((Below.refl _ _).alloc (Nat.le_refl _) _) ((Blk.new _ _ _).below ((Below.refl _ _).alloc (Nat.le_refl _) _) (Blk.new _ _ _).lt).lt
  have R1 : Blk E (w.heap.size + 1) #[.int .i64 0, .int .i64 0, .int .i64 0, .int .i64 0, .int .i64 0, .slice none 0 0, .slice none 0 0, .slice none 0 0] 48 := by
    have := Blk.new (w.alloc (.cells #[.int .i64 z, .int .i64 r, .int .i64 m, .int .i64 k, .int .i64 i, .slice a sh.length ca, .slice b ot.length cb, .slice c p.length cc] 57)) #[.int .i64 0, .int .i64 0, .int .i64 0, .int .i64 0, .int .i64 0, .slice none 0 0, .slice none 0 0, .slice none 0 0] 48
    rw [World.size_alloc] at this
    rw [hE]; exact this.below ((Below.refl _ _).alloc (Nat.le_refl _) _) this.lt
  have R2 : Blk E (w.heap.size + 1 + 1) #[.int .i64 0, .int .i64 0, .int .i64 0, .int .i64 0, .int .i64 0, .slice none 0 0, .slice none 0 0, .slice none 0 0] 48 := by
    have := Blk.new ((w.alloc (.cells #[.int .i64 z, .int .i64 r, .int .i64 m, .int .i64 k, .int .i64 i, .slice a sh.length ca, .slice b ot.length cb, .slice c p.length cc] 57)).alloc (.cells #[.int .i64 0, .int .i64 0, .int .i64 0, .int .i64 0, .int .i64 0, .slice none 0 0, .slice none 0 0, .slice none 0 0] 48)) #[.int .i64 0, .int .i64 0, .int .i64 0, .int .i64 0, .int .i64 0, .slice none 0 0, .slice none 0 0, .slice none 0 0] 48
    rw [World.size_alloc, World.size_alloc] at this
    rw [hE]; exact this
  obtain ⟨V, hV⟩ : ∃ V, V = w.heap.size + 1 + 1 := ⟨_, rfl⟩
  obtain ⟨Q, hQ⟩ : ∃ Q, Q = w.heap.size + 1 := ⟨_, rfl⟩
  rw [← hV] at R2
  rw [← hQ] at R1
  have n1 : w.heap.size ≠ V := by omega
  have n2 : Q ≠ V := by omega
  have qv : Q < V := by omega
  have vw : w.heap.size ≤ V := by omega
  have qw : w.heap.size ≤ Q := by omega
  have vE : V < E.heap.size := by omega
  have qE : Q < E.heap.size := by omega
  have HS : Hid (∀ u : World, Below w.heap.size w u → Has u .i64 a sh.length sh ∧ Has u .i64 b ot.length ot ∧ Has u .i64 c p.length p) := fun u h => ⟨hs.below h (Nat.le_refl _), ho.below h (Nat.le_refl _), hp.below h (Nat.le_refl _)⟩
  have EV : Hid (w.heap.size + 1 + 1 = V) := hV.symm
  have EQ : Hid (w.heap.size + 1 = Q) := hQ.symm
  clear hs ho hp hV hQ zE
  go_enter Tryd.func29, Tryd.ntmps29
  go_upto_region 2 with fail
  simp only [← hE]
  clear hE
  rw [EV.out, EQ.out]
  have b0 := (RB).cell 0
  have b1 := (RB).cell 1
  have b2 := (RB).cell 2
  have b3 := (RB).cell 3
  have b4 := (RB).cell 4
  have b5 := (RB).cell 5
  have b6 := (RB).cell 6
  have b7 := (RB).cell 7
  have c00 := (RB).frozen 0
  have c01 := (RB).frozen 1
  have c02 := (RB).frozen 2
  have c03 := (RB).frozen 3
  have c04 := (RB).frozen 4
  have c05 := (RB).frozen 5
  have c06 := (RB).frozen 6
  have c07 := (RB).frozen 7
  simp at b0 b1 b2 b3 b4 b5 b6 b7
  have bl := RB.lt
  go_wp2_with fail
  refine (toHead_any z r m k E).mono ?_
  rintro e u1 ⟨rfl, hb1⟩
  have B1 := BE.trans (hb1.mono BE.size)
  have S1 := R1.below hb1 R1.lt
  have S2 := R2.below hb1 R2.lt
  have SB := RB.below hb1 RB.lt
  clear b0 b1 b2 b3 b4 b5 b6 b7 c00 c01 c02 c03 c04 c05 c06 c07 bl
  obtain ⟨X, hX⟩ : ∃ X, X = (((u1.setCell ⟨V, 0, none⟩ (.int .i64 z)).setCell ⟨V, 1, none⟩ (.int .i64 r)).setCell ⟨V, 2, none⟩ (.int .i64 m)).setCell ⟨V, 3, none⟩ (.int .i64 k) := ⟨_, rfl⟩
  have fX : Fr (fun j => j = V) u1 X := by rw [hX]; exact (((Fr.setCell (Fr.refl (fun j => j = V) u1) ⟨V, 0, none⟩ _ rfl).setCell ⟨V, 1, none⟩ _ rfl).setCell ⟨V, 2, none⟩ _ rfl).setCell ⟨V, 3, none⟩ _ rfl
  have T2 : Blk X V #[.int .i64 z, .int .i64 r, .int .i64 m, .int .i64 k, .int .i64 0, .slice none 0 0, .slice none 0 0, .slice none 0 0] 48 := by rw [hX]; have := (((S2.set 0 (.int .i64 z)).set 1 (.int .i64 r)).set 2 (.int .i64 m)).set 3 (.int .i64 k); simpa using this
  have T1 := S1.fr fX n2
  have TB := SB.fr fX n1
  have BX : Below w.heap.size w X := B1.trans (fX.below (fun j e => by omega) B1.size)
  have d0 := (S2).cell 0
  have d1 := (S2).cell 1
  have d2 := (S2).cell 2
  have d3 := (S2).cell 3
  have d4 := (S2).cell 4
  have d5 := (S2).cell 5
  have d6 := (S2).cell 6
  have d7 := (S2).cell 7
  have e0 := (S2).frozen 0
  have e1 := (S2).frozen 1
  have e2 := (S2).frozen 2
  have e3 := (S2).frozen 3
  have e4 := (S2).frozen 4
  have e5 := (S2).frozen 5
  have e6 := (S2).frozen 6
  have e7 := (S2).frozen 7
  simp at d0 d1 d2 d3 d4 d5 d6 d7
  have sl := S2.lt
  go_upto_region 3 with fail
  simp only [← hX]
  clear hX d0 d1 d2 d3 d4 d5 d6 d7 e0 e1 e2 e3 e4 e5 e6 e7 sl S1 S2 SB B1 hb1 fX
  have b0 := (TB).cell 0
  have b1 := (TB).cell 1
  have b2 := (TB).cell 2
  have b3 := (TB).cell 3
  have b4 := (TB).cell 4
  have b5 := (TB).cell 5
  have b6 := (TB).cell 6
  have b7 := (TB).cell 7
  have c00 := (TB).frozen 0
  have c01 := (TB).frozen 1
  have c02 := (TB).frozen 2
  have c03 := (TB).frozen 3
  have c04 := (TB).frozen 4
  have c05 := (TB).frozen 5
  have c06 := (TB).frozen 6
  have c07 := (TB).frozen 7
  simp at b0 b1 b2 b3 b4 b5 b6 b7
  have bl := TB.lt
  obtain ⟨HA, HB, _⟩ := HS.out X BX
  go_wp2_with fail
  refine (toSign_any i a b ca cb sh ot X HA HB h1 h2).mono ?_
  rintro e u2 ⟨g1, g2, rfl, G1, G2, gx1, gx2, gx3, hb2⟩
  have B2 := BX.trans (hb2.mono BX.size)
  have S1 := T1.below hb2 T1.lt
  have S2 := T2.below hb2 T2.lt
  have SB := TB.below hb2 TB.lt
  have vX := T2.lt
  have qX := T1.lt
  clear b0 b1 b2 b3 b4 b5 b6 b7 c00 c01 c02 c03 c04 c05 c06 c07 bl HA HB
  obtain ⟨X2, hX⟩ : ∃ X, X = ((u2.setCell ⟨V, 4, none⟩ (.int .i64 i)).setCell ⟨V, 5, none⟩ (.slice (some ⟨g1, 0, none⟩) sh.length sh.length)).setCell ⟨V, 6, none⟩ (.slice (some ⟨g2, 0, none⟩) ot.length ot.length) := ⟨_, rfl⟩
  have fX : Fr (fun j => j = V) u2 X2 := by rw [hX]; exact ((Fr.setCell (Fr.refl (fun j => j = V) u2) ⟨V, 4, none⟩ _ rfl).setCell ⟨V, 5, none⟩ _ rfl).setCell ⟨V, 6, none⟩ _ rfl
  have U2 : Blk X2 V #[.int .i64 z, .int .i64 r, .int .i64 m, .int .i64 k, .int .i64 i, .slice (some ⟨g1, 0, none⟩) sh.length sh.length, .slice (some ⟨g2, 0, none⟩) ot.length ot.length, .slice none 0 0] 48 := by rw [hX]; have := ((S2.set 4 (.int .i64 i)).set 5 (.slice (some ⟨g1, 0, none⟩) sh.length sh.length)).set 6 (.slice (some ⟨g2, 0, none⟩) ot.length ot.length); simpa using this
  have U1 := S1.fr fX n2
  have UB := SB.fr fX n1
  have G3 := G1.frK fX (show ¬ g1 = V by omega)
  have G4 := G2.frK fX (show ¬ g2 = V by omega)
  have gs1 : V < g1 := by omega
  have gs2 : V < g2 := by omega
  have BX2 : Below w.heap.size w X2 := B2.trans (fX.below (fun j e => by omega) B2.size)
  have d0 := (S2).cell 0
  have d1 := (S2).cell 1
  have d2 := (S2).cell 2
  have d3 := (S2).cell 3
  have d4 := (S2).cell 4
  have d5 := (S2).cell 5
  have d6 := (S2).cell 6
  have d7 := (S2).cell 7
  have e0 := (S2).frozen 0
  have e1 := (S2).frozen 1
  have e2 := (S2).frozen 2
  have e3 := (S2).frozen 3
  have e4 := (S2).frozen 4
  have e5 := (S2).frozen 5
  have e6 := (S2).frozen 6
  have e7 := (S2).frozen 7
  simp at d0 d1 d2 d3 d4 d5 d6 d7
  have sl := S2.lt
  go_upto_region 4 with fail
  simp only [← hX]
  clear hX d0 d1 d2 d3 d4 d5 d6 d7 e0 e1 e2 e3 e4 e5 e6 e7 sl S1 S2 SB B2 hb2 fX G1 G2 T1 T2 TB BX gx1 gx2 gx3
  have b0 := (UB).cell 0
  have b1 := (UB).cell 1
  have b2 := (UB).cell 2
  have b3 := (UB).cell 3
  have b4 := (UB).cell 4
  have b5 := (UB).cell 5
  have b6 := (UB).cell 6
  have b7 := (UB).cell 7
  have c00 := (UB).frozen 0
  have c01 := (UB).frozen 1
  have c02 := (UB).frozen 2
  have c03 := (UB).frozen 3
  have c04 := (UB).frozen 4
  have c05 := (UB).frozen 5
  have c06 := (UB).frozen 6
  have c07 := (UB).frozen 7
  simp at b0 b1 b2 b3 b4 b5 b6 b7
  have bl := UB.lt
  obtain ⟨_, _, HC⟩ := HS.out X2 BX2
  go_wp2_with fail
  refine (toInts_has c cc p X2 HC h3).mono ?_
  rintro e u3 ⟨rfl, hb3, G5, hy3⟩
  have B3 := BX2.trans (hb3.mono BX2.size)
  have S1 := U1.below hb3 U1.lt
  have S2 := U2.below hb3 U2.lt
  have G6 := G3.below hb3 (Nat.le_refl _)
  have G7 := G4.below hb3 (Nat.le_refl _)
  have vX := U2.lt
  have qX := U1.lt
  clear b0 b1 b2 b3 b4 b5 b6 b7 c00 c01 c02 c03 c04 c05 c06 c07 bl HC
  have gs3 : V < X2.heap.size := by omega
  have gq3 : Q < X2.heap.size := by omega
  obtain ⟨X3, hX⟩ : ∃ X, X = u3.setCell ⟨V, 7, none⟩ (.slice (some ⟨X2.heap.size, 0, none⟩) p.length p.length) := ⟨_, rfl⟩
  have fX : Fr (fun j => j = V) u3 X3 := by rw [hX]; exact Fr.setCell (Fr.refl (fun j => j = V) u3) ⟨V, 7, none⟩ _ rfl
  have W2 : Blk X3 V #[.int .i64 z, .int .i64 r, .int .i64 m, .int .i64 k, .int .i64 i, .slice (some ⟨g1, 0, none⟩) sh.length sh.length, .slice (some ⟨g2, 0, none⟩) ot.length ot.length, .slice (some ⟨X2.heap.size, 0, none⟩) p.length p.length] 48 := by rw [hX]; have := S2.set 7 (.slice (some ⟨X2.heap.size, 0, none⟩) p.length p.length); simpa using this
  have W1 := S1.fr fX n2
  have G8 := G6.frK fX (show ¬ g1 = V by omega)
  have G9 := G7.frK fX (show ¬ g2 = V by omega)
  have Ga := G5.frK fX (show ¬ X2.heap.size = V by omega)
  have BX3 : Below w.heap.size w X3 := B3.trans (fX.below (fun j e => by omega) B3.size)
  have d0 := (S2).cell 0
  have d1 := (S2).cell 1
  have d2 := (S2).cell 2
  have d3 := (S2).cell 3
  have d4 := (S2).cell 4
  have d5 := (S2).cell 5
  have d6 := (S2).cell 6
  have d7 := (S2).cell 7
  have e0 := (S2).frozen 0
  have e1 := (S2).frozen 1
  have e2 := (S2).frozen 2
  have e3 := (S2).frozen 3
  have e4 := (S2).frozen 4
  have e5 := (S2).frozen 5
  have e6 := (S2).frozen 6
  have e7 := (S2).frozen 7
  simp at d0 d1 d2 d3 d4 d5 d6 d7
  have sl := S2.lt
  go_upto_region 5 with fail
  simp only [← hX]
  clear hX d0 d1 d2 d3 d4 d5 d6 d7 e0 e1 e2 e3 e4 e5 e6 e7 sl S1 S2 B3 hb3 fX G3 G4 G5 G6 G7 U1 U2 UB BX2
  have d0 := (W2).cell 0
  have d1 := (W2).cell 1
  have d2 := (W2).cell 2
  have d3 := (W2).cell 3
  have d4 := (W2).cell 4
  have d5 := (W2).cell 5
  have d6 := (W2).cell 6
  have d7 := (W2).cell 7
  have e0 := (W2).frozen 0
  have e1 := (W2).frozen 1
  have e2 := (W2).frozen 2
  have e3 := (W2).frozen 3
  have e4 := (W2).frozen 4
  have e5 := (W2).frozen 5
  have e6 := (W2).frozen 6
  have e7 := (W2).frozen 7
  simp at d0 d1 d2 d3 d4 d5 d6 d7
  have b0 := (W1).cell 0
  have b1 := (W1).cell 1
  have b2 := (W1).cell 2
  have b3 := (W1).cell 3
  have b4 := (W1).cell 4
  have b5 := (W1).cell 5
  have b6 := (W1).cell 6
  have b7 := (W1).cell 7
  have c00 := (W1).frozen 0
  have c01 := (W1).frozen 1
  have c02 := (W1).frozen 2
  have c03 := (W1).frozen 3
  have c04 := (W1).frozen 4
  have c05 := (W1).frozen 5
  have c06 := (W1).frozen 6
  have c07 := (W1).frozen 7
  simp at b0 b1 b2 b3 b4 b5 b6 b7
  have sl := W2.lt
  have bl := W1.lt
  have hA : Hid (Has X3 .i64 (some ⟨g1, 0, none⟩) sh.length sh ∧ Has X3 .i64 (some ⟨g2, 0, none⟩) ot.length ot ∧ Has X3 .i64 (some ⟨X2.heap.size, 0, none⟩) p.length p) := ⟨G8, G9, Ga⟩
  have q1 : ¬ g1 = Q := by omega
  have q2 : ¬ g2 = Q := by omega
  have q3 : ¬ X2.heap.size = Q := by omega
  clear W1 W2 G8 G9 Ga hy3
  go_wp2
  refine bodyPost_ret (v := .agg #[.int .i64 z, .int .i64 r, .int .i64 m, .int .i64 k, .int .i64 i, .slice (some ⟨g1, 0, none⟩) sh.length sh.length, .slice (some ⟨g2, 0, none⟩) ot.length ot.length, .slice (some ⟨X2.heap.size, 0, none⟩) p.length p.length]) (by simp [results, Tryd.results29, go_sem, b0, b1, b2, b3, b4, b5, b6, b7]) rfl ⟨g1, g2, X2.heap.size, rfl, ?_, ?_, ?_, ?_⟩
  · exact hA.out.1.frK (((((((((Fr.refl (fun j => j = Q) X3).setCell ⟨Q, 0, none⟩ _ rfl).setCell ⟨Q, 1, none⟩ _ rfl).setCell ⟨Q, 2, none⟩ _ rfl).setCell ⟨Q, 3, none⟩ _ rfl).setCell ⟨Q, 4, none⟩ _ rfl).setCell ⟨Q, 5, none⟩ _ rfl).setCell ⟨Q, 6, none⟩ _ rfl).setCell ⟨Q, 7, none⟩ _ rfl) q1
  · exact hA.out.2.1.frK (((((((((Fr.refl (fun j => j = Q) X3).setCell ⟨Q, 0, none⟩ _ rfl).setCell ⟨Q, 1, none⟩ _ rfl).setCell ⟨Q, 2, none⟩ _ rfl).setCell ⟨Q, 3, none⟩ _ rfl).setCell ⟨Q, 4, none⟩ _ rfl).setCell ⟨Q, 5, none⟩ _ rfl).setCell ⟨Q, 6, none⟩ _ rfl).setCell ⟨Q, 7, none⟩ _ rfl) q2
  · exact hA.out.2.2.frK (((((((((Fr.refl (fun j => j = Q) X3).setCell ⟨Q, 0, none⟩ _ rfl).setCell ⟨Q, 1, none⟩ _ rfl).setCell ⟨Q, 2, none⟩ _ rfl).setCell ⟨Q, 3, none⟩ _ rfl).setCell ⟨Q, 4, none⟩ _ rfl).setCell ⟨Q, 5, none⟩ _ rfl).setCell ⟨Q, 6, none⟩ _ rfl).setCell ⟨Q, 7, none⟩ _ rfl) q3
  · exact (((((((BX3.setCell qw _).setCell qw _).setCell qw _).setCell qw _).setCell qw _).setCell qw _).setCell qw _).setCell qw _

end Go.Proofs.YtffidkoejlebeaaDoor
