/- At every three slices of int64 the program's GrowClash answers as the specification's model of it, in memory of its own, and leaves the slices as they were; the table that begins pieces starts as the program's text lays it. -/
import Derived.Test.YtklhkhlmhddmcaaDoorIGwC
import Derived.Test.YtklhkhlmhddmcaaDoorGqX
import Derived.Test.YtklhkhlmhddmcaaDoorDoor
import Derived.Test.YtklhkhlmhddmcaaDoorDoor
namespace Go.Proofs.YtklhkhlmhddmcaaDoor
open Go.ChangeShapes Go.WideShapes Go.ChangeAt Go.RowKit
set_option linter.unusedVariables false
set_option linter.unusedSimpArgs false

set_option maxRecDepth 100000 in
set_option maxHeartbeats 16000000 in
theorem fnExactGrowClash_walk (w : World) (hT : Tab w) (a0 : Option Addr) (len0 cap0 : Nat) (z0 : List Int) (w0 : IsRow .i64 w a0 len0 cap0 z0) (a1 : Option Addr) (len1 cap1 : Nat) (z1 : List Int) (w1 : IsRow .i64 w a1 len1 cap1 z1) (a2 : Option Addr) (len2 cap2 : Nat) (z2 : List Int) (w2 : IsRow .i64 w a2 len2 cap2 z2) :
    Calls Tryd.prog 7 #[.slice a0 len0 cap0, .slice a1 len1 cap1, .slice a2 len2 cap2] w fun e w' => e = .returned (.bool true) ∧ Below w.heap.size w w' := by
  have A0 := Has.of_row w0
  have hlen0 := A0.1
  generalize z0.take len0 = d0 at A0 hlen0
  subst hlen0
  clear w0
  have A1 := Has.of_row w1
  have hlen1 := A1.1
  generalize z1.take len1 = d1 at A1 hlen1
  subst hlen1
  clear w1
  have A2 := Has.of_row w2
  have hlen2 := A2.1
  generalize z2.take len2 = d2 at A2 hlen2
  subst hlen2
  clear w2
  by_cases big0 : 1048576 < d0.length
  case pos =>
    have big0' : (1048576 : Int) < (d0.length : Int) := by omega
    go_enter Tryd.func7, Tryd.ntmps7
    go_wp2
    go_ret
    exact ⟨rfl, Below.refl _ _⟩
  have hs0 : d0.length ≤ 1048576 := by omega
  have hs0' : (d0.length : Int) ≤ 1048576 := by omega
  clear big0
  by_cases big1 : 1048576 < d1.length
  case pos =>
    have big1' : (1048576 : Int) < (d1.length : Int) := by omega
    go_enter Tryd.func7, Tryd.ntmps7
    go_wp2
    go_ret
    exact ⟨rfl, Below.refl _ _⟩
  have hs1 : d1.length ≤ 1048576 := by omega
  have hs1' : (d1.length : Int) ≤ 1048576 := by omega
  clear big1
  by_cases big2 : 1048576 < d2.length
  case pos =>
    have big2' : (1048576 : Int) < (d2.length : Int) := by omega
    go_enter Tryd.func7, Tryd.ntmps7
    go_wp2
    go_ret
    exact ⟨rfl, Below.refl _ _⟩
  have hs2 : d2.length ≤ 1048576 := by omega
  have hs2' : (d2.length : Int) ≤ 1048576 := by omega
  clear big2
  have hm0 : d0.length ≤ maxLen := by unfold maxLen; omega
  have WF0 : Hid (∀ n ∈ d0, (Lit.int .i64 n).wf = true) := A0.2.1
  have hm1 : d1.length ≤ maxLen := by unfold maxLen; omega
  have WF1 : Hid (∀ n ∈ d1, (Lit.int .i64 n).wf = true) := A1.2.1
  have hm2 : d2.length ≤ maxLen := by unfold maxLen; omega
  have WF2 : Hid (∀ n ∈ d2, (Lit.int .i64 n).wf = true) := A2.2.1
  obtain ⟨X, hX⟩ : ∃ X, X = gqX d0 d1 d2 := ⟨_, rfl⟩
  obtain ⟨ls, hls⟩ : ∃ l, l = clA X := ⟨_, rfl⟩
  obtain ⟨ms, hms⟩ : ∃ l, l = clB X := ⟨_, rfl⟩
  obtain ⟨ff, hff⟩ : ∃ f, f = X.isSome := ⟨_, rfl⟩
  obtain ⟨cd, hcd⟩ : ∃ c, c = gqC d0 d1 d2 := ⟨_, rfl⟩
  have SP : Hid (∀ (p0 : Option Addr) (p1 : Option Addr) (p2 : Option Addr) (x : World), Has x .i64 p0 d0.length d0 → Has x .i64 p1 d1.length d1 → Has x .i64 p2 d2.length d2 → Calls Tryd.prog 27 #[Value.slice p0 d0.length d0.length, Value.slice p1 d1.length d1.length, Value.slice p2 d2.length d2.length] x fun r w' => ∃ a1 c1 a2 c2, r = .returned (.agg #[.int .i64 cd, .bool ff, .slice a1 ls.length c1, .slice a2 ms.length c2]) ∧ OwnC w' x.heap.size a1 a2 c1 c2 ls ms ∧ Below x.heap.size x w') := by
    show ∀ (p0 : Option Addr) (p1 : Option Addr) (p2 : Option Addr) (x : World), Has x .i64 p0 d0.length d0 → Has x .i64 p1 d1.length d1 → Has x .i64 p2 d2.length d2 → Calls Tryd.prog 27 #[Value.slice p0 d0.length d0.length, Value.slice p1 d1.length d1.length, Value.slice p2 d2.length d2.length] x fun r w' => ∃ a1 c1 a2 c2, r = .returned (.agg #[.int .i64 cd, .bool ff, .slice a1 ls.length c1, .slice a2 ms.length c2]) ∧ OwnC w' x.heap.size a1 a2 c1 c2 ls ms ∧ Below x.heap.size x w'
    rw [hls, hms, hff, hX, hcd]
    exact fun p0 p1 p2 x h0 h1 h2 => specGrowClash_any p0 p1 p2 _ _ _ d0 d1 d2 x h0 h1 h2 hs0 hs1 hs2 (Nat.le_refl _) hm0 (Nat.le_refl _) hm1 (Nat.le_refl _) hm2
  have IM : Hid (∀ (p0 : Option Addr) (p1 : Option Addr) (p2 : Option Addr) (x : World), Tab x → Has x .i64 p0 d0.length d0 → Has x .i64 p1 d1.length d1 → Has x .i64 p2 d2.length d2 → Calls Tryd.prog 26 #[Value.slice p0 d0.length d0.length, Value.slice p1 d1.length d1.length, Value.slice p2 d2.length d2.length] x fun r w' => ∃ a1 c1 a2 c2, r = .returned (.agg #[.int .i64 cd, .bool ff, .slice a1 ls.length c1, .slice a2 ms.length c2]) ∧ OwnC w' x.heap.size a1 a2 c1 c2 ls ms ∧ Below x.heap.size x w') := by
    show ∀ (p0 : Option Addr) (p1 : Option Addr) (p2 : Option Addr) (x : World), Tab x → Has x .i64 p0 d0.length d0 → Has x .i64 p1 d1.length d1 → Has x .i64 p2 d2.length d2 → Calls Tryd.prog 26 #[Value.slice p0 d0.length d0.length, Value.slice p1 d1.length d1.length, Value.slice p2 d2.length d2.length] x fun r w' => ∃ a1 c1 a2 c2, r = .returned (.agg #[.int .i64 cd, .bool ff, .slice a1 ls.length c1, .slice a2 ms.length c2]) ∧ OwnC w' x.heap.size a1 a2 c1 c2 ls ms ∧ Below x.heap.size x w'
    rw [hls, hms, hff, hX, hcd]
    exact fun p0 p1 p2 x t h0 h1 h2 => implGrowClash_any p0 p1 p2 _ _ _ d0 d1 d2 x t h0 h1 h2 hs0 hs1 hs2 (Nat.le_refl _) hm0 (Nat.le_refl _) hm1 (Nat.le_refl _) hm2
  have OK : ls.length ≤ 300 ∧ ms.length ≤ 300 ∧ (∀ n ∈ ls, (Lit.int .u8 n).wf = true) ∧ ∀ n ∈ ms, (Lit.int .u8 n).wf = true := by
    rw [hls, hms, hX]
    exact cl_ok (gqX_some d0 d1 d2)
  obtain ⟨ll, lm, WA0, WB0⟩ := OK
  have WA : Hid (_) := WA0
  have WB : Hid (_) := WB0
  clear hls hms hff hX hcd WA0 WB0
  have hge : (0 : Int) ≤ 1 + (ls.length : Int) + (ms.length : Int) := by omega
  have hne : ((1 + (ls.length : Int) + (ms.length : Int)) != (1 + (ls.length : Int) + (ms.length : Int))) = false := by simp
  have hk0 : (0 : Int) ≤ 1 + (d0.length : Int) + (d1.length : Int) + (d2.length : Int) := by omega
  have FA : Hid (∀ u : World, Below w.heap.size w u → Has u .i64 a0 d0.length d0 ∧ Has u .i64 a1 d1.length d1 ∧ Has u .i64 a2 d2.length d2) := fun u hu => ⟨A0.below hu (Nat.le_refl _), A1.below hu (Nat.le_refl _), A2.below hu (Nat.le_refl _)⟩
  have HT : Hid (Tab w) := hT
  clear hT
  clear A0 A1 A2
  go_enter Tryd.func7, Tryd.ntmps7
  go_wp2_with fail
  refine (toInts_has a0 cap0 d0 _ ((FA.out _ (Below.refl _ _)).1) hs0).mono ?_
  rintro r u1 ⟨rfl, hb1, X1, y1⟩
  have B1 : Below w.heap.size w u1 := hb1
  go_wp2_with fail
  refine (toInts_has a1 cap1 d1 _ ((FA.out _ B1).2.1) hs1).mono ?_
  rintro r u2 ⟨rfl, hb2, X2, y2⟩
  have B2 : Below w.heap.size w u2 := B1.trans (hb2.mono B1.size)
  replace X1 := X1.below hb2 (Nat.le_refl _)
  go_wp2_with fail
  refine (toInts_has a2 cap2 d2 _ ((FA.out _ B2).2.2) hs2).mono ?_
  rintro r u3 ⟨rfl, hb3, X3, y3⟩
  have B3 : Below w.heap.size w u3 := B2.trans (hb3.mono B2.size)
  replace X1 := X1.below hb3 (Nat.le_refl _)
  replace X2 := X2.below hb3 (Nat.le_refl _)
  go_wp2_with fail
  refine (SP.out _ _ _ _ X1 X2 X3).mono ?_
  rintro r u4 ⟨b4, i4, b4', i4', rfl, O4, hb4⟩
  have B4 : Below w.heap.size w u4 := B3.trans (hb4.mono B3.size)
  have zS := B4.size
  clear X1 hb1 X2 hb2 X3 hb3 hb4
  obtain ⟨U, hU⟩ : ∃ U, U = u4.alloc (.cells #[.int .i64 cd, .bool ff, .slice b4 ls.length i4, .slice b4' ms.length i4'] 31) := ⟨_, rfl⟩
  have sU : U.heap.size = u4.heap.size + 1 := by rw [hU]; simp
  have BU : Below w.heap.size w U := by rw [hU]; exact B4.alloc zS _
  have VU : Blk U u4.heap.size #[.int .i64 cd, .bool ff, .slice b4 ls.length i4, .slice b4' ms.length i4'] 31 := by rw [hU]; exact Blk.new _ _ _
  have RU : Has U .u8 b4 ls.length ls ∧ Has U .u8 b4' ms.length ms := by
    rw [hU]
    exact ⟨(has_of_own O4.one WA.out).alloc _, (has_of_own O4.two WB.out).alloc _⟩
  have FW : Hid (∀ u : World, Below U.heap.size U u → (Has u .i64 a0 d0.length d0 ∧ Has u .i64 a1 d1.length d1 ∧ Has u .i64 a2 d2.length d2) ∧ Blk u u4.heap.size #[.int .i64 cd, .bool ff, .slice b4 ls.length i4, .slice b4' ms.length i4'] 31 ∧ (Has u .u8 b4 ls.length ls ∧ Has u .u8 b4' ms.length ms) ∧ Below w.heap.size w u ∧ u4.heap.size < u.heap.size) := fun u h => ⟨FA.out u (BU.trans (h.mono BU.size)), VU.below h VU.lt, ⟨RU.1.below h (Nat.le_refl _), RU.2.below h (Nat.le_refl _)⟩, BU.trans (h.mono BU.size), by have := h.size; omega⟩
  clear VU RU O4 zS
  go_wp2_with fail
  simp only [← hU]
  clear hU sU
  refine (toInts_any a0 d0.length cap0 d0 _ ((FW.out _ (Below.refl _ _)).1.1) hs0).mono ?_
  rintro r u5 ⟨rfl, O5, hb5⟩
  have z5 : U.heap.size < u5.heap.size := own_lt O5 _ rfl
  have C5 : Below U.heap.size U u5 := hb5
  go_wp2_with fail
  refine (toInts_any a1 d1.length cap1 d1 _ ((FW.out _ C5).1.2.1) hs1).mono ?_
  rintro r u6 ⟨rfl, O6, hb6⟩
  have z6 : u5.heap.size < u6.heap.size := own_lt O6 _ rfl
  have C6 : Below U.heap.size U u6 := C5.trans (hb6.mono C5.size)
  replace O5 := own_below O5 hb6
  go_wp2_with fail
  refine (toInts_any a2 d2.length cap2 d2 _ ((FW.out _ C6).1.2.2) hs2).mono ?_
  rintro r u7 ⟨rfl, O7, hb7⟩
  have z7 : u6.heap.size < u7.heap.size := own_lt O7 _ rfl
  have C7 : Below U.heap.size U u7 := C6.trans (hb7.mono C6.size)
  replace O5 := own_below O5 hb7
  replace O6 := own_below O6 hb7
  have Y5 := has_of_own O5 WF0.out
  have Y6 := has_of_own O6 WF1.out
  have Y7 := has_of_own O7 WF2.out
  go_wp2_with fail
  refine (IM.out _ _ _ _ (HT.out.below (FW.out _ C7).2.2.2.1 (Nat.le_refl _)) Y5 Y6 Y7).mono ?_
  rintro r u8 ⟨b8, i8, b8', i8', rfl, O8, hb8⟩
  have C8 : Below U.heap.size U u8 := C7.trans (hb8.mono C7.size)
  have zG := hb8.size
  replace O5 := own_below O5 hb8
  replace O6 := own_below O6 hb8
  replace O7 := own_below O7 hb8
  obtain ⟨W, hW⟩ : ∃ W, W = u8.alloc (.cells #[.int .i64 cd, .bool ff, .slice b8 ls.length i8, .slice b8' ms.length i8'] 31) := ⟨_, rfl⟩
  have sW : W.heap.size = u8.heap.size + 1 := by rw [hW]; simp
  have bW : Below u8.heap.size u8 W := by rw [hW]; exact (Below.refl _ _).alloc (Nat.le_refl _) _
  have VW : Blk W u8.heap.size #[.int .i64 cd, .bool ff, .slice b8 ls.length i8, .slice b8' ms.length i8'] 31 := by rw [hW]; exact Blk.new _ _ _
  have CW : Below U.heap.size U W := C8.trans (bW.mono C8.size)
  have FX0 : Hid (∀ u : World, Ex U.heap.size U.heap.size W u → World.ownsRow u U.heap.size 2 1 (.slice (some ⟨U.heap.size, 0, none⟩) d0.length d0.length) d0.length (d0.map (.int .i64))) := fun u h => own_ex (own_below O5 bW) h (Nat.le_refl _)
  have FX1 : Hid (∀ u : World, Ex U.heap.size u5.heap.size W u → World.ownsRow u u5.heap.size 2 1 (.slice (some ⟨u5.heap.size, 0, none⟩) d1.length d1.length) d1.length (d1.map (.int .i64))) := fun u h => own_ex (own_below O6 bW) h (Nat.le_refl _)
  have FX2 : Hid (∀ u : World, Ex U.heap.size u6.heap.size W u → World.ownsRow u u6.heap.size 2 1 (.slice (some ⟨u6.heap.size, 0, none⟩) d2.length d2.length) d2.length (d2.map (.int .i64))) := fun u h => own_ex (own_below O7 bW) h (Nat.le_refl _)
  have OG : OwnC W u7.heap.size b8 b8' i8 i8' ls ms := O8.below bW
  have FG : Hid (∀ u : World, Ex U.heap.size u7.heap.size W u → OwnC u u7.heap.size b8 b8' i8 i8' ls ms) := fun u h => OG.ex h (Nat.le_refl _)
  have FV : Hid (∀ (hi : Nat) (u : World), hi ≤ u8.heap.size → Ex U.heap.size hi W u → Blk u u8.heap.size #[.int .i64 cd, .bool ff, .slice b8 ls.length i8, .slice b8' ms.length i8'] 31 ∧ u8.heap.size < u.heap.size) := fun hi u hh h => ⟨VW.ex h (.inr hh), by have := h.size; omega⟩
  have FE : Hid (∀ (hi : Nat) (u : World), Ex U.heap.size hi W u → Below U.heap.size U u) := fun hi u h => CW.trans (Ex.low h CW.size)
  have GB : Hid (∀ b, ((∃ x, b8 = some x ∧ b = x.block) ∨ ∃ x, b8' = some x ∧ b = x.block) → u7.heap.size ≤ b ∧ b < u8.heap.size) := O8.blocks
  have DW : Below W.heap.size W W := Below.refl _ _
  clear O5 O6 O7 O8 OG VW bW sW hb8
  have v0 := ((FW.out _ C8).2.1).cell 0
  have v1 := ((FW.out _ C8).2.1).cell 1
  have v2 := ((FW.out _ C8).2.1).cell 2
  have v3 := ((FW.out _ C8).2.1).cell 3
  simp at v0 v1 v2 v3
  have qv := (FW.out _ C8).2.2.2.2
  go_wp2_with fail
  simp only [← hW]
  refine (eqClashR_any cd ff b8 b8' b4 b4' i8 i8' i4 i4' ls ms _ (has_of_own (FG.out _ (Fr.refl _ _)).one WA.out) (has_of_own (FG.out _ (Fr.refl _ _)).two WB.out) ((FW.out _ CW).2.2.1).1 ((FW.out _ CW).2.2.1).2 (by omega) (by omega)).mono ?_
  rintro r u9 ⟨rfl, hb9⟩
  have E9 : Ex U.heap.size U.heap.size W u9 := Ex.on (Fr.refl _ _) hb9
  clear v0 v1 v2 v3 qv hb9 hW
  go_wp2_with fail
  refine (toInts_has a0 cap0 d0 _ ((FW.out _ (FE.out _ _ E9)).1.1) hs0).mono ?_
  rintro r u10 ⟨rfl, hb10, X10, y10⟩
  have E10 : Ex U.heap.size U.heap.size W u10 := Ex.on E9 hb10
  clear hb10
  go_wp2_with fail
  refine (eqInts_any _ _ _ _ d0 _ (has_of_own (FX0.out _ E10) WF0.out) X10 hs0).mono ?_
  rintro r u11 ⟨rfl, hb11⟩
  have E11 : Ex U.heap.size U.heap.size W u11 := Ex.on E10 hb11
  clear hb11 E10 X10
  go_wp2_with fail
  refine (toInts_has a1 cap1 d1 _ ((FW.out _ (FE.out _ _ E11)).1.2.1) hs1).mono ?_
  rintro r u12 ⟨rfl, hb12, X12, y12⟩
  have E12 : Ex U.heap.size U.heap.size W u12 := Ex.on E11 hb12
  clear hb12
  go_wp2_with fail
  refine (eqInts_any _ _ _ _ d1 _ (has_of_own (FX1.out _ (Fr.mono E12 (fun b h => ⟨h.1, by omega⟩))) WF1.out) X12 hs1).mono ?_
  rintro r u13 ⟨rfl, hb13⟩
  have E13 : Ex U.heap.size U.heap.size W u13 := Ex.on E12 hb13
  clear hb13 E12 X12
  go_wp2_with fail
  refine (toInts_has a2 cap2 d2 _ ((FW.out _ (FE.out _ _ E13)).1.2.2) hs2).mono ?_
  rintro r u14 ⟨rfl, hb14, X14, y14⟩
  have E14 : Ex U.heap.size U.heap.size W u14 := Ex.on E13 hb14
  clear hb14
  go_wp2_with fail
  refine (eqInts_any _ _ _ _ d2 _ (has_of_own (FX2.out _ (Fr.mono E14 (fun b h => ⟨h.1, by omega⟩))) WF2.out) X14 hs2).mono ?_
  rintro r u15 ⟨rfl, hb15⟩
  have E15 : Ex U.heap.size U.heap.size W u15 := Ex.on E14 hb15
  clear hb15 E14 X14
  go_wp2_with fail
  refine (markInt64S_any _ _ _ (1) d0 _ (FX0.out _ E15) (by omega) (by omega) (by omega)).mono ?_
  rintro r u16 ⟨rfl, _, hm16⟩
  have E16 : Ex U.heap.size u5.heap.size W u16 := Ex.mk E15 hm16 (fun ad had => by cases had; show _ ≤ U.heap.size ∧ U.heap.size < _; omega) (by omega)
  clear hm16 E15
  go_wp2_with fail
  refine (markInt64S_any _ _ _ (1 + (d0.length : Int)) d1 _ (FX1.out _ E16) (by omega) (by omega) (by omega)).mono ?_
  rintro r u17 ⟨rfl, _, hm17⟩
  have E17 : Ex U.heap.size u6.heap.size W u17 := Ex.mk E16 hm17 (fun ad had => by cases had; show _ ≤ u5.heap.size ∧ u5.heap.size < _; omega) (by omega)
  clear hm17 E16
  go_wp2_with fail
  refine (markInt64S_any _ _ _ (1 + (d0.length : Int) + (d1.length : Int)) d2 _ (FX2.out _ E17) (by omega) (by omega) (by omega)).mono ?_
  rintro r u18 ⟨rfl, _, hm18⟩
  have E18 : Ex U.heap.size u7.heap.size W u18 := Ex.mk E17 hm18 (fun ad had => by cases had; show _ ≤ u6.heap.size ∧ u6.heap.size < _; omega) (by omega)
  clear hm18 E17
  have vf := FV.out _ _ (by omega) E18
  have fw := FW.out _ (FE.out _ _ E18)
  have t0 := (vf.1).cell 0
  have t1 := (vf.1).cell 1
  have t2 := (vf.1).cell 2
  have t3 := (vf.1).cell 3
  simp at t0 t1 t2 t3
  have v0 := (fw.2.1).cell 0
  have v1 := (fw.2.1).cell 1
  have v2 := (fw.2.1).cell 2
  have v3 := (fw.2.1).cell 3
  simp at v0 v1 v2 v3
  go_wp2_with fail
  refine (eqClashR_any cd ff _ _ _ _ _ _ _ _ ls ms _ (has_of_own (FG.out _ E18).one WA.out) (has_of_own (FG.out _ E18).two WB.out) (fw.2.2.1).1 (fw.2.2.1).2 (by omega) (by omega)).mono ?_
  rintro r u19 ⟨rfl, hb19⟩
  have E19 : Ex U.heap.size u7.heap.size W u19 := Ex.on E18 hb19
  clear t0 t1 t2 t3 v0 v1 v2 v3 vf fw hb19 E18
  have vf := FV.out _ _ (by omega) E19
  have t0 := (vf.1).cell 0
  have t1 := (vf.1).cell 1
  have t2 := (vf.1).cell 2
  have t3 := (vf.1).cell 3
  simp at t0 t1 t2 t3
  go_wp2_with fail
  refine (markClashR_any cd ff _ _ _ _ _ ls ms 1 _ (FG.out _ E19) (by omega) (by omega) (by omega) (by omega) (by omega)).mono ?_
  rintro r u20 ⟨rfl, OM, hm20⟩
  have E20 : Ex U.heap.size u8.heap.size W u20 := Ex.fr E19 hm20 (fun b hb => by have := GB.out b hb; omega) (by omega)
  have FM : Hid (∀ u : World, Below u20.heap.size u20 u → Has u .u8 b8 (markL 1 ls.length).length (markL 1 ls.length) ∧ Has u .u8 b8' (markL (1 + ls.length) ms.length).length (markL (1 + ls.length) ms.length)) := by
    intro u h
    have h1 := OM.one
    have h2 := OM.two
    exact ⟨(has_of_own h1 (markL_wf _ _)).below h (Nat.le_refl _), (has_of_own h2 (markL_wf _ _)).below h (Nat.le_refl _)⟩
  have D20 : Below u20.heap.size u20 u20 := Below.refl _ _
  clear hm20 OM vf t0 t1 t2 t3 E19
  have vf := FV.out _ _ (Nat.le_refl _) E20
  have t0 := (vf.1).cell 0
  have t1 := (vf.1).cell 1
  have t2 := (vf.1).cell 2
  have t3 := (vf.1).cell 3
  simp at t0 t1 t2 t3
  go_wp2_with fail
  refine (heldClashR_any cd ff _ _ _ _ ls.length ms.length 1 _ (FM.out _ D20).1 (FM.out _ D20).2 (by omega) (by omega) (by omega) (by omega)).mono ?_
  rintro r u21 ⟨rfl, hb21⟩
  have E21 : Ex U.heap.size u8.heap.size W u21 := Ex.on E20 hb21
  have D21 : Below u20.heap.size u20 u21 := D20.trans (hb21.mono D20.size)
  clear vf t0 t1 t2 t3 hb21 E20 D20
  go_wp2_with fail
  refine (toInts_has a0 cap0 d0 _ ((FW.out _ (FE.out _ _ E21)).1.1) hs0).mono ?_
  rintro r u22 ⟨rfl, hb22, X22, y22⟩
  have E22 : Ex U.heap.size u8.heap.size W u22 := Ex.on E21 hb22
  have D22 : Below u20.heap.size u20 u22 := D21.trans (hb22.mono D21.size)
  clear hb22 E21 D21
  go_wp2_with fail
  refine (toInts_has a1 cap1 d1 _ ((FW.out _ (FE.out _ _ E22)).1.2.1) hs1).mono ?_
  rintro r u23 ⟨rfl, hb23, X23, y23⟩
  have E23 : Ex U.heap.size u8.heap.size W u23 := Ex.on E22 hb23
  have D23 : Below u20.heap.size u20 u23 := D22.trans (hb23.mono D22.size)
  replace X22 := X22.below hb23 (Nat.le_refl _)
  clear hb23 E22 D22
  go_wp2_with fail
  refine (toInts_has a2 cap2 d2 _ ((FW.out _ (FE.out _ _ E23)).1.2.2) hs2).mono ?_
  rintro r u24 ⟨rfl, hb24, X24, y24⟩
  have E24 : Ex U.heap.size u8.heap.size W u24 := Ex.on E23 hb24
  have D24 : Below u20.heap.size u20 u24 := D23.trans (hb24.mono D23.size)
  replace X22 := X22.below hb24 (Nat.le_refl _)
  replace X23 := X23.below hb24 (Nat.le_refl _)
  clear hb24 E23 D23
  go_wp2_with fail
  refine (IM.out _ _ _ _ (HT.out.below (FW.out _ (FE.out _ _ E24)).2.2.2.1 (Nat.le_refl _)) X22 X23 X24).mono ?_
  rintro r u25 ⟨b25, i25, b25', i25', rfl, O25, hb25⟩
  have E25 : Ex U.heap.size u8.heap.size W u25 := Ex.on E24 hb25
  have D25 : Below u20.heap.size u20 u25 := D24.trans (hb25.mono D24.size)
  clear X22 X23 X24 hb25 E24 D24
  have fw := FW.out _ (FE.out _ _ E25)
  have qf := (FV.out _ _ (Nat.le_refl _) E25).2
  have v0 := (fw.2.1).cell 0
  have v1 := (fw.2.1).cell 1
  have v2 := (fw.2.1).cell 2
  have v3 := (fw.2.1).cell 3
  simp at v0 v1 v2 v3
  have qv := fw.2.2.2.2
  go_wp2_with fail
  refine (eqClashR_any cd ff _ _ _ _ _ _ _ _ ls ms _ ((has_of_own O25.one WA.out).alloc _) ((has_of_own O25.two WB.out).alloc _) (fw.2.2.1.1.alloc _) (fw.2.2.1.2.alloc _) (by omega) (by omega)).mono ?_
  rintro r u26 ⟨rfl, hb26⟩
  have bb := ((Below.refl u25.heap.size u25).alloc (Nat.le_refl _) (.cells #[.int .i64 cd, .bool ff, .slice b25 ls.length i25, .slice b25' ms.length i25'] 31)).trans (hb26.mono (by simp))
  have E26 : Ex U.heap.size u8.heap.size W u26 := Ex.on E25 bb
  have D26 : Below u20.heap.size u20 u26 := D25.trans (bb.mono D25.size)
  clear fw qf qv v0 v1 v2 v3 hb26 bb O25 E25 D25
  have vf := FV.out _ _ (Nat.le_refl _) E26
  have t0 := (vf.1).cell 0
  have t1 := (vf.1).cell 1
  have t2 := (vf.1).cell 2
  have t3 := (vf.1).cell 3
  simp at t0 t1 t2 t3
  go_wp2_with fail
  refine (heldClashR_any cd ff _ _ _ _ ls.length ms.length 1 _ (FM.out _ D26).1 (FM.out _ D26).2 (by omega) (by omega) (by omega) (by omega)).mono ?_
  rintro r u27 ⟨rfl, hb27⟩
  have E27 : Ex U.heap.size u8.heap.size W u27 := Ex.on E26 hb27
  have D27 : Below u20.heap.size u20 u27 := D26.trans (hb27.mono D26.size)
  clear vf t0 t1 t2 t3 hb27 E26 D26
  go_wp2
  go_ret
  exact ⟨rfl, (FW.out _ (FE.out _ _ E27)).2.2.2.1⟩

set_option maxRecDepth 100000 in
theorem fnExactGrowClash_lifted (os : Os) (started : os.Started) (H : Type) (enc : TypeId × Value → H) :
    ReturnsInHanded {} Tryd.checked os 7 .any (fun w args => (Rows.fnExactGrowClashSpec.pre enc Tryd.prog Tryd.f7 [] false w args ∧ laidMetH Tryd.prog [("loop.example/g00565/impl.pieceStarts", Rows.laid_loop_example_g00565_impl_pieceStarts)] w) ∧ sizedMet enc Tryd.prog Tryd.f7 (OpenSpec.ofChange Rows.fnExactGrowClashSpec) false w args) (Rows.fnExactGrowClashSpec.post enc Tryd.prog Tryd.f7 false true false false) := by
  refine returnsInHanded_of_change_and (C := Tryd.checked) (X := fun w _ => laidMetH Tryd.prog [("loop.example/g00565/impl.pieceStarts", Rows.laid_loop_example_g00565_impl_pieceStarts)] w) (fun _ _ _ hh h => h.of_heap hh) own started (by kernel_rfl) Tryd.func7
    (ChangeSpec.witness_shaped (enc := enc) (C := Tryd.checked) (os := os) (X := fun w _ => laidMetH Tryd.prog [("loop.example/g00565/impl.pieceStarts", Rows.laid_loop_example_g00565_impl_pieceStarts)] w) false (World.doorLaid Tryd.prog 400 os) #[.slice none 0 0, .slice none 0 0, .slice none 0 0] 8 rfl (World.shaped_of_RefB (by kernel_rfl) (by kernel_rfl)) (by kernel_rfl) (by kernel_rfl) (by kernel_rfl) (door_met os _)) ?_
  intro W base args ds gs before hval0 hW _ _ hL _
  have hval : ∀ (j : Nat) t v, Tryd.f7.params[j]? = some t → args[j]? = some v → Value.okWide Tryd.prog W .any base t v := hval0
  have hW' := hW
  obtain ⟨p, q, hA0, hV, rfl, hfz, hnd⟩ := hW
  have hA : DataW.TrodAll enc Tryd.prog W 0 (fun _ => true) true Tryd.f7.params.toList args.toList ds p := hA0
  rw [Tryd.params7] at hA hval
  obtain ⟨v0, vs0, d0, ds0, p0, q0, hargs, rfl, rfl, h0, r0⟩ := trodAll_cons hA
  obtain ⟨v1, vs1, d1, ds1, p1, q1, rfl, rfl, rfl, h1, r1⟩ := trodAll_cons r0
  obtain ⟨v2, vs2, d2, ds2, p2, q2, rfl, rfl, rfl, h2, r2⟩ := trodAll_cons r1
  obtain ⟨rfl, rfl, rfl⟩ := trodAll_nil r2
  obtain rfl : args = #[v0, v1, v2] := by cases args; simp_all
  obtain ⟨g, rfl⟩ : ∃ g, gs = [g] := by obtain ⟨_, _, _, _, d, _, e, _⟩ := trodVars_one hV; exact ⟨d, e⟩
  have g0 := h0
  have lt0 : ∀ x ∈ p0, x.block < W.heap.size := by obtain ⟨m, hm⟩ := g0; exact DataW.trod_lt m _ _ _ hm
  have g1 := h1
  have lt1 : ∀ x ∈ p1, x.block < W.heap.size := by obtain ⟨m, hm⟩ := g1; exact DataW.trod_lt m _ _ _ hm
  have g2 := h2
  have lt2 : ∀ x ∈ p2, x.block < W.heap.size := by obtain ⟨m, hm⟩ := g2; exact DataW.trod_lt m _ _ _ hm
  obtain ⟨a0, len0, cap0, rfl⟩ := okWide_slice Tryd.underlying25 (hval 0 25 v0 rfl rfl)
  obtain ⟨z0, w0⟩ : ∃ zs, IsRow .i64 W a0 len0 cap0 zs := by
    obtain ⟨fuel, hf⟩ := h0
    rcases open_ints Tryd.underlying25 Tryd.underlying2 (by kernel_rfl) hf with ⟨hcs, _⟩ | ⟨x, l, c, zs, hcs, _, hl, hm, hz, _, hcell, hwz⟩
    · simp [Value.cells] at hcs
      obtain ⟨rfl, rfl, rfl⟩ := hcs
      exact ⟨[], .inl ⟨rfl, rfl, rfl, rfl⟩⟩
    · simp [Value.cells] at hcs
      obtain ⟨rfl, rfl, rfl⟩ := hcs
      exact ⟨zs, .inr ⟨_, rfl, hl, hm, by simpa using hz, hcell, hwz⟩⟩
  obtain ⟨a1, len1, cap1, rfl⟩ := okWide_slice Tryd.underlying25 (hval 1 25 v1 rfl rfl)
  obtain ⟨z1, w1⟩ : ∃ zs, IsRow .i64 W a1 len1 cap1 zs := by
    obtain ⟨fuel, hf⟩ := h1
    rcases open_ints Tryd.underlying25 Tryd.underlying2 (by kernel_rfl) hf with ⟨hcs, _⟩ | ⟨x, l, c, zs, hcs, _, hl, hm, hz, _, hcell, hwz⟩
    · simp [Value.cells] at hcs
      obtain ⟨rfl, rfl, rfl⟩ := hcs
      exact ⟨[], .inl ⟨rfl, rfl, rfl, rfl⟩⟩
    · simp [Value.cells] at hcs
      obtain ⟨rfl, rfl, rfl⟩ := hcs
      exact ⟨zs, .inr ⟨_, rfl, hl, hm, by simpa using hz, hcell, hwz⟩⟩
  obtain ⟨a2, len2, cap2, rfl⟩ := okWide_slice Tryd.underlying25 (hval 2 25 v2 rfl rfl)
  obtain ⟨z2, w2⟩ : ∃ zs, IsRow .i64 W a2 len2 cap2 zs := by
    obtain ⟨fuel, hf⟩ := h2
    rcases open_ints Tryd.underlying25 Tryd.underlying2 (by kernel_rfl) hf with ⟨hcs, _⟩ | ⟨x, l, c, zs, hcs, _, hl, hm, hz, _, hcell, hwz⟩
    · simp [Value.cells] at hcs
      obtain ⟨rfl, rfl, rfl⟩ := hcs
      exact ⟨[], .inl ⟨rfl, rfl, rfl, rfl⟩⟩
    · simp [Value.cells] at hcs
      obtain ⟨rfl, rfl, rfl⟩ := hcs
      exact ⟨zs, .inr ⟨_, rfl, hl, hm, by simpa using hz, hcell, hwz⟩⟩
  clear hA0 hval0
  refine (fnExactGrowClash_walk W (tab_of_laid hL) a0 len0 cap0 z0 w0 a1 len1 cap1 z1 w1 a2 len2 cap2 z2 w2).mono fun e W' ⟨he, bel⟩ => ?_
  subst he
  exact ⟨_, rfl, _, _, _, [], _, _, hW', trodAll_mk1 (shut_bool Tryd.underlying4 _), (trodAll_cons_mk (Below.trod laidOut (by kernel_rfl) (of_decide_eq_true (by kernel_rfl)) g0 bel lt0) (trodAll_cons_mk (Below.trod laidOut (by kernel_rfl) (of_decide_eq_true (by kernel_rfl)) g1 bel lt1) (trodAll_cons_mk (Below.trod laidOut (by kernel_rfl) (of_decide_eq_true (by kernel_rfl)) g2 bel lt2) trodAll_mk0))), Below.trodVars laidOut bel (by kernel_rfl) hV, bel.frame _, fun h => by cases h⟩

theorem fnExactGrowClash_row : Rows.FnExactGrowClashSaid :=
  OpenClaim.holds_of_wide 7 Tryd.f7 rfl rfl rfl rfl rfl rfl rfl ⟨rfl, rfl, rfl, rfl, rfl⟩ rfl rfl rfl rfl rfl (by kernel_rfl) Tryd.func7 (by kernel_rfl)
    (of_decide_eq_true (by kernel_rfl)) (by unfold Func.isWrapper; first | (rw [if_pos (by decide +kernel)]; kernel_rfl) | (rw [if_neg (by decide +kernel)]; exact ⟨rfl, rfl⟩))
    (fun os started H enc _ => fnExactGrowClash_lifted os started H enc)

theorem fnExactGrowClash_holds : Rows.FnExactGrowClashCardSaid :=
  Claim7.holds_tied_plain_at .later [] [.data] true Rows.fnExactGrowClashCard.stood.harness Rows.fnExactGrowClashCard.stood.looks
    fnExactGrowClash_row (fun _ h => by cases h) (by kernel_rfl) (fun _ h => by cases h) fnExactGrowClash_row_tie rfl ⟨rfl, rfl⟩ (by kernel_rfl) rfl
    (fun f fn hf hfn => by
      obtain rfl : f = 7 := Option.some.inj ((show Tryd.prog.funcNamed "loop.example/g00565/laws.FnExactGrowClash" = some 7 by kernel_rfl).symm.trans hf) |>.symm
      obtain rfl : fn = Tryd.f7 := (Option.some.inj (Tryd.func7.symm.trans hfn)).symm
      exact ⟨by kernel_rfl, fun j t ht => by
        rw [Tryd.params7] at ht
        have h3 : t = 25 := by
          match j, ht with
          | 0, ht => simp at ht; simp [← ht]
          | 1, ht => simp at ht; simp [← ht]
          | 2, ht => simp at ht; simp [← ht]
          | _ + 3, ht => simp at ht
        rcases h3 with rfl
        all_goals exact (show Tryd.prog.wantsStandIn _ = false by kernel_rfl)⟩)
    (by kernel_rfl)
#print axioms fnExactGrowClash_holds
end Go.Proofs.YtklhkhlmhddmcaaDoor
