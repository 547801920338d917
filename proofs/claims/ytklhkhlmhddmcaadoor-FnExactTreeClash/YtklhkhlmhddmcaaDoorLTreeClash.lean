/- At every two slices of int64 the program's TreeClash answers as the specification's model of it, in memory of its own, and leaves both slices as they were; the table that begins pieces starts as the program's text lays it. -/
import Derived.Test.YtklhkhlmhddmcaaDoorITreeC
import Derived.Test.YtklhkhlmhddmcaaDoorExc
import Derived.Test.YtklhkhlmhddmcaaDoorDoor
import Derived.Test.YtklhkhlmhddmcaaDoorDoor
namespace Go.Proofs.YtklhkhlmhddmcaaDoor
open Go.ChangeShapes Go.WideShapes Go.ChangeAt Go.RowKit
set_option linter.unusedVariables false
set_option linter.unusedSimpArgs false

set_option maxHeartbeats 8000000 in
theorem fnExactTreeClash_walk (w : World) (hT : Tab w) (a0 : Option Addr) (len0 cap0 : Nat) (z0 : List Int) (w0 : IsRow .i64 w a0 len0 cap0 z0) (a1 : Option Addr) (len1 cap1 : Nat) (z1 : List Int) (w1 : IsRow .i64 w a1 len1 cap1 z1) :
    Calls Tryd.prog 8 #[.slice a0 len0 cap0, .slice a1 len1 cap1] w fun e w' => e = .returned (.bool true) ∧ Below w.heap.size w w' := by
  have A0 := Has.of_row w0
  have hlen0 := A0.1
  generalize z0.take len0 = d0 at A0 hlen0
  subst hlen0
  clear w0
  have A1 := Has.of_row w1
  have hlen1 := A1.1
  generalize z1.take len1 = d1 at A1 hlen1
  subst hlen1
  clear w1
  by_cases big0 : 1048576 < d0.length
  case pos =>
    have big0' : (1048576 : Int) < (d0.length : Int) := by omega
    go_enter Tryd.func8, Tryd.ntmps8
    go_wp2
    go_ret
    exact ⟨rfl, Below.refl _ _⟩
  have hs0 : d0.length ≤ 1048576 := by omega
  have hs0' : (d0.length : Int) ≤ 1048576 := by omega
  clear big0
  by_cases big1 : 1048576 < d1.length
  case pos =>
    have big1' : (1048576 : Int) < (d1.length : Int) := by omega
    go_enter Tryd.func8, Tryd.ntmps8
    go_wp2
    go_ret
    exact ⟨rfl, Below.refl _ _⟩
  have hs1 : d1.length ≤ 1048576 := by omega
  have hs1' : (d1.length : Int) ≤ 1048576 := by omega
  clear big1
  have hm0 : d0.length ≤ maxLen := by unfold maxLen; omega
  have WF0 : Hid (∀ n ∈ d0, (Lit.int .i64 n).wf = true) := A0.2.1
  have hm1 : d1.length ≤ maxLen := by unfold maxLen; omega
  have WF1 : Hid (∀ n ∈ d1, (Lit.int .i64 n).wf = true) := A1.2.1
  obtain ⟨X, hX⟩ : ∃ X, X = tkX d0 d1 := ⟨_, rfl⟩
  obtain ⟨ls, hls⟩ : ∃ l, l = clA X := ⟨_, rfl⟩
  obtain ⟨ms, hms⟩ : ∃ l, l = clB X := ⟨_, rfl⟩
  obtain ⟨ff, hff⟩ : ∃ f, f = X.isSome := ⟨_, rfl⟩
  obtain ⟨cd, hcd⟩ : ∃ c, c = tkC d0 d1 := ⟨_, rfl⟩
  have SP : Hid (∀ (p0 : Option Addr) (p1 : Option Addr) (x : World), Has x .i64 p0 d0.length d0 → Has x .i64 p1 d1.length d1 → Calls Tryd.prog 32 #[Value.slice p0 d0.length d0.length, Value.slice p1 d1.length d1.length] x fun r w' => ∃ a1 c1 a2 c2, r = .returned (.agg #[.int .i64 cd, .bool ff, .slice a1 ls.length c1, .slice a2 ms.length c2]) ∧ OwnC w' x.heap.size a1 a2 c1 c2 ls ms ∧ Below x.heap.size x w') := by
    show ∀ (p0 : Option Addr) (p1 : Option Addr) (x : World), Has x .i64 p0 d0.length d0 → Has x .i64 p1 d1.length d1 → Calls Tryd.prog 32 #[Value.slice p0 d0.length d0.length, Value.slice p1 d1.length d1.length] x fun r w' => ∃ a1 c1 a2 c2, r = .returned (.agg #[.int .i64 cd, .bool ff, .slice a1 ls.length c1, .slice a2 ms.length c2]) ∧ OwnC w' x.heap.size a1 a2 c1 c2 ls ms ∧ Below x.heap.size x w'
    rw [hls, hms, hff, hX, hcd]
    exact fun p0 p1 x h0 h1 => specTreeClash_any p0 p1 _ _ d0 d1 x h0 h1 hs0 hs1 (Nat.le_refl _) hm0 (Nat.le_refl _) hm1
  have IM : Hid (∀ (p0 : Option Addr) (p1 : Option Addr) (x : World), Tab x → Has x .i64 p0 d0.length d0 → Has x .i64 p1 d1.length d1 → Calls Tryd.prog 31 #[Value.slice p0 d0.length d0.length, Value.slice p1 d1.length d1.length] x fun r w' => ∃ a1 c1 a2 c2, r = .returned (.agg #[.int .i64 cd, .bool ff, .slice a1 ls.length c1, .slice a2 ms.length c2]) ∧ OwnC w' x.heap.size a1 a2 c1 c2 ls ms ∧ Below x.heap.size x w') := by
    show ∀ (p0 : Option Addr) (p1 : Option Addr) (x : World), Tab x → Has x .i64 p0 d0.length d0 → Has x .i64 p1 d1.length d1 → Calls Tryd.prog 31 #[Value.slice p0 d0.length d0.length, Value.slice p1 d1.length d1.length] x fun r w' => ∃ a1 c1 a2 c2, r = .returned (.agg #[.int .i64 cd, .bool ff, .slice a1 ls.length c1, .slice a2 ms.length c2]) ∧ OwnC w' x.heap.size a1 a2 c1 c2 ls ms ∧ Below x.heap.size x w'
    rw [hls, hms, hff, hX, hcd]
    exact fun p0 p1 x t h0 h1 => implTreeClash_any p0 p1 _ _ d0 d1 x t h0 h1 hs0 hs1 (Nat.le_refl _) hm0 (Nat.le_refl _) hm1
  have OK : ls.length ≤ 300 ∧ ms.length ≤ 300 ∧ (∀ n ∈ ls, (Lit.int .u8 n).wf = true) ∧ ∀ n ∈ ms, (Lit.int .u8 n).wf = true := by
    rw [hls, hms, hX]
    exact cl_ok (tkX_some d0 d1)
  obtain ⟨ll, lm, WA0, WB0⟩ := OK
  have WA : Hid (_) := WA0
  have WB : Hid (_) := WB0
  clear hls hms hff hX hcd WA0 WB0
  have hge : (0 : Int) ≤ 1 + (ls.length : Int) + (ms.length : Int) := by omega
  have hne : ((1 + (ls.length : Int) + (ms.length : Int)) != (1 + (ls.length : Int) + (ms.length : Int))) = false := by simp
  have hk0 : (0 : Int) ≤ 1 + (d0.length : Int) + (d1.length : Int) := by omega
  have FA : Hid (∀ u : World, Below w.heap.size w u → Has u .i64 a0 d0.length d0 ∧ Has u .i64 a1 d1.length d1) := fun u hu => ⟨A0.below hu (Nat.le_refl _), A1.below hu (Nat.le_refl _)⟩
  have HT : Hid (Tab w) := hT
  clear hT
  clear A0 A1
  go_enter Tryd.func8, Tryd.ntmps8
  go_wp2_with fail
  refine (toInts_has a0 cap0 d0 _ ((FA.out _ (Below.refl _ _)).1) hs0).mono ?_
  rintro r u1 ⟨rfl, hb1, X1, y1⟩
  have B1 : Below w.heap.size w u1 := hb1
  go_wp2_with fail
  refine (toInts_has a1 cap1 d1 _ ((FA.out _ B1).2) hs1).mono ?_
  rintro r u2 ⟨rfl, hb2, X2, y2⟩
  have B2 : Below w.heap.size w u2 := B1.trans (hb2.mono B1.size)
  replace X1 := X1.below hb2 (Nat.le_refl _)
  go_wp2_with fail
  refine (SP.out _ _ _ X1 X2).mono ?_
  rintro r u3 ⟨b3, i3, b3', i3', rfl, O3, hb3⟩
  have B3 : Below w.heap.size w u3 := B2.trans (hb3.mono B2.size)
  have zS := B3.size
  clear X1 hb1 X2 hb2 hb3
  obtain ⟨U, hU⟩ : ∃ U, U = u3.alloc (.cells #[.int .i64 cd, .bool ff, .slice b3 ls.length i3, .slice b3' ms.length i3'] 31) := ⟨_, rfl⟩
  have sU : U.heap.size = u3.heap.size + 1 := by rw [hU]; simp
  have BU : Below w.heap.size w U := by rw [hU]; exact B3.alloc zS _
  have VU : Blk U u3.heap.size #[.int .i64 cd, .bool ff, .slice b3 ls.length i3, .slice b3' ms.length i3'] 31 := by rw [hU]; exact Blk.new _ _ _
  have RU : Has U .u8 b3 ls.length ls ∧ Has U .u8 b3' ms.length ms := by
    rw [hU]
    exact ⟨(has_of_own O3.one WA.out).alloc _, (has_of_own O3.two WB.out).alloc _⟩
  have FW : Hid (∀ u : World, Below U.heap.size U u → (Has u .i64 a0 d0.length d0 ∧ Has u .i64 a1 d1.length d1) ∧ Blk u u3.heap.size #[.int .i64 cd, .bool ff, .slice b3 ls.length i3, .slice b3' ms.length i3'] 31 ∧ (Has u .u8 b3 ls.length ls ∧ Has u .u8 b3' ms.length ms) ∧ Below w.heap.size w u ∧ u3.heap.size < u.heap.size) := fun u h => ⟨FA.out u (BU.trans (h.mono BU.size)), VU.below h VU.lt, ⟨RU.1.below h (Nat.le_refl _), RU.2.below h (Nat.le_refl _)⟩, BU.trans (h.mono BU.size), by have := h.size; omega⟩
  clear VU RU O3 zS
  go_wp2_with fail
  simp only [← hU]
  clear hU sU
  refine (toInts_any a0 d0.length cap0 d0 _ ((FW.out _ (Below.refl _ _)).1.1) hs0).mono ?_
  rintro r u4 ⟨rfl, O4, hb4⟩
  have z4 : U.heap.size < u4.heap.size := own_lt O4 _ rfl
  have C4 : Below U.heap.size U u4 := hb4
  go_wp2_with fail
  refine (toInts_any a1 d1.length cap1 d1 _ ((FW.out _ C4).1.2) hs1).mono ?_
  rintro r u5 ⟨rfl, O5, hb5⟩
  have z5 : u4.heap.size < u5.heap.size := own_lt O5 _ rfl
  have C5 : Below U.heap.size U u5 := C4.trans (hb5.mono C4.size)
  replace O4 := own_below O4 hb5
  have Y4 := has_of_own O4 WF0.out
  have Y5 := has_of_own O5 WF1.out
  go_wp2_with fail
  refine (IM.out _ _ _ (HT.out.below (FW.out _ C5).2.2.2.1 (Nat.le_refl _)) Y4 Y5).mono ?_
  rintro r u6 ⟨b6, i6, b6', i6', rfl, O6, hb6⟩
  have C6 : Below U.heap.size U u6 := C5.trans (hb6.mono C5.size)
  have zG := hb6.size
  replace O4 := own_below O4 hb6
  replace O5 := own_below O5 hb6
  obtain ⟨W, hW⟩ : ∃ W, W = u6.alloc (.cells #[.int .i64 cd, .bool ff, .slice b6 ls.length i6, .slice b6' ms.length i6'] 31) := ⟨_, rfl⟩
  have sW : W.heap.size = u6.heap.size + 1 := by rw [hW]; simp
  have bW : Below u6.heap.size u6 W := by rw [hW]; exact (Below.refl _ _).alloc (Nat.le_refl _) _
  have VW : Blk W u6.heap.size #[.int .i64 cd, .bool ff, .slice b6 ls.length i6, .slice b6' ms.length i6'] 31 := by rw [hW]; exact Blk.new _ _ _
  have CW : Below U.heap.size U W := C6.trans (bW.mono C6.size)
  have FX0 : Hid (∀ u : World, Ex U.heap.size U.heap.size W u → World.ownsRow u U.heap.size 2 1 (.slice (some ⟨U.heap.size, 0, none⟩) d0.length d0.length) d0.length (d0.map (.int .i64))) := fun u h => own_ex (own_below O4 bW) h (Nat.le_refl _)
  have FX1 : Hid (∀ u : World, Ex U.heap.size u4.heap.size W u → World.ownsRow u u4.heap.size 2 1 (.slice (some ⟨u4.heap.size, 0, none⟩) d1.length d1.length) d1.length (d1.map (.int .i64))) := fun u h => own_ex (own_below O5 bW) h (Nat.le_refl _)
  have OG : OwnC W u5.heap.size b6 b6' i6 i6' ls ms := O6.below bW
  have FG : Hid (∀ u : World, Ex U.heap.size u5.heap.size W u → OwnC u u5.heap.size b6 b6' i6 i6' ls ms) := fun u h => OG.ex h (Nat.le_refl _)
  have FV : Hid (∀ (hi : Nat) (u : World), hi ≤ u6.heap.size → Ex U.heap.size hi W u → Blk u u6.heap.size #[.int .i64 cd, .bool ff, .slice b6 ls.length i6, .slice b6' ms.length i6'] 31 ∧ u6.heap.size < u.heap.size) := fun hi u hh h => ⟨VW.ex h (.inr hh), by have := h.size; omega⟩
  have FE : Hid (∀ (hi : Nat) (u : World), Ex U.heap.size hi W u → Below U.heap.size U u) := fun hi u h => CW.trans (Ex.low h CW.size)
  have GB : Hid (∀ b, ((∃ x, b6 = some x ∧ b = x.block) ∨ ∃ x, b6' = some x ∧ b = x.block) → u5.heap.size ≤ b ∧ b < u6.heap.size) := O6.blocks
  have DW : Below W.heap.size W W := Below.refl _ _
  clear O4 O5 O6 OG VW bW sW hb6
  have v0 := ((FW.out _ C6).2.1).cell 0
  have v1 := ((FW.out _ C6).2.1).cell 1
  have v2 := ((FW.out _ C6).2.1).cell 2
  have v3 := ((FW.out _ C6).2.1).cell 3
  simp at v0 v1 v2 v3
  have qv := (FW.out _ C6).2.2.2.2
  go_wp2_with fail
  simp only [← hW]
  refine (eqClashR_any cd ff b6 b6' b3 b3' i6 i6' i3 i3' ls ms _ (has_of_own (FG.out _ (Fr.refl _ _)).one WA.out) (has_of_own (FG.out _ (Fr.refl _ _)).two WB.out) ((FW.out _ CW).2.2.1).1 ((FW.out _ CW).2.2.1).2 (by omega) (by omega)).mono ?_
  rintro r u7 ⟨rfl, hb7⟩
  have E7 : Ex U.heap.size U.heap.size W u7 := Ex.on (Fr.refl _ _) hb7
  clear v0 v1 v2 v3 qv hb7 hW
  go_wp2_with fail
  refine (toInts_has a0 cap0 d0 _ ((FW.out _ (FE.out _ _ E7)).1.1) hs0).mono ?_
  rintro r u8 ⟨rfl, hb8, X8, y8⟩
  have E8 : Ex U.heap.size U.heap.size W u8 := Ex.on E7 hb8
  clear hb8
  go_wp2_with fail
  refine (eqInts_any _ _ _ _ d0 _ (has_of_own (FX0.out _ E8) WF0.out) X8 hs0).mono ?_
  rintro r u9 ⟨rfl, hb9⟩
  have E9 : Ex U.heap.size U.heap.size W u9 := Ex.on E8 hb9
  clear hb9 E8 X8
  go_wp2_with fail
  refine (toInts_has a1 cap1 d1 _ ((FW.out _ (FE.out _ _ E9)).1.2) hs1).mono ?_
  rintro r u10 ⟨rfl, hb10, X10, y10⟩
  have E10 : Ex U.heap.size U.heap.size W u10 := Ex.on E9 hb10
  clear hb10
  go_wp2_with fail
  refine (eqInts_any _ _ _ _ d1 _ (has_of_own (FX1.out _ (Fr.mono E10 (fun b h => ⟨h.1, by omega⟩))) WF1.out) X10 hs1).mono ?_
  rintro r u11 ⟨rfl, hb11⟩
  have E11 : Ex U.heap.size U.heap.size W u11 := Ex.on E10 hb11
  clear hb11 E10 X10
  go_wp2_with fail
  refine (markInt64S_any _ _ _ (1) d0 _ (FX0.out _ E11) (by omega) (by omega) (by omega)).mono ?_
  rintro r u12 ⟨rfl, _, hm12⟩
  have E12 : Ex U.heap.size u4.heap.size W u12 := Ex.mk E11 hm12 (fun ad had => by cases had; show _ ≤ U.heap.size ∧ U.heap.size < _; omega) (by omega)
  clear hm12 E11
  go_wp2_with fail
  refine (markInt64S_any _ _ _ (1 + (d0.length : Int)) d1 _ (FX1.out _ E12) (by omega) (by omega) (by omega)).mono ?_
  rintro r u13 ⟨rfl, _, hm13⟩
  have E13 : Ex U.heap.size u5.heap.size W u13 := Ex.mk E12 hm13 (fun ad had => by cases had; show _ ≤ u4.heap.size ∧ u4.heap.size < _; omega) (by omega)
  clear hm13 E12
  have vf := FV.out _ _ (by omega) E13
  have fw := FW.out _ (FE.out _ _ E13)
  have t0 := (vf.1).cell 0
  have t1 := (vf.1).cell 1
  have t2 := (vf.1).cell 2
  have t3 := (vf.1).cell 3
  simp at t0 t1 t2 t3
  have v0 := (fw.2.1).cell 0
  have v1 := (fw.2.1).cell 1
  have v2 := (fw.2.1).cell 2
  have v3 := (fw.2.1).cell 3
  simp at v0 v1 v2 v3
  go_wp2_with fail
  refine (eqClashR_any cd ff _ _ _ _ _ _ _ _ ls ms _ (has_of_own (FG.out _ E13).one WA.out) (has_of_own (FG.out _ E13).two WB.out) (fw.2.2.1).1 (fw.2.2.1).2 (by omega) (by omega)).mono ?_
  rintro r u14 ⟨rfl, hb14⟩
  have E14 : Ex U.heap.size u5.heap.size W u14 := Ex.on E13 hb14
  clear t0 t1 t2 t3 v0 v1 v2 v3 vf fw hb14 E13
  have vf := FV.out _ _ (by omega) E14
  have t0 := (vf.1).cell 0
  have t1 := (vf.1).cell 1
  have t2 := (vf.1).cell 2
  have t3 := (vf.1).cell 3
  simp at t0 t1 t2 t3
  go_wp2_with fail
  refine (markClashR_any cd ff _ _ _ _ _ ls ms 1 _ (FG.out _ E14) (by omega) (by omega) (by omega) (by omega) (by omega)).mono ?_
  rintro r u15 ⟨rfl, OM, hm15⟩
  have E15 : Ex U.heap.size u6.heap.size W u15 := Ex.fr E14 hm15 (fun b hb => by have := GB.out b hb; omega) (by omega)
  have FM : Hid (∀ u : World, Below u15.heap.size u15 u → Has u .u8 b6 (markL 1 ls.length).length (markL 1 ls.length) ∧ Has u .u8 b6' (markL (1 + ls.length) ms.length).length (markL (1 + ls.length) ms.length)) := by
    intro u h
    have h1 := OM.one
    have h2 := OM.two
    exact ⟨(has_of_own h1 (markL_wf _ _)).below h (Nat.le_refl _), (has_of_own h2 (markL_wf _ _)).below h (Nat.le_refl _)⟩
  have D15 : Below u15.heap.size u15 u15 := Below.refl _ _
  clear hm15 OM vf t0 t1 t2 t3 E14
  have vf := FV.out _ _ (Nat.le_refl _) E15
  have t0 := (vf.1).cell 0
  have t1 := (vf.1).cell 1
  have t2 := (vf.1).cell 2
  have t3 := (vf.1).cell 3
  simp at t0 t1 t2 t3
  go_wp2_with fail
  refine (heldClashR_any cd ff _ _ _ _ ls.length ms.length 1 _ (FM.out _ D15).1 (FM.out _ D15).2 (by omega) (by omega) (by omega) (by omega)).mono ?_
  rintro r u16 ⟨rfl, hb16⟩
  have E16 : Ex U.heap.size u6.heap.size W u16 := Ex.on E15 hb16
  have D16 : Below u15.heap.size u15 u16 := D15.trans (hb16.mono D15.size)
  clear vf t0 t1 t2 t3 hb16 E15 D15
  go_wp2_with fail
  refine (toInts_has a0 cap0 d0 _ ((FW.out _ (FE.out _ _ E16)).1.1) hs0).mono ?_
  rintro r u17 ⟨rfl, hb17, X17, y17⟩
  have E17 : Ex U.heap.size u6.heap.size W u17 := Ex.on E16 hb17
  have D17 : Below u15.heap.size u15 u17 := D16.trans (hb17.mono D16.size)
  clear hb17 E16 D16
  go_wp2_with fail
  refine (toInts_has a1 cap1 d1 _ ((FW.out _ (FE.out _ _ E17)).1.2) hs1).mono ?_
  rintro r u18 ⟨rfl, hb18, X18, y18⟩
  have E18 : Ex U.heap.size u6.heap.size W u18 := Ex.on E17 hb18
  have D18 : Below u15.heap.size u15 u18 := D17.trans (hb18.mono D17.size)
  replace X17 := X17.below hb18 (Nat.le_refl _)
  clear hb18 E17 D17
  go_wp2_with fail
  refine (IM.out _ _ _ (HT.out.below (FW.out _ (FE.out _ _ E18)).2.2.2.1 (Nat.le_refl _)) X17 X18).mono ?_
  rintro r u19 ⟨b19, i19, b19', i19', rfl, O19, hb19⟩
  have E19 : Ex U.heap.size u6.heap.size W u19 := Ex.on E18 hb19
  have D19 : Below u15.heap.size u15 u19 := D18.trans (hb19.mono D18.size)
  clear X17 X18 hb19 E18 D18
  have fw := FW.out _ (FE.out _ _ E19)
  have qf := (FV.out _ _ (Nat.le_refl _) E19).2
  have v0 := (fw.2.1).cell 0
  have v1 := (fw.2.1).cell 1
  have v2 := (fw.2.1).cell 2
  have v3 := (fw.2.1).cell 3
  simp at v0 v1 v2 v3
  have qv := fw.2.2.2.2
  go_wp2_with fail
  refine (eqClashR_any cd ff _ _ _ _ _ _ _ _ ls ms _ ((has_of_own O19.one WA.out).alloc _) ((has_of_own O19.two WB.out).alloc _) (fw.2.2.1.1.alloc _) (fw.2.2.1.2.alloc _) (by omega) (by omega)).mono ?_
  rintro r u20 ⟨rfl, hb20⟩
  have bb := ((Below.refl u19.heap.size u19).alloc (Nat.le_refl _) (.cells #[.int .i64 cd, .bool ff, .slice b19 ls.length i19, .slice b19' ms.length i19'] 31)).trans (hb20.mono (by simp))
  have E20 : Ex U.heap.size u6.heap.size W u20 := Ex.on E19 bb
  have D20 : Below u15.heap.size u15 u20 := D19.trans (bb.mono D19.size)
  clear fw qf qv v0 v1 v2 v3 hb20 bb O19 E19 D19
  have vf := FV.out _ _ (Nat.le_refl _) E20
  have t0 := (vf.1).cell 0
  have t1 := (vf.1).cell 1
  have t2 := (vf.1).cell 2
  have t3 := (vf.1).cell 3
  simp at t0 t1 t2 t3
  go_wp2_with fail
  refine (heldClashR_any cd ff _ _ _ _ ls.length ms.length 1 _ (FM.out _ D20).1 (FM.out _ D20).2 (by omega) (by omega) (by omega) (by omega)).mono ?_
  rintro r u21 ⟨rfl, hb21⟩
  have E21 : Ex U.heap.size u6.heap.size W u21 := Ex.on E20 hb21
  have D21 : Below u15.heap.size u15 u21 := D20.trans (hb21.mono D20.size)
  clear vf t0 t1 t2 t3 hb21 E20 D20
  go_wp2
  go_ret
  exact ⟨rfl, (FW.out _ (FE.out _ _ E21)).2.2.2.1⟩

set_option maxRecDepth 100000 in
theorem fnExactTreeClash_lifted (os : Os) (started : os.Started) (H : Type) (enc : TypeId × Value → H) :
    ReturnsInHanded {} Tryd.checked os 8 .any (fun w args => (Rows.fnExactTreeClashSpec.pre enc Tryd.prog Tryd.f8 [] false w args ∧ laidMetH Tryd.prog [("loop.example/g00565/impl.pieceStarts", Rows.laid_loop_example_g00565_impl_pieceStarts)] w) ∧ sizedMet enc Tryd.prog Tryd.f8 (OpenSpec.ofChange Rows.fnExactTreeClashSpec) false w args) (Rows.fnExactTreeClashSpec.post enc Tryd.prog Tryd.f8 false true false false) := by
  refine returnsInHanded_of_change_and (C := Tryd.checked) (X := fun w _ => laidMetH Tryd.prog [("loop.example/g00565/impl.pieceStarts", Rows.laid_loop_example_g00565_impl_pieceStarts)] w) (fun _ _ _ hh h => h.of_heap hh) own started (by kernel_rfl) Tryd.func8
    (ChangeSpec.witness_shaped (enc := enc) (C := Tryd.checked) (os := os) (X := fun w _ => laidMetH Tryd.prog [("loop.example/g00565/impl.pieceStarts", Rows.laid_loop_example_g00565_impl_pieceStarts)] w) false (World.doorLaid Tryd.prog 400 os) #[.slice none 0 0, .slice none 0 0] 8 rfl (World.shaped_of_RefB (by kernel_rfl) (by kernel_rfl)) (by kernel_rfl) (by kernel_rfl) (by kernel_rfl) (door_met os _)) ?_
  intro W base args ds gs before hval0 hW _ _ hL _
  have hval : ∀ (j : Nat) t v, Tryd.f8.params[j]? = some t → args[j]? = some v → Value.okWide Tryd.prog W .any base t v := hval0
  have hW' := hW
  obtain ⟨p, q, hA0, hV, rfl, hfz, hnd⟩ := hW
  have hA : DataW.TrodAll enc Tryd.prog W 0 (fun _ => true) true Tryd.f8.params.toList args.toList ds p := hA0
  rw [Tryd.params8] at hA hval
  obtain ⟨v0, vs0, d0, ds0, p0, q0, hargs, rfl, rfl, h0, r0⟩ := trodAll_cons hA
  obtain ⟨v1, vs1, d1, ds1, p1, q1, rfl, rfl, rfl, h1, r1⟩ := trodAll_cons r0
  obtain ⟨rfl, rfl, rfl⟩ := trodAll_nil r1
  obtain rfl : args = #[v0, v1] := by cases args; simp_all
  obtain ⟨g, rfl⟩ : ∃ g, gs = [g] := by obtain ⟨_, _, _, _, d, _, e, _⟩ := trodVars_one hV; exact ⟨d, e⟩
  have g0 := h0
  have lt0 : ∀ x ∈ p0, x.block < W.heap.size := by obtain ⟨m, hm⟩ := g0; exact DataW.trod_lt m _ _ _ hm
  have g1 := h1
  have lt1 : ∀ x ∈ p1, x.block < W.heap.size := by obtain ⟨m, hm⟩ := g1; exact DataW.trod_lt m _ _ _ hm
  obtain ⟨a0, len0, cap0, rfl⟩ := okWide_slice Tryd.underlying25 (hval 0 25 v0 rfl rfl)
  obtain ⟨z0, w0⟩ : ∃ zs, IsRow .i64 W a0 len0 cap0 zs := by
    obtain ⟨fuel, hf⟩ := h0
    rcases open_ints Tryd.underlying25 Tryd.underlying2 (by kernel_rfl) hf with ⟨hcs, _⟩ | ⟨x, l, c, zs, hcs, _, hl, hm, hz, _, hcell, hwz⟩
    · simp [Value.cells] at hcs
      obtain ⟨rfl, rfl, rfl⟩ := hcs
      exact ⟨[], .inl ⟨rfl, rfl, rfl, rfl⟩⟩
    · simp [Value.cells] at hcs
      obtain ⟨rfl, rfl, rfl⟩ := hcs
      exact ⟨zs, .inr ⟨_, rfl, hl, hm, by simpa using hz, hcell, hwz⟩⟩
  obtain ⟨a1, len1, cap1, rfl⟩ := okWide_slice Tryd.underlying25 (hval 1 25 v1 rfl rfl)
  obtain ⟨z1, w1⟩ : ∃ zs, IsRow .i64 W a1 len1 cap1 zs := by
    obtain ⟨fuel, hf⟩ := h1
    rcases open_ints Tryd.underlying25 Tryd.underlying2 (by kernel_rfl) hf with ⟨hcs, _⟩ | ⟨x, l, c, zs, hcs, _, hl, hm, hz, _, hcell, hwz⟩
    · simp [Value.cells] at hcs
      obtain ⟨rfl, rfl, rfl⟩ := hcs
      exact ⟨[], .inl ⟨rfl, rfl, rfl, rfl⟩⟩
    · simp [Value.cells] at hcs
      obtain ⟨rfl, rfl, rfl⟩ := hcs
      exact ⟨zs, .inr ⟨_, rfl, hl, hm, by simpa using hz, hcell, hwz⟩⟩
  clear hA0 hval0
  refine (fnExactTreeClash_walk W (tab_of_laid hL) a0 len0 cap0 z0 w0 a1 len1 cap1 z1 w1).mono fun e W' ⟨he, bel⟩ => ?_
  subst he
  exact ⟨_, rfl, _, _, _, [], _, _, hW', trodAll_mk1 (shut_bool Tryd.underlying4 _), (trodAll_cons_mk (Below.trod laidOut (by kernel_rfl) (of_decide_eq_true (by kernel_rfl)) g0 bel lt0) (trodAll_cons_mk (Below.trod laidOut (by kernel_rfl) (of_decide_eq_true (by kernel_rfl)) g1 bel lt1) trodAll_mk0)), Below.trodVars laidOut bel (by kernel_rfl) hV, bel.frame _, fun h => by cases h⟩

theorem fnExactTreeClash_row : Rows.FnExactTreeClashSaid :=
  OpenClaim.holds_of_wide 8 Tryd.f8 rfl rfl rfl rfl rfl rfl rfl ⟨rfl, rfl, rfl, rfl, rfl⟩ rfl rfl rfl rfl rfl (by kernel_rfl) Tryd.func8 (by kernel_rfl)
    (of_decide_eq_true (by kernel_rfl)) (by unfold Func.isWrapper; first | (rw [if_pos (by decide +kernel)]; kernel_rfl) | (rw [if_neg (by decide +kernel)]; exact ⟨rfl, rfl⟩))
    (fun os started H enc _ => fnExactTreeClash_lifted os started H enc)

theorem fnExactTreeClash_holds : Rows.FnExactTreeClashCardSaid :=
  Claim7.holds_tied_plain_at .later [] [.data] true Rows.fnExactTreeClashCard.stood.harness Rows.fnExactTreeClashCard.stood.looks
    fnExactTreeClash_row (fun _ h => by cases h) (by kernel_rfl) (fun _ h => by cases h) fnExactTreeClash_row_tie rfl ⟨rfl, rfl⟩ (by kernel_rfl) rfl
    (fun f fn hf hfn => by
      obtain rfl : f = 8 := Option.some.inj ((show Tryd.prog.funcNamed "loop.example/g00565/laws.FnExactTreeClash" = some 8 by kernel_rfl).symm.trans hf) |>.symm
      obtain rfl : fn = Tryd.f8 := (Option.some.inj (Tryd.func8.symm.trans hfn)).symm
      exact ⟨by kernel_rfl, fun j t ht => by
        rw [Tryd.params8] at ht
        have h3 : t = 25 := by
          match j, ht with
          | 0, ht => simp at ht; simp [← ht]
          | 1, ht => simp at ht; simp [← ht]
          | _ + 2, ht => simp at ht
        rcases h3 with rfl
        all_goals exact (show Tryd.prog.wantsStandIn _ = false by kernel_rfl)⟩)
    (by kernel_rfl)
#print axioms fnExactTreeClash_holds
end Go.Proofs.YtklhkhlmhddmcaaDoor
