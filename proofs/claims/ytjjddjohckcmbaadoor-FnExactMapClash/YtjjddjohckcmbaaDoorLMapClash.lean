/- At every slice of slots, key, truth value, value and path the program's MapClash answers as the specification's model of it, in memory of its own, and leaves the slices as they were; the table that begins pieces starts as the program's text lays it. -/
import Derived.Test.YtjjddjohckcmbaaDoorIMc
import Derived.Test.YtjjddjohckcmbaaDoorSClM
import Derived.Test.YtjjddjohckcmbaaDoorExc
import Derived.Test.YtjjddjohckcmbaaDoorSlK
import Derived.Test.YtjjddjohckcmbaaDoorDoor
namespace Go.Proofs.YtjjddjohckcmbaaDoor
open Go.ChangeShapes Go.WideShapes Go.ChangeAt Go.RowKit
set_option linter.unusedVariables false
set_option linter.unusedSimpArgs false

set_option maxRecDepth 100000 in
set_option maxHeartbeats 16000000 in
theorem fnExactMapClash_walk (w : World) (hT : Tab w) (a0 : Option Addr) (len0 cap0 : Nat) (d0 : List Sl) (w0 : IsSls w a0 len0 cap0 d0) (a1 : Int) (w1 : (Lit.int .i64 a1).wf = true) (a2 : Bool) (a3 : Int) (w3 : (Lit.int .i64 a3).wf = true) (a4 : Option Addr) (len4 cap4 : Nat) (z4 : List Int) (w4 : IsRow .i64 w a4 len4 cap4 z4) :
    Calls Tryd.prog 9 #[.slice a0 len0 cap0, .int .i64 a1, .bool a2, .int .i64 a3, .slice a4 len4 cap4] w fun e w' => e = .returned (.bool true) ∧ Below w.heap.size w w' := by
  obtain ⟨hlc0, hcm0, rfl, A0⟩ := w0
  have A4 := Has.of_row w4
  have hlen4 := A4.1
  generalize z4.take len4 = d4 at A4 hlen4
  subst hlen4
  clear w4
  by_cases big4 : 1048576 < d4.length
  case pos =>
    have big4' : (1048576 : Int) < (d4.length : Int) := by omega
    go_enter Tryd.func9, Tryd.ntmps9
    go_wp2
    go_ret
    exact ⟨rfl, Below.refl _ _⟩
  have hs4 : d4.length ≤ 1048576 := by omega
  have hs4' : (d4.length : Int) ≤ 1048576 := by omega
  clear big4
  have hlm0 : d0.length ≤ maxLen := Nat.le_trans hlc0 hcm0
  have SZ0 : Hid (∀ u : World, Below w.heap.size w u → Calls Tryd.prog 33 #[.slice a0 d0.length cap0, .int .i64 (1048576)] u fun r w' => r = .returned (.int .i64 (szW (1048576) d0)) ∧ Below u.heap.size u w') := fun u hu => szS_any a0 cap0 d0 (1048576) u (A0.below hu (Nat.le_refl _)) hlm0 (by omega) (by omega)
  by_cases big0 : szW (1048576) d0 < 0
  case pos =>
    go_enter Tryd.func9, Tryd.ntmps9
    go_wp2_with fail
    refine (SZ0.out _ (Below.refl _ _)).mono ?_
    rintro r y0 ⟨rfl, hy0⟩
    go_wp2
    go_ret
    exact ⟨rfl, hy0⟩
  have hz0 := szW_ok big0 (by omega)
  have hs0 : d0.length ≤ 1048576 := hz0.1
  have hs0' : (d0.length : Int) ≤ 1048576 := by omega
  have hm0 : d0.length ≤ maxLen := by unfold maxLen; omega
  have WF0 : Hid (WfS d0) := A0.wf
  have hm4 : d4.length ≤ maxLen := by unfold maxLen; omega
  have WF4 : Hid (∀ n ∈ d4, (Lit.int .i64 n).wf = true) := A4.2.1
  obtain ⟨X, hX⟩ : ∃ X, X = mkX d0 a1 a2 a3 d4 := ⟨_, rfl⟩
  obtain ⟨ls, hls⟩ : ∃ l, l = clA X := ⟨_, rfl⟩
  obtain ⟨ms, hms⟩ : ∃ l, l = clB X := ⟨_, rfl⟩
  obtain ⟨ff, hff⟩ : ∃ f, f = X.isSome := ⟨_, rfl⟩
  obtain ⟨cd, hcd⟩ : ∃ c, c = mkC d0 a1 a2 a3 d4 := ⟨_, rfl⟩
  have SP : Hid (∀ (p0 : Option Addr) (p4 : Option Addr) (x : World), HasS x p0 d0 → Has x .i64 p4 d4.length d4 → Calls Tryd.prog 31 #[Value.slice p0 d0.length d0.length, Value.int .i64 a1, Value.bool a2, Value.int .i64 a3, Value.slice p4 d4.length d4.length] x fun r w' => ∃ a1 c1 a2 c2, r = .returned (.agg #[.int .i64 cd, .bool ff, .slice a1 ls.length c1, .slice a2 ms.length c2]) ∧ OwnC w' x.heap.size a1 a2 c1 c2 ls ms ∧ Below x.heap.size x w') := by
    show ∀ (p0 : Option Addr) (p4 : Option Addr) (x : World), HasS x p0 d0 → Has x .i64 p4 d4.length d4 → Calls Tryd.prog 31 #[Value.slice p0 d0.length d0.length, Value.int .i64 a1, Value.bool a2, Value.int .i64 a3, Value.slice p4 d4.length d4.length] x fun r w' => ∃ a1 c1 a2 c2, r = .returned (.agg #[.int .i64 cd, .bool ff, .slice a1 ls.length c1, .slice a2 ms.length c2]) ∧ OwnC w' x.heap.size a1 a2 c1 c2 ls ms ∧ Below x.heap.size x w'
    rw [hls, hms, hff, hX, hcd]
    exact fun p0 p4 x h0 h4 => specMapClash_any p0 _ d0 a1 a3 a2 p4 _ d4 x h0 hs0 h4 hs4 (Nat.le_refl _) hm4
  have IM : Hid (∀ (p0 : Option Addr) (p4 : Option Addr) (x : World), Tab x → HasS x p0 d0 → Has x .i64 p4 d4.length d4 → Calls Tryd.prog 27 #[Value.slice p0 d0.length d0.length, Value.int .i64 a1, Value.bool a2, Value.int .i64 a3, Value.slice p4 d4.length d4.length] x fun r w' => ∃ a1 c1 a2 c2, r = .returned (.agg #[.int .i64 cd, .bool ff, .slice a1 ls.length c1, .slice a2 ms.length c2]) ∧ OwnC w' x.heap.size a1 a2 c1 c2 ls ms ∧ Below x.heap.size x w') := by
    show ∀ (p0 : Option Addr) (p4 : Option Addr) (x : World), Tab x → HasS x p0 d0 → Has x .i64 p4 d4.length d4 → Calls Tryd.prog 27 #[Value.slice p0 d0.length d0.length, Value.int .i64 a1, Value.bool a2, Value.int .i64 a3, Value.slice p4 d4.length d4.length] x fun r w' => ∃ a1 c1 a2 c2, r = .returned (.agg #[.int .i64 cd, .bool ff, .slice a1 ls.length c1, .slice a2 ms.length c2]) ∧ OwnC w' x.heap.size a1 a2 c1 c2 ls ms ∧ Below x.heap.size x w'
    rw [hls, hms, hff, hX, hcd]
    exact fun p0 p4 x t h0 h4 => implMapClash_any p0 _ d0 a1 a3 a2 p4 _ d4 x t h0 hs0 h4 hs4
  have OK : ls.length ≤ 300 ∧ ms.length ≤ 300 ∧ (∀ n ∈ ls, (Lit.int .u8 n).wf = true) ∧ ∀ n ∈ ms, (Lit.int .u8 n).wf = true := by
    rw [hls, hms, hX]
    exact cl_ok (mkX_some d0 a1 a3 a2 d4)
  obtain ⟨ll, lm, WA0, WB0⟩ := OK
  have WA : Hid (_) := WA0
  have WB : Hid (_) := WB0
  clear hls hms hff hX hcd WA0 WB0
  have hge : (0 : Int) ≤ 1 + (ls.length : Int) + (ms.length : Int) := by omega
  have hne : ((1 + (ls.length : Int) + (ms.length : Int)) != (1 + (ls.length : Int) + (ms.length : Int))) = false := by simp
  have hk0 : (0 : Int) ≤ 1 + ((d0.length * 2 : Nat) : Int) + (d4.length : Int) := by omega
  have FA : Hid (∀ u : World, Below w.heap.size w u → HasS u a0 d0 ∧ Has u .i64 a4 d4.length d4) := fun u hu => ⟨A0.below hu (Nat.le_refl _), A4.below hu (Nat.le_refl _)⟩
  have HT : Hid (Tab w) := hT
  clear hT
  clear A0 A4
  go_enter Tryd.func9, Tryd.ntmps9
  go_wp2_with fail
  refine (SZ0.out _ (Below.refl _ _)).mono ?_
  rintro r u1 ⟨rfl, hb1⟩
  have B1 : Below w.heap.size w u1 := hb1
  go_wp2_with fail
  refine (toSlotS_has a0 cap0 d0 _ ((FA.out _ B1).1) hs0).mono ?_
  rintro r u2 ⟨rfl, hb2, X2, y2⟩
  have B2 : Below w.heap.size w u2 := B1.trans (hb2.mono B1.size)
  go_wp2_with fail
  refine (toInts_has a4 cap4 d4 _ ((FA.out _ B2).2) hs4).mono ?_
  rintro r u3 ⟨rfl, hb3, X3, y3⟩
  have B3 : Below w.heap.size w u3 := B2.trans (hb3.mono B2.size)
  replace X2 := X2.below hb3 (Nat.le_refl _)
  go_wp2_with fail
  refine (SP.out _ _ _ X2 X3).mono ?_
  rintro r u4 ⟨b4, i4, b4', i4', rfl, O4, hb4⟩
  have B4 : Below w.heap.size w u4 := B3.trans (hb4.mono B3.size)
  have zS := B4.size
  clear X2 hb2 X3 hb3 hb4
  obtain ⟨U, hU⟩ : ∃ U, U = u4.alloc (.cells #[.int .i64 cd, .bool ff, .slice b4 ls.length i4, .slice b4' ms.length i4'] 47) := ⟨_, rfl⟩
  have sU : U.heap.size = u4.heap.size + 1 := by rw [hU]; simp
  have BU : Below w.heap.size w U := by rw [hU]; exact B4.alloc zS _
  have VU : Blk U u4.heap.size #[.int .i64 cd, .bool ff, .slice b4 ls.length i4, .slice b4' ms.length i4'] 47 := by rw [hU]; exact Blk.new _ _ _
  have RU : Has U .u8 b4 ls.length ls ∧ Has U .u8 b4' ms.length ms := by
    rw [hU]
    exact ⟨(has_of_own O4.one WA.out).alloc _, (has_of_own O4.two WB.out).alloc _⟩
  have FW : Hid (∀ u : World, Below U.heap.size U u → (HasS u a0 d0 ∧ Has u .i64 a4 d4.length d4) ∧ Blk u u4.heap.size #[.int .i64 cd, .bool ff, .slice b4 ls.length i4, .slice b4' ms.length i4'] 47 ∧ (Has u .u8 b4 ls.length ls ∧ Has u .u8 b4' ms.length ms) ∧ Below w.heap.size w u ∧ u4.heap.size < u.heap.size) := fun u h => ⟨FA.out u (BU.trans (h.mono BU.size)), VU.below h VU.lt, ⟨RU.1.below h (Nat.le_refl _), RU.2.below h (Nat.le_refl _)⟩, BU.trans (h.mono BU.size), by have := h.size; omega⟩
  clear VU RU O4 zS
  go_wp2_with fail
  simp only [← hU]
  clear hU sU
  refine (toSlotS_any a0 cap0 d0 _ ((FW.out _ (Below.refl _ _)).1.1) hs0).mono ?_
  rintro r u5 ⟨rfl, O5, hb5⟩
  have z5 : U.heap.size < u5.heap.size := (own2_base O5 _ rfl).2
  have C5 : Below U.heap.size U u5 := hb5
  go_wp2_with fail
  refine (toInts_any a4 d4.length cap4 d4 _ ((FW.out _ C5).1.2) hs4).mono ?_
  rintro r u6 ⟨rfl, O6, hb6⟩
  have z6 : u5.heap.size < u6.heap.size := own_lt O6 _ rfl
  have C6 : Below U.heap.size U u6 := C5.trans (hb6.mono C5.size)
  replace O5 := own2_below O5 hb6
  have Y5 := OwnS.has O5 WF0.out
  have Y6 := has_of_own O6 WF4.out
  go_wp2_with fail
  refine (IM.out _ _ _ (HT.out.below (FW.out _ C6).2.2.2.1 (Nat.le_refl _)) Y5 Y6).mono ?_
  rintro r u7 ⟨b7, i7, b7', i7', rfl, O7, hb7⟩
  have C7 : Below U.heap.size U u7 := C6.trans (hb7.mono C6.size)
  have zG := hb7.size
  replace O5 := own2_below O5 hb7
  replace O6 := own_below O6 hb7
  obtain ⟨W, hW⟩ : ∃ W, W = u7.alloc (.cells #[.int .i64 cd, .bool ff, .slice b7 ls.length i7, .slice b7' ms.length i7'] 47) := ⟨_, rfl⟩
  have sW : W.heap.size = u7.heap.size + 1 := by rw [hW]; simp
  have bW : Below u7.heap.size u7 W := by rw [hW]; exact (Below.refl _ _).alloc (Nat.le_refl _) _
  have VW : Blk W u7.heap.size #[.int .i64 cd, .bool ff, .slice b7 ls.length i7, .slice b7' ms.length i7'] 47 := by rw [hW]; exact Blk.new _ _ _
  have CW : Below U.heap.size U W := C7.trans (bW.mono C7.size)
  have FX0 : Hid (∀ u : World, Ex U.heap.size U.heap.size W u → OwnS u U.heap.size (.slice (some ⟨U.heap.size, 0, none⟩) d0.length d0.length) d0) := fun u h => own2_ex (own2_below O5 bW) h (Nat.le_refl _)
  have FX4 : Hid (∀ u : World, Ex U.heap.size u5.heap.size W u → World.ownsRow u u5.heap.size 2 1 (.slice (some ⟨u5.heap.size, 0, none⟩) d4.length d4.length) d4.length (d4.map (.int .i64))) := fun u h => own_ex (own_below O6 bW) h (Nat.le_refl _)
  have OG : OwnC W u6.heap.size b7 b7' i7 i7' ls ms := O7.below bW
  have FG : Hid (∀ u : World, Ex U.heap.size u6.heap.size W u → OwnC u u6.heap.size b7 b7' i7 i7' ls ms) := fun u h => OG.ex h (Nat.le_refl _)
  have FV : Hid (∀ (hi : Nat) (u : World), hi ≤ u7.heap.size → Ex U.heap.size hi W u → Blk u u7.heap.size #[.int .i64 cd, .bool ff, .slice b7 ls.length i7, .slice b7' ms.length i7'] 47 ∧ u7.heap.size < u.heap.size) := fun hi u hh h => ⟨VW.ex h (.inr hh), by have := h.size; omega⟩
  have FE : Hid (∀ (hi : Nat) (u : World), Ex U.heap.size hi W u → Below U.heap.size U u) := fun hi u h => CW.trans (Ex.low h CW.size)
  have GB : Hid (∀ b, ((∃ x, b7 = some x ∧ b = x.block) ∨ ∃ x, b7' = some x ∧ b = x.block) → u6.heap.size ≤ b ∧ b < u7.heap.size) := O7.blocks
  have DW : Below W.heap.size W W := Below.refl _ _
  clear O5 O6 O7 OG VW bW sW hb7
  have v0 := ((FW.out _ C7).2.1).cell 0
  have v1 := ((FW.out _ C7).2.1).cell 1
  have v2 := ((FW.out _ C7).2.1).cell 2
  have v3 := ((FW.out _ C7).2.1).cell 3
  simp at v0 v1 v2 v3
  have qv := (FW.out _ C7).2.2.2.2
  go_wp2_with fail
  simp only [← hW]
  refine (eqClashR_any cd ff b7 b7' b4 b4' i7 i7' i4 i4' ls ms _ (has_of_own (FG.out _ (Fr.refl _ _)).one WA.out) (has_of_own (FG.out _ (Fr.refl _ _)).two WB.out) ((FW.out _ CW).2.2.1).1 ((FW.out _ CW).2.2.1).2 (by omega) (by omega)).mono ?_
  rintro r u8 ⟨rfl, hb8⟩
  have E8 : Ex U.heap.size U.heap.size W u8 := Ex.on (Fr.refl _ _) hb8
  clear v0 v1 v2 v3 qv hb8 hW
  go_wp2_with fail
  refine (toSlotS_has a0 cap0 d0 _ ((FW.out _ (FE.out _ _ E8)).1.1) hs0).mono ?_
  rintro r u9 ⟨rfl, hb9, X9, y9⟩
  have E9 : Ex U.heap.size U.heap.size W u9 := Ex.on E8 hb9
  clear hb9
  go_wp2_with fail
  refine (eqSlotS_any _ _ _ _ d0 _ (OwnS.has (FX0.out _ E9) WF0.out) X9 hs0).mono ?_
  rintro r u10 ⟨rfl, hb10⟩
  have E10 : Ex U.heap.size U.heap.size W u10 := Ex.on E9 hb10
  clear hb10 E9 X9
  go_wp2_with fail
  refine (toInts_has a4 cap4 d4 _ ((FW.out _ (FE.out _ _ E10)).1.2) hs4).mono ?_
  rintro r u11 ⟨rfl, hb11, X11, y11⟩
  have E11 : Ex U.heap.size U.heap.size W u11 := Ex.on E10 hb11
  clear hb11
  go_wp2_with fail
  refine (eqInts_any _ _ _ _ d4 _ (has_of_own (FX4.out _ (Fr.mono E11 (fun b h => ⟨h.1, by omega⟩))) WF4.out) X11 hs4).mono ?_
  rintro r u12 ⟨rfl, hb12⟩
  have E12 : Ex U.heap.size U.heap.size W u12 := Ex.on E11 hb12
  clear hb12 E11 X11
  go_wp2_with fail
  refine (markSlotS_any _ _ _ (1) d0 _ (FX0.out _ E12) (by omega) (by omega) (by omega)).mono ?_
  rintro r u13 ⟨rfl, _, hm13⟩
  have E13 : Ex U.heap.size u5.heap.size W u13 := Ex.mk E12 hm13 (fun ad had => by cases had; show _ ≤ U.heap.size ∧ U.heap.size < _; omega) (by omega)
  clear hm13 E12
  go_wp2_with fail
  refine (markInt64S_any _ _ _ (1 + ((d0.length * 2 : Nat) : Int)) d4 _ (FX4.out _ E13) (by omega) (by omega) (by omega)).mono ?_
  rintro r u14 ⟨rfl, _, hm14⟩
  have E14 : Ex U.heap.size u6.heap.size W u14 := Ex.mk E13 hm14 (fun ad had => by cases had; show _ ≤ u5.heap.size ∧ u5.heap.size < _; omega) (by omega)
  clear hm14 E13
  have vf := FV.out _ _ (by omega) E14
  have fw := FW.out _ (FE.out _ _ E14)
  have t0 := (vf.1).cell 0
  have t1 := (vf.1).cell 1
  have t2 := (vf.1).cell 2
  have t3 := (vf.1).cell 3
  simp at t0 t1 t2 t3
  have v0 := (fw.2.1).cell 0
  have v1 := (fw.2.1).cell 1
  have v2 := (fw.2.1).cell 2
  have v3 := (fw.2.1).cell 3
  simp at v0 v1 v2 v3
  go_wp2_with fail
  refine (eqClashR_any cd ff _ _ _ _ _ _ _ _ ls ms _ (has_of_own (FG.out _ E14).one WA.out) (has_of_own (FG.out _ E14).two WB.out) (fw.2.2.1).1 (fw.2.2.1).2 (by omega) (by omega)).mono ?_
  rintro r u15 ⟨rfl, hb15⟩
  have E15 : Ex U.heap.size u6.heap.size W u15 := Ex.on E14 hb15
  clear t0 t1 t2 t3 v0 v1 v2 v3 vf fw hb15 E14
  have vf := FV.out _ _ (by omega) E15
  have t0 := (vf.1).cell 0
  have t1 := (vf.1).cell 1
  have t2 := (vf.1).cell 2
  have t3 := (vf.1).cell 3
  simp at t0 t1 t2 t3
  go_wp2_with fail
  refine (markClashR_any cd ff _ _ _ _ _ ls ms 1 _ (FG.out _ E15) (by omega) (by omega) (by omega) (by omega) (by omega)).mono ?_
  rintro r u16 ⟨rfl, OM, hm16⟩
  have E16 : Ex U.heap.size u7.heap.size W u16 := Ex.fr E15 hm16 (fun b hb => by have := GB.out b hb; omega) (by omega)
  have FM : Hid (∀ u : World, Below u16.heap.size u16 u → Has u .u8 b7 (markL 1 ls.length).length (markL 1 ls.length) ∧ Has u .u8 b7' (markL (1 + ls.length) ms.length).length (markL (1 + ls.length) ms.length)) := by
    intro u h
    have h1 := OM.one
    have h2 := OM.two
    exact ⟨(has_of_own h1 (markL_wf _ _)).below h (Nat.le_refl _), (has_of_own h2 (markL_wf _ _)).below h (Nat.le_refl _)⟩
  have D16 : Below u16.heap.size u16 u16 := Below.refl _ _
  clear hm16 OM vf t0 t1 t2 t3 E15
  have vf := FV.out _ _ (Nat.le_refl _) E16
  have t0 := (vf.1).cell 0
  have t1 := (vf.1).cell 1
  have t2 := (vf.1).cell 2
  have t3 := (vf.1).cell 3
  simp at t0 t1 t2 t3
  go_wp2_with fail
  refine (heldClashR_any cd ff _ _ _ _ ls.length ms.length 1 _ (FM.out _ D16).1 (FM.out _ D16).2 (by omega) (by omega) (by omega) (by omega)).mono ?_
  rintro r u17 ⟨rfl, hb17⟩
  have E17 : Ex U.heap.size u7.heap.size W u17 := Ex.on E16 hb17
  have D17 : Below u16.heap.size u16 u17 := D16.trans (hb17.mono D16.size)
  clear vf t0 t1 t2 t3 hb17 E16 D16
  go_wp2_with fail
  refine (toSlotS_has a0 cap0 d0 _ ((FW.out _ (FE.out _ _ E17)).1.1) hs0).mono ?_
  rintro r u18 ⟨rfl, hb18, X18, y18⟩
  have E18 : Ex U.heap.size u7.heap.size W u18 := Ex.on E17 hb18
  have D18 : Below u16.heap.size u16 u18 := D17.trans (hb18.mono D17.size)
  clear hb18 E17 D17
  go_wp2_with fail
  refine (toInts_has a4 cap4 d4 _ ((FW.out _ (FE.out _ _ E18)).1.2) hs4).mono ?_
  rintro r u19 ⟨rfl, hb19, X19, y19⟩
  have E19 : Ex U.heap.size u7.heap.size W u19 := Ex.on E18 hb19
  have D19 : Below u16.heap.size u16 u19 := D18.trans (hb19.mono D18.size)
  replace X18 := X18.below hb19 (Nat.le_refl _)
  clear hb19 E18 D18
  go_wp2_with fail
  refine (IM.out _ _ _ (HT.out.below (FW.out _ (FE.out _ _ E19)).2.2.2.1 (Nat.le_refl _)) X18 X19).mono ?_
  rintro r u20 ⟨b20, i20, b20', i20', rfl, O20, hb20⟩
  have E20 : Ex U.heap.size u7.heap.size W u20 := Ex.on E19 hb20
  have D20 : Below u16.heap.size u16 u20 := D19.trans (hb20.mono D19.size)
  clear X18 X19 hb20 E19 D19
  have fw := FW.out _ (FE.out _ _ E20)
  have qf := (FV.out _ _ (Nat.le_refl _) E20).2
  have v0 := (fw.2.1).cell 0
  have v1 := (fw.2.1).cell 1
  have v2 := (fw.2.1).cell 2
  have v3 := (fw.2.1).cell 3
  simp at v0 v1 v2 v3
  have qv := fw.2.2.2.2
  go_wp2_with fail
  refine (eqClashR_any cd ff _ _ _ _ _ _ _ _ ls ms _ ((has_of_own O20.one WA.out).alloc _) ((has_of_own O20.two WB.out).alloc _) (fw.2.2.1.1.alloc _) (fw.2.2.1.2.alloc _) (by omega) (by omega)).mono ?_
  rintro r u21 ⟨rfl, hb21⟩
  have bb := ((Below.refl u20.heap.size u20).alloc (Nat.le_refl _) (.cells #[.int .i64 cd, .bool ff, .slice b20 ls.length i20, .slice b20' ms.length i20'] 47)).trans (hb21.mono (by simp))
  have E21 : Ex U.heap.size u7.heap.size W u21 := Ex.on E20 bb
  have D21 : Below u16.heap.size u16 u21 := D20.trans (bb.mono D20.size)
  clear fw qf qv v0 v1 v2 v3 hb21 bb O20 E20 D20
  have vf := FV.out _ _ (Nat.le_refl _) E21
  have t0 := (vf.1).cell 0
  have t1 := (vf.1).cell 1
  have t2 := (vf.1).cell 2
  have t3 := (vf.1).cell 3
  simp at t0 t1 t2 t3
  go_wp2_with fail
  refine (heldClashR_any cd ff _ _ _ _ ls.length ms.length 1 _ (FM.out _ D21).1 (FM.out _ D21).2 (by omega) (by omega) (by omega) (by omega)).mono ?_
  rintro r u22 ⟨rfl, hb22⟩
  have E22 : Ex U.heap.size u7.heap.size W u22 := Ex.on E21 hb22
  have D22 : Below u16.heap.size u16 u22 := D21.trans (hb22.mono D21.size)
  clear vf t0 t1 t2 t3 hb22 E21 D21
  go_wp2
  go_ret
  exact ⟨rfl, (FW.out _ (FE.out _ _ E22)).2.2.2.1⟩

set_option maxRecDepth 100000 in
theorem fnExactMapClash_lifted (os : Os) (started : os.Started) (H : Type) (enc : TypeId × Value → H) :
    ReturnsInHanded {} Tryd.checked os 9 .any (fun w args => (Rows.fnExactMapClashSpec.pre enc Tryd.prog Tryd.f9 [] false w args ∧ laidMetH Tryd.prog [("loop.example/g00565/impl.pieceStarts", Rows.laid_loop_example_g00565_impl_pieceStarts)] w) ∧ sizedMet enc Tryd.prog Tryd.f9 (OpenSpec.ofChange Rows.fnExactMapClashSpec) false w args) (Rows.fnExactMapClashSpec.post enc Tryd.prog Tryd.f9 false true false false) := by
  refine returnsInHanded_of_change_and (C := Tryd.checked) (X := fun w _ => laidMetH Tryd.prog [("loop.example/g00565/impl.pieceStarts", Rows.laid_loop_example_g00565_impl_pieceStarts)] w) (fun _ _ _ hh h => h.of_heap hh) own started (by kernel_rfl) Tryd.func9
    (ChangeSpec.witness_shaped (enc := enc) (C := Tryd.checked) (os := os) (X := fun w _ => laidMetH Tryd.prog [("loop.example/g00565/impl.pieceStarts", Rows.laid_loop_example_g00565_impl_pieceStarts)] w) false (World.doorLaid Tryd.prog 400 os) #[.slice none 0 0, .int .i64 0, .bool false, .int .i64 0, .slice none 0 0] 8 rfl (World.shaped_of_RefB (by kernel_rfl) (by kernel_rfl)) (by kernel_rfl) (by kernel_rfl) (by kernel_rfl) (door_met os _)) ?_
  intro W base args ds gs before hval0 hW _ _ hL _
  have hval : ∀ (j : Nat) t v, Tryd.f9.params[j]? = some t → args[j]? = some v → Value.okWide Tryd.prog W .any base t v := hval0
  have hW' := hW
  obtain ⟨p, q, hA0, hV, rfl, hfz, hnd⟩ := hW
  have hA : DataW.TrodAll enc Tryd.prog W 0 (fun _ => true) true Tryd.f9.params.toList args.toList ds p := hA0
  rw [Tryd.params9] at hA hval
  obtain ⟨v0, vs0, d0, ds0, p0, q0, hargs, rfl, rfl, h0, r0⟩ := trodAll_cons hA
  obtain ⟨v1, vs1, d1, ds1, p1, q1, rfl, rfl, rfl, h1, r1⟩ := trodAll_cons r0
  obtain ⟨v2, vs2, d2, ds2, p2, q2, rfl, rfl, rfl, h2, r2⟩ := trodAll_cons r1
  obtain ⟨v3, vs3, d3, ds3, p3, q3, rfl, rfl, rfl, h3, r3⟩ := trodAll_cons r2
  obtain ⟨v4, vs4, d4, ds4, p4, q4, rfl, rfl, rfl, h4, r4⟩ := trodAll_cons r3
  obtain ⟨rfl, rfl, rfl⟩ := trodAll_nil r4
  obtain rfl : args = #[v0, v1, v2, v3, v4] := by cases args; simp_all
  obtain ⟨g, rfl⟩ : ∃ g, gs = [g] := by obtain ⟨_, _, _, _, d, _, e, _⟩ := trodVars_one hV; exact ⟨d, e⟩
  have g0 := h0
  have lt0 : ∀ x ∈ p0, x.block < W.heap.size := by obtain ⟨m, hm⟩ := g0; exact DataW.trod_lt m _ _ _ hm
  have g1 := h1
  have lt1 : ∀ x ∈ p1, x.block < W.heap.size := by obtain ⟨m, hm⟩ := g1; exact DataW.trod_lt m _ _ _ hm
  have g2 := h2
  have lt2 : ∀ x ∈ p2, x.block < W.heap.size := by obtain ⟨m, hm⟩ := g2; exact DataW.trod_lt m _ _ _ hm
  have g3 := h3
  have lt3 : ∀ x ∈ p3, x.block < W.heap.size := by obtain ⟨m, hm⟩ := g3; exact DataW.trod_lt m _ _ _ hm
  have g4 := h4
  have lt4 : ∀ x ∈ p4, x.block < W.heap.size := by obtain ⟨m, hm⟩ := g4; exact DataW.trod_lt m _ _ _ hm
  obtain ⟨a0, len0, cap0, rfl⟩ := okWide_slice Tryd.underlying57 (hval 0 57 v0 rfl rfl)
  obtain ⟨d0, w0⟩ : ∃ l, IsSls W a0 len0 cap0 l := by
    obtain ⟨fuel, hf⟩ := h0
    obtain ⟨a', l', c', rs, e, h⟩ := sls_of_trod (v := .slice a0 len0 cap0) Tryd.underlying57 Tryd.underlying109 Tryd.underlying2 Tryd.underlying2 (by kernel_rfl) rfl rfl (by kernel_rfl) (by kernel_rfl) (by simpa [Value.cells] using hf)
    simp at e
    obtain ⟨rfl, rfl, rfl⟩ := e
    exact ⟨rs, h⟩
  obtain ⟨a1, rfl, rfl, rfl, w1⟩ := open_int Tryd.underlying2 (hval 1 2 v1 rfl rfl) h1
  obtain ⟨a2, rfl, rfl, rfl⟩ := open_bool Tryd.underlying4 (hval 2 4 v2 rfl rfl) h2
  obtain ⟨a3, rfl, rfl, rfl, w3⟩ := open_int Tryd.underlying2 (hval 3 2 v3 rfl rfl) h3
  obtain ⟨a4, len4, cap4, rfl⟩ := okWide_slice Tryd.underlying27 (hval 4 27 v4 rfl rfl)
  obtain ⟨z4, w4⟩ : ∃ zs, IsRow .i64 W a4 len4 cap4 zs := by
    obtain ⟨fuel, hf⟩ := h4
    rcases open_ints Tryd.underlying27 Tryd.underlying2 (by kernel_rfl) hf with ⟨hcs, _⟩ | ⟨x, l, c, zs, hcs, _, hl, hm, hz, _, hcell, hwz⟩
    · simp [Value.cells] at hcs
      obtain ⟨rfl, rfl, rfl⟩ := hcs
      exact ⟨[], .inl ⟨rfl, rfl, rfl, rfl⟩⟩
    · simp [Value.cells] at hcs
      obtain ⟨rfl, rfl, rfl⟩ := hcs
      exact ⟨zs, .inr ⟨_, rfl, hl, hm, by simpa using hz, hcell, hwz⟩⟩
  clear hA0 hval0
  refine (fnExactMapClash_walk W (tab_of_laid hL) a0 len0 cap0 d0 w0 a1 w1 a2 a3 w3 a4 len4 cap4 z4 w4).mono fun e W' ⟨he, bel⟩ => ?_
  subst he
  exact ⟨_, rfl, _, _, _, [], _, _, hW', trodAll_mk1 (shut_bool Tryd.underlying4 _), (trodAll_cons_mk (Below.trod laidOut (by kernel_rfl) (of_decide_eq_true (by kernel_rfl)) g0 bel lt0) (trodAll_cons_mk (Below.trod laidOut (by kernel_rfl) (of_decide_eq_true (by kernel_rfl)) g1 bel lt1) (trodAll_cons_mk (Below.trod laidOut (by kernel_rfl) (of_decide_eq_true (by kernel_rfl)) g2 bel lt2) (trodAll_cons_mk (Below.trod laidOut (by kernel_rfl) (of_decide_eq_true (by kernel_rfl)) g3 bel lt3) (trodAll_cons_mk (Below.trod laidOut (by kernel_rfl) (of_decide_eq_true (by kernel_rfl)) g4 bel lt4) trodAll_mk0))))), Below.trodVars laidOut bel (by kernel_rfl) hV, bel.frame _, fun h => by cases h⟩

theorem fnExactMapClash_row : Rows.FnExactMapClashSaid :=
  OpenClaim.holds_of_wide 9 Tryd.f9 rfl rfl rfl rfl rfl rfl rfl ⟨rfl, rfl, rfl, rfl, rfl⟩ rfl rfl rfl rfl rfl (by kernel_rfl) Tryd.func9 (by kernel_rfl)
    (of_decide_eq_true (by kernel_rfl)) (by unfold Func.isWrapper; first | (rw [if_pos (by decide +kernel)]; kernel_rfl) | (rw [if_neg (by decide +kernel)]; exact ⟨rfl, rfl⟩))
    (fun os started H enc _ => fnExactMapClash_lifted os started H enc)

theorem fnExactMapClash_holds : Rows.FnExactMapClashCardSaid :=
  Claim7.holds_tied_plain_at .later [] [.data] true Rows.fnExactMapClashCard.stood.harness Rows.fnExactMapClashCard.stood.looks
    fnExactMapClash_row (fun _ h => by cases h) (by kernel_rfl) (fun _ h => by cases h) fnExactMapClash_row_tie rfl ⟨rfl, rfl⟩ (by kernel_rfl) rfl
    (fun f fn hf hfn => by
      obtain rfl : f = 9 := Option.some.inj ((show Tryd.prog.funcNamed "loop.example/g00565/laws.FnExactMapClash" = some 9 by kernel_rfl).symm.trans hf) |>.symm
      obtain rfl : fn = Tryd.f9 := (Option.some.inj (Tryd.func9.symm.trans hfn)).symm
      exact ⟨by kernel_rfl, fun j t ht => by
        rw [Tryd.params9] at ht
        have h3 : t = 4 ∨ t = 2 ∨ t = 27 ∨ t = 57 := by
          match j, ht with
          | 0, ht => simp at ht; simp [← ht]
          | 1, ht => simp at ht; simp [← ht]
          | 2, ht => simp at ht; simp [← ht]
          | 3, ht => simp at ht; simp [← ht]
          | 4, ht => simp at ht; simp [← ht]
          | _ + 5, ht => simp at ht
        rcases h3 with rfl | rfl | rfl | rfl
        all_goals exact (show Tryd.prog.wantsStandIn _ = false by kernel_rfl)⟩)
    (by kernel_rfl)
#print axioms fnExactMapClash_holds
end Go.Proofs.YtjjddjohckcmbaaDoor
