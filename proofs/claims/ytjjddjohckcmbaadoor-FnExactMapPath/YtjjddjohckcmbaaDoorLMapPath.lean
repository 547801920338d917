/- At every slice of slots and key the program's MapPath answers as the specification's model of it, and leaves them as they were. -/
import Derived.Test.YtjjddjohckcmbaaDoorIPath7
import Derived.Test.YtjjddjohckcmbaaDoorExc
import Derived.Test.YtjjddjohckcmbaaDoorSlK
import Derived.Test.YtjjddjohckcmbaaDoorDoor
namespace Go.Proofs.YtjjddjohckcmbaaDoor
open Go.ChangeShapes Go.WideShapes Go.ChangeAt Go.RowKit
set_option linter.unusedVariables false
set_option linter.unusedSimpArgs false

set_option maxHeartbeats 8000000 in
theorem fnExactMapPath_walk (w : World) (hT : Tab w) (a0 : Option Addr) (len0 cap0 : Nat) (d0 : List Sl) (w0 : IsSls w a0 len0 cap0 d0) (a1 : Int) (w1 : (Lit.int .i64 a1).wf = true) :
    Calls Tryd.prog 6 #[.slice a0 len0 cap0, .int .i64 a1] w fun e w' => e = .returned (.bool true) ∧ Below w.heap.size w w' := by
  obtain ⟨hlc0, hcm0, rfl, A0⟩ := w0
  have hlm0 : d0.length ≤ maxLen := Nat.le_trans hlc0 hcm0
  have SZ0 : Hid (∀ u : World, Below w.heap.size w u → Calls Tryd.prog 33 #[.slice a0 d0.length cap0, .int .i64 (1048576)] u fun r w' => r = .returned (.int .i64 (szW (1048576) d0)) ∧ Below u.heap.size u w') := fun u hu => szS_any a0 cap0 d0 (1048576) u (A0.below hu (Nat.le_refl _)) hlm0 (by omega) (by omega)
  by_cases big0 : szW (1048576) d0 < 0
  case pos =>
    go_enter Tryd.func6, Tryd.ntmps6
    go_wp2_with fail
    refine (SZ0.out _ (Below.refl _ _)).mono ?_
    rintro r y0 ⟨rfl, hy0⟩
    go_wp2
    go_ret
    exact ⟨rfl, hy0⟩
  have hz0 := szW_ok big0 (by omega)
  have hs0 : d0.length ≤ 1048576 := hz0.1
  have hs0' : (d0.length : Int) ≤ 1048576 := by omega
  have hm0 : d0.length ≤ maxLen := by unfold maxLen; omega
  have WF0 : Hid (WfS d0) := A0.wf
  obtain ⟨zs, hzs⟩ : ∃ l, l = mpL d0 a1 := ⟨_, rfl⟩
  obtain ⟨cd, hcd⟩ : ∃ c, c = mpF d0 a1 := ⟨_, rfl⟩
  have SP : Hid (∀ (p0 : Option Addr) (x : World), HasS x p0 d0 → Calls Tryd.prog 19 #[Value.slice p0 d0.length d0.length, Value.int .i64 a1] x fun r w' => ∃ a1 c1, r = .returned (.agg #[.int .i64 cd, .slice a1 zs.length c1]) ∧ World.ownsRow w' x.heap.size 2 1 (.slice a1 zs.length c1) zs.length (zs.map (.int .i64)) ∧ Below x.heap.size x w') := by
    show ∀ (p0 : Option Addr) (x : World), HasS x p0 d0 → Calls Tryd.prog 19 #[Value.slice p0 d0.length d0.length, Value.int .i64 a1] x fun r w' => ∃ a1 c1, r = .returned (.agg #[.int .i64 cd, .slice a1 zs.length c1]) ∧ World.ownsRow w' x.heap.size 2 1 (.slice a1 zs.length c1) zs.length (zs.map (.int .i64)) ∧ Below x.heap.size x w'
    rw [hzs, hcd]
    exact fun p0 x h0 => specMapPath_any p0 _ d0 a1 x h0 hs0
  have IM : Hid (∀ (p0 : Option Addr) (x : World), Tab x → HasS x p0 d0 → Calls Tryd.prog 12 #[Value.slice p0 d0.length d0.length, Value.int .i64 a1] x fun r w' => ∃ a1 c1, r = .returned (.agg #[.int .i64 cd, .slice a1 zs.length c1]) ∧ World.ownsRow w' x.heap.size 2 1 (.slice a1 zs.length c1) zs.length (zs.map (.int .i64)) ∧ Below x.heap.size x w') := by
    show ∀ (p0 : Option Addr) (x : World), Tab x → HasS x p0 d0 → Calls Tryd.prog 12 #[Value.slice p0 d0.length d0.length, Value.int .i64 a1] x fun r w' => ∃ a1 c1, r = .returned (.agg #[.int .i64 cd, .slice a1 zs.length c1]) ∧ World.ownsRow w' x.heap.size 2 1 (.slice a1 zs.length c1) zs.length (zs.map (.int .i64)) ∧ Below x.heap.size x w'
    rw [hzs, hcd]
    exact fun p0 x ht h0 => implMapPath_any p0 _ d0 a1 x ht h0 hs0
  have OK : zs.length ≤ 1048576 ∧ ∀ n ∈ zs, (Lit.int .i64 n).wf = true := by
    rw [hzs]
    exact mpL_wf d0 a1
  obtain ⟨ll, WA0⟩ := OK
  have WA : Hid (_) := WA0
  clear hzs hcd WA0
  have hge : (0 : Int) ≤ 1 + (zs.length : Int) := by omega
  have hne : ((1 + (zs.length : Int)) != (1 + (zs.length : Int))) = false := by simp
  have hk0 : (0 : Int) ≤ 1 + ((d0.length * 2 : Nat) : Int) := by omega
  have FA : Hid (∀ u : World, Below w.heap.size w u → HasS u a0 d0) := fun u hu => A0.below hu (Nat.le_refl _)
  have HT : Hid (Tab w) := hT
  clear hT
  clear A0
  go_enter Tryd.func6, Tryd.ntmps6
  go_wp2_with fail
  refine (SZ0.out _ (Below.refl _ _)).mono ?_
  rintro r u1 ⟨rfl, hb1⟩
  have B1 : Below w.heap.size w u1 := hb1
  go_wp2_with fail
  refine (toSlotS_has a0 cap0 d0 _ (FA.out _ B1) hs0).mono ?_
  rintro r u2 ⟨rfl, hb2, X2, y2⟩
  have B2 : Below w.heap.size w u2 := B1.trans (hb2.mono B1.size)
  go_wp2_with fail
  refine (SP.out _ _ X2).mono ?_
  rintro r u3 ⟨b3, i3, rfl, O3, hb3⟩
  have B3 : Below w.heap.size w u3 := B2.trans (hb3.mono B2.size)
  have zS := B3.size
  clear X2 hb2 hb3
  obtain ⟨U, hU⟩ : ∃ U, U = u3.alloc (.cells #[.int .i64 cd, .slice b3 zs.length i3] 29) := ⟨_, rfl⟩
  have sU : U.heap.size = u3.heap.size + 1 := by rw [hU]; simp
  have BU : Below w.heap.size w U := by rw [hU]; exact B3.alloc zS _
  have VU : Blk U u3.heap.size #[.int .i64 cd, .slice b3 zs.length i3] 29 := by rw [hU]; exact Blk.new _ _ _
  have RU : Has U .i64 b3 zs.length zs := by rw [hU]; exact (has_of_own O3 WA.out).alloc _
  have FW : Hid (∀ u : World, Below U.heap.size U u → (HasS u a0 d0) ∧ Blk u u3.heap.size #[.int .i64 cd, .slice b3 zs.length i3] 29 ∧ (Has u .i64 b3 zs.length zs) ∧ Below w.heap.size w u ∧ u3.heap.size < u.heap.size) := fun u h => ⟨FA.out u (BU.trans (h.mono BU.size)), VU.below h VU.lt, RU.below h (Nat.le_refl _), BU.trans (h.mono BU.size), by have := h.size; omega⟩
  clear VU RU O3 zS
  go_wp2_with fail
  simp only [← hU]
  clear hU sU
  refine (toSlotS_any a0 cap0 d0 _ (FW.out _ (Below.refl _ _)).1 hs0).mono ?_
  rintro r u4 ⟨rfl, O4, hb4⟩
  have z4 : U.heap.size < u4.heap.size := (own2_base O4 _ rfl).2
  have C4 : Below U.heap.size U u4 := hb4
  have Y4 := OwnS.has O4 WF0.out
  go_wp2_with fail
  refine (IM.out _ _ (HT.out.below (FW.out _ C4).2.2.2.1 (Nat.le_refl _)) Y4).mono ?_
  rintro r u5 ⟨b5, i5, rfl, O5, hb5⟩
  have C5 : Below U.heap.size U u5 := C4.trans (hb5.mono C4.size)
  have zG := hb5.size
  replace O4 := own2_below O4 hb5
  obtain ⟨W, hW⟩ : ∃ W, W = u5.alloc (.cells #[.int .i64 cd, .slice b5 zs.length i5] 29) := ⟨_, rfl⟩
  have sW : W.heap.size = u5.heap.size + 1 := by rw [hW]; simp
  have bW : Below u5.heap.size u5 W := by rw [hW]; exact (Below.refl _ _).alloc (Nat.le_refl _) _
  have VW : Blk W u5.heap.size #[.int .i64 cd, .slice b5 zs.length i5] 29 := by rw [hW]; exact Blk.new _ _ _
  have CW : Below U.heap.size U W := C5.trans (bW.mono C5.size)
  have FX0 : Hid (∀ u : World, Ex U.heap.size U.heap.size W u → OwnS u U.heap.size (.slice (some ⟨U.heap.size, 0, none⟩) d0.length d0.length) d0) := fun u h => own2_ex (own2_below O4 bW) h (Nat.le_refl _)
  have OG : World.ownsRow W u4.heap.size 2 1 (.slice b5 zs.length i5) zs.length (zs.map (.int .i64)) := own_below O5 bW
  have FG : Hid (∀ u : World, Ex U.heap.size u4.heap.size W u → World.ownsRow u u4.heap.size 2 1 (.slice b5 zs.length i5) zs.length (zs.map (.int .i64))) := fun u h => own_ex OG h (Nat.le_refl _)
  have FV : Hid (∀ (hi : Nat) (u : World), hi ≤ u5.heap.size → Ex U.heap.size hi W u → Blk u u5.heap.size #[.int .i64 cd, .slice b5 zs.length i5] 29 ∧ u5.heap.size < u.heap.size) := fun hi u hh h => ⟨VW.ex h (.inr hh), by have := h.size; omega⟩
  have FE : Hid (∀ (hi : Nat) (u : World), Ex U.heap.size hi W u → Below U.heap.size U u) := fun hi u h => CW.trans (Ex.low h CW.size)
  have GB : Hid (∀ ad, b5 = some ad → u4.heap.size ≤ ad.block ∧ ad.block < u5.heap.size) := fun ad h => ⟨own_base O5 ad h, own_lt O5 ad h⟩
  have DW : Below W.heap.size W W := Below.refl _ _
  clear O4 O5 OG VW bW sW hb5
  have v0 := ((FW.out _ C5).2.1).cell 0
  have v1 := ((FW.out _ C5).2.1).cell 1
  simp at v0 v1
  have qv := (FW.out _ C5).2.2.2.2
  go_wp2_with fail
  simp only [← hW]
  refine (eqIntsR_any cd b5 b3 i5 i3 zs _ (has_of_own (FG.out _ (Fr.refl _ _)) WA.out) ((FW.out _ CW).2.2.1) ll).mono ?_
  rintro r u6 ⟨rfl, hb6⟩
  have E6 : Ex U.heap.size U.heap.size W u6 := Ex.on (Fr.refl _ _) hb6
  clear v0 v1 qv hb6 hW
  go_wp2_with fail
  refine (toSlotS_has a0 cap0 d0 _ (FW.out _ (FE.out _ _ E6)).1 hs0).mono ?_
  rintro r u7 ⟨rfl, hb7, X7, y7⟩
  have E7 : Ex U.heap.size U.heap.size W u7 := Ex.on E6 hb7
  clear hb7
  go_wp2_with fail
  refine (eqSlotS_any _ _ _ _ d0 _ (OwnS.has (FX0.out _ E7) WF0.out) X7 hs0).mono ?_
  rintro r u8 ⟨rfl, hb8⟩
  have E8 : Ex U.heap.size U.heap.size W u8 := Ex.on E7 hb8
  clear hb8 E7 X7
  go_wp2_with fail
  refine (markSlotS_any _ _ _ (1) d0 _ (FX0.out _ E8) (by omega) (by omega) (by omega)).mono ?_
  rintro r u9 ⟨rfl, _, hm9⟩
  have E9 : Ex U.heap.size u4.heap.size W u9 := Ex.mk E8 hm9 (fun ad had => by cases had; show _ ≤ U.heap.size ∧ U.heap.size < _; omega) (by omega)
  clear hm9 E8
  have vf := FV.out _ _ (by omega) E9
  have fw := FW.out _ (FE.out _ _ E9)
  have t0 := (vf.1).cell 0
  have t1 := (vf.1).cell 1
  simp at t0 t1
  have v0 := (fw.2.1).cell 0
  have v1 := (fw.2.1).cell 1
  simp at v0 v1
  go_wp2_with fail
  refine (eqIntsR_any cd _ _ _ _ zs _ (has_of_own (FG.out _ E9) WA.out) (fw.2.2.1) ll).mono ?_
  rintro r u10 ⟨rfl, hb10⟩
  have E10 : Ex U.heap.size u4.heap.size W u10 := Ex.on E9 hb10
  clear t0 t1 v0 v1 vf fw hb10 E9
  have vf := FV.out _ _ (by omega) E10
  have t0 := (vf.1).cell 0
  have t1 := (vf.1).cell 1
  simp at t0 t1
  go_wp2_with fail
  refine (markIntsR_any _ cd _ _ zs _ (FG.out _ E10) (by omega)).mono ?_
  rintro r u11 ⟨rfl, OM, hm11⟩
  have E11 : Ex U.heap.size u5.heap.size W u11 := Ex.mk (Ex.on E10 ((Below.refl _ _).alloc (Nat.le_refl _) _)) hm11 (fun ad had => by have := GB.out ad had; omega) (by omega)
  have FM : Hid (∀ u : World, Below u11.heap.size u11 u → Has u .i64 b5 (markN 1 zs.length).length (markN 1 zs.length)) := by
    intro u h
    have h1 := OM
    exact (has_of_own h1 (markN_wf 1 zs.length (by omega) (by omega) (by omega))).below h (Nat.le_refl _)
  have D11 : Below u11.heap.size u11 u11 := Below.refl _ _
  clear hm11 OM vf t0 t1 E10
  have vf := FV.out _ _ (Nat.le_refl _) E11
  have t0 := (vf.1).cell 0
  have t1 := (vf.1).cell 1
  simp at t0 t1
  go_wp2_with fail
  refine (heldIntsR_any cd _ _ zs.length _ (FM.out _ D11) (by omega)).mono ?_
  rintro r u12 ⟨rfl, hb12⟩
  have E12 : Ex U.heap.size u5.heap.size W u12 := Ex.on E11 hb12
  have D12 : Below u11.heap.size u11 u12 := D11.trans (hb12.mono D11.size)
  clear vf t0 t1 hb12 E11 D11
  go_wp2_with fail
  refine (toSlotS_has a0 cap0 d0 _ (FW.out _ (FE.out _ _ E12)).1 hs0).mono ?_
  rintro r u13 ⟨rfl, hb13, X13, y13⟩
  have E13 : Ex U.heap.size u5.heap.size W u13 := Ex.on E12 hb13
  have D13 : Below u11.heap.size u11 u13 := D12.trans (hb13.mono D12.size)
  clear hb13 E12 D12
  go_wp2_with fail
  refine (IM.out _ _ (HT.out.below (FW.out _ (FE.out _ _ E13)).2.2.2.1 (Nat.le_refl _)) X13).mono ?_
  rintro r u14 ⟨b14, i14, rfl, O14, hb14⟩
  have E14 : Ex U.heap.size u5.heap.size W u14 := Ex.on E13 hb14
  have D14 : Below u11.heap.size u11 u14 := D13.trans (hb14.mono D13.size)
  clear X13 hb14 E13 D13
  have fw := FW.out _ (FE.out _ _ E14)
  have qf := (FV.out _ _ (Nat.le_refl _) E14).2
  have v0 := (fw.2.1).cell 0
  have v1 := (fw.2.1).cell 1
  simp at v0 v1
  have qv := fw.2.2.2.2
  go_wp2_with fail
  refine (eqIntsR_any cd _ _ _ _ zs _ ((has_of_own O14 WA.out).alloc _) (fw.2.2.1.alloc _) ll).mono ?_
  rintro r u15 ⟨rfl, hb15⟩
  have bb := ((Below.refl u14.heap.size u14).alloc (Nat.le_refl _) (.cells #[.int .i64 cd, .slice b14 zs.length i14] 29)).trans (hb15.mono (by simp))
  have E15 : Ex U.heap.size u5.heap.size W u15 := Ex.on E14 bb
  have D15 : Below u11.heap.size u11 u15 := D14.trans (bb.mono D14.size)
  clear fw qf qv v0 v1 hb15 bb O14 E14 D14
  have vf := FV.out _ _ (Nat.le_refl _) E15
  have t0 := (vf.1).cell 0
  have t1 := (vf.1).cell 1
  simp at t0 t1
  go_wp2_with fail
  refine (heldIntsR_any cd _ _ zs.length _ (FM.out _ D15) (by omega)).mono ?_
  rintro r u16 ⟨rfl, hb16⟩
  have E16 : Ex U.heap.size u5.heap.size W u16 := Ex.on E15 hb16
  have D16 : Below u11.heap.size u11 u16 := D15.trans (hb16.mono D15.size)
  clear vf t0 t1 hb16 E15 D15
  go_wp2
  go_ret
  exact ⟨rfl, (FW.out _ (FE.out _ _ E16)).2.2.2.1⟩

set_option maxRecDepth 100000 in
theorem fnExactMapPath_lifted (os : Os) (started : os.Started) (H : Type) (enc : TypeId × Value → H) :
    ReturnsInHanded {} Tryd.checked os 6 .any (fun w args => (Rows.fnExactMapPathSpec.pre enc Tryd.prog Tryd.f6 [] false w args ∧ laidMetH Tryd.prog [("loop.example/g00565/impl.pieceStarts", Rows.laid_loop_example_g00565_impl_pieceStarts)] w) ∧ sizedMet enc Tryd.prog Tryd.f6 (OpenSpec.ofChange Rows.fnExactMapPathSpec) false w args) (Rows.fnExactMapPathSpec.post enc Tryd.prog Tryd.f6 false true false false) := by
  refine returnsInHanded_of_change_and (C := Tryd.checked) (X := fun w _ => laidMetH Tryd.prog [("loop.example/g00565/impl.pieceStarts", Rows.laid_loop_example_g00565_impl_pieceStarts)] w) (fun _ _ _ hh h => h.of_heap hh) own started (by kernel_rfl) Tryd.func6
    (ChangeSpec.witness_shaped (enc := enc) (C := Tryd.checked) (os := os) (X := fun w _ => laidMetH Tryd.prog [("loop.example/g00565/impl.pieceStarts", Rows.laid_loop_example_g00565_impl_pieceStarts)] w) false (World.doorLaid Tryd.prog 400 os) #[.slice none 0 0, .int .i64 0] 8 rfl (World.shaped_of_RefB (by kernel_rfl) (by kernel_rfl)) (by kernel_rfl) (by kernel_rfl) (by kernel_rfl) (door_met os _)) ?_
  intro W base args ds gs before hval0 hW _ _ hL _
  have hval : ∀ (j : Nat) t v, Tryd.f6.params[j]? = some t → args[j]? = some v → Value.okWide Tryd.prog W .any base t v := hval0
  have hW' := hW
  obtain ⟨p, q, hA0, hV, rfl, hfz, hnd⟩ := hW
  have hA : DataW.TrodAll enc Tryd.prog W 0 (fun _ => true) true Tryd.f6.params.toList args.toList ds p := hA0
  rw [Tryd.params6] at hA hval
  obtain ⟨v0, vs0, d0, ds0, p0, q0, hargs, rfl, rfl, h0, r0⟩ := trodAll_cons hA
  obtain ⟨v1, vs1, d1, ds1, p1, q1, rfl, rfl, rfl, h1, r1⟩ := trodAll_cons r0
  obtain ⟨rfl, rfl, rfl⟩ := trodAll_nil r1
  obtain rfl : args = #[v0, v1] := by cases args; simp_all
  obtain ⟨g, rfl⟩ : ∃ g, gs = [g] := by obtain ⟨_, _, _, _, d, _, e, _⟩ := trodVars_one hV; exact ⟨d, e⟩
  have g0 := h0
  have lt0 : ∀ x ∈ p0, x.block < W.heap.size := by obtain ⟨m, hm⟩ := g0; exact DataW.trod_lt m _ _ _ hm
  have g1 := h1
  have lt1 : ∀ x ∈ p1, x.block < W.heap.size := by obtain ⟨m, hm⟩ := g1; exact DataW.trod_lt m _ _ _ hm
  obtain ⟨a0, len0, cap0, rfl⟩ := okWide_slice Tryd.underlying57 (hval 0 57 v0 rfl rfl)
  obtain ⟨d0, w0⟩ : ∃ l, IsSls W a0 len0 cap0 l := by
    obtain ⟨fuel, hf⟩ := h0
    obtain ⟨a', l', c', rs, e, h⟩ := sls_of_trod (v := .slice a0 len0 cap0) Tryd.underlying57 Tryd.underlying109 Tryd.underlying2 Tryd.underlying2 (by kernel_rfl) rfl rfl (by kernel_rfl) (by kernel_rfl) (by simpa [Value.cells] using hf)
    simp at e
    obtain ⟨rfl, rfl, rfl⟩ := e
    exact ⟨rs, h⟩
  obtain ⟨a1, rfl, rfl, rfl, w1⟩ := open_int Tryd.underlying2 (hval 1 2 v1 rfl rfl) h1
  clear hA0 hval0
  refine (fnExactMapPath_walk W (tab_of_laid hL) a0 len0 cap0 d0 w0 a1 w1).mono fun e W' ⟨he, bel⟩ => ?_
  subst he
  exact ⟨_, rfl, _, _, _, [], _, _, hW', trodAll_mk1 (shut_bool Tryd.underlying4 _), (trodAll_cons_mk (Below.trod laidOut (by kernel_rfl) (of_decide_eq_true (by kernel_rfl)) g0 bel lt0) (trodAll_cons_mk (Below.trod laidOut (by kernel_rfl) (of_decide_eq_true (by kernel_rfl)) g1 bel lt1) trodAll_mk0)), Below.trodVars laidOut bel (by kernel_rfl) hV, bel.frame _, fun h => by cases h⟩

theorem fnExactMapPath_row : Rows.FnExactMapPathSaid :=
  OpenClaim.holds_of_wide 6 Tryd.f6 rfl rfl rfl rfl rfl rfl rfl ⟨rfl, rfl, rfl, rfl, rfl⟩ rfl rfl rfl rfl rfl (by kernel_rfl) Tryd.func6 (by kernel_rfl)
    (of_decide_eq_true (by kernel_rfl)) (by unfold Func.isWrapper; first | (rw [if_pos (by decide +kernel)]; kernel_rfl) | (rw [if_neg (by decide +kernel)]; exact ⟨rfl, rfl⟩))
    (fun os started H enc _ => fnExactMapPath_lifted os started H enc)

theorem fnExactMapPath_holds : Rows.FnExactMapPathCardSaid :=
  Claim7.holds_tied_plain_at .later [] [.data] true Rows.fnExactMapPathCard.stood.harness Rows.fnExactMapPathCard.stood.looks
    fnExactMapPath_row (fun _ h => by cases h) (by kernel_rfl) (fun _ h => by cases h) fnExactMapPath_row_tie rfl ⟨rfl, rfl⟩ (by kernel_rfl) rfl
    (fun f fn hf hfn => by
      obtain rfl : f = 6 := Option.some.inj ((show Tryd.prog.funcNamed "loop.example/g00565/laws.FnExactMapPath" = some 6 by kernel_rfl).symm.trans hf) |>.symm
      obtain rfl : fn = Tryd.f6 := (Option.some.inj (Tryd.func6.symm.trans hfn)).symm
      exact ⟨by kernel_rfl, fun j t ht => by
        rw [Tryd.params6] at ht
        have h3 : t = 2 ∨ t = 57 := by
          match j, ht with
          | 0, ht => simp at ht; simp [← ht]
          | 1, ht => simp at ht; simp [← ht]
          | _ + 2, ht => simp at ht
        rcases h3 with rfl | rfl
        all_goals exact (show Tryd.prog.wantsStandIn _ = false by kernel_rfl)⟩)
    (by kernel_rfl)
#print axioms fnExactMapPath_holds
end Go.Proofs.YtjjddjohckcmbaaDoor
