/- At every slice of slices of bytes the program's PieceSums answers as the specification's model of it, in memory of its own, and leaves them as they were; the table that begins pieces starts as the program's text lays it. -/
import Derived.Test.YtklhkhlmhddmcaaDoorIPcs
import Derived.Test.YtklhkhlmhddmcaaDoorExc
import Derived.Test.YtklhkhlmhddmcaaDoorDoor
namespace Go.Proofs.YtklhkhlmhddmcaaDoor
open Go.ChangeShapes Go.WideShapes Go.ChangeAt Go.RowKit
set_option linter.unusedVariables false
set_option linter.unusedSimpArgs false

set_option maxHeartbeats 8000000 in
theorem fnExactPieceSums_walk (w : World) (hT : Tab w) (a0 : Option Addr) (len0 cap0 : Nat) (rs0 : List Pc) (w0 : IsPcs w a0 len0 cap0 rs0) :
    Calls Tryd.prog 9 #[.slice a0 len0 cap0] w fun e w' => e = .returned (.bool true) ∧ Below w.heap.size w w' := by
  obtain ⟨hlc0, hcm0, rfl, A0⟩ := w0
  have hlm0 : rs0.length ≤ maxLen := Nat.le_trans hlc0 hcm0
  have SZ0 : Hid (∀ u : World, Below w.heap.size w u → Calls Tryd.prog 34 #[.slice a0 rs0.length cap0, .int .i64 (1048576)] u fun r w' => r = .returned (.int .i64 (szV (1048576) rs0)) ∧ Below u.heap.size u w') := fun u hu => szByteSS_any a0 cap0 rs0 (1048576) u (A0.below hu (Nat.le_refl _)) hlm0 (by omega) (by omega)
  by_cases big0 : szV (1048576) rs0 < 0
  case pos =>
    go_enter Tryd.func9, Tryd.ntmps9
    go_wp2_with fail
    refine (SZ0.out _ (Below.refl _ _)).mono ?_
    rintro r y0 ⟨rfl, hy0⟩
    go_wp2
    go_ret
    exact ⟨rfl, hy0⟩
  have hz0 := szV_ok big0 (by omega)
  have WP0 : Hid (∀ r ∈ rs0, (∀ n ∈ r.zs, (Lit.int .u8 n).wf = true) ∧ r.zs.length ≤ maxLen) := fun r hr => ⟨(A0.2 r hr).1.2.1, Nat.le_trans (A0.2 r hr).2.1 (A0.2 r hr).2.2⟩
  obtain ⟨zs, hzs⟩ : ∃ l, l = psL rs0 := ⟨_, rfl⟩
  obtain ⟨cd, hcd⟩ : ∃ c, c = pcF rs0 := ⟨_, rfl⟩
  have SP : Hid (∀ (p0 : Option Addr) (q0 : List Pc) (x : World), HasP x p0 q0 → q0.map Pc.zs = rs0.map Pc.zs → Calls Tryd.prog 16 #[Value.slice p0 rs0.length rs0.length] x fun r w' => ∃ a1 c1, r = .returned (.agg #[.int .i64 cd, .slice a1 zs.length c1]) ∧ World.ownsRow w' x.heap.size 2 1 (.slice a1 zs.length c1) zs.length (zs.map (.int .i64)) ∧ Below x.heap.size x w') := by
    show ∀ (p0 : Option Addr) (q0 : List Pc) (x : World), HasP x p0 q0 → q0.map Pc.zs = rs0.map Pc.zs → Calls Tryd.prog 16 #[Value.slice p0 rs0.length rs0.length] x fun r w' => ∃ a1 c1, r = .returned (.agg #[.int .i64 cd, .slice a1 zs.length c1]) ∧ World.ownsRow w' x.heap.size 2 1 (.slice a1 zs.length c1) zs.length (zs.map (.int .i64)) ∧ Below x.heap.size x w'
    rw [hzs, hcd]
    exact fun p0 q0 x h0 e0 => pcs_sums e0 (specPieceSums_any p0 _ q0 x h0 (by rw [zs_len e0]; exact hz0.1) (zs_mem e0 (P := fun z => z.length ≤ 1048576) hz0.2.2.2.2))
  have IM : Hid (∀ (p0 : Option Addr) (q0 : List Pc) (x : World), Tab x → HasP x p0 q0 → q0.map Pc.zs = rs0.map Pc.zs → Calls Tryd.prog 15 #[Value.slice p0 rs0.length rs0.length] x fun r w' => ∃ a1 c1, r = .returned (.agg #[.int .i64 cd, .slice a1 zs.length c1]) ∧ World.ownsRow w' x.heap.size 2 1 (.slice a1 zs.length c1) zs.length (zs.map (.int .i64)) ∧ Below x.heap.size x w') := by
    show ∀ (p0 : Option Addr) (q0 : List Pc) (x : World), Tab x → HasP x p0 q0 → q0.map Pc.zs = rs0.map Pc.zs → Calls Tryd.prog 15 #[Value.slice p0 rs0.length rs0.length] x fun r w' => ∃ a1 c1, r = .returned (.agg #[.int .i64 cd, .slice a1 zs.length c1]) ∧ World.ownsRow w' x.heap.size 2 1 (.slice a1 zs.length c1) zs.length (zs.map (.int .i64)) ∧ Below x.heap.size x w'
    rw [hzs, hcd]
    exact fun p0 q0 x t h0 e0 => pcs_sums e0 (implPieceSums_any p0 _ q0 x t h0 (by rw [zs_len e0]; exact hz0.1) (zs_mem e0 (P := fun z => z.length ≤ 1048576) hz0.2.2.2.2))
  have OK : zs.length ≤ 1048576 ∧ ∀ n ∈ zs, (Lit.int .i64 n).wf = true := by
    rw [hzs]
    exact psL_wf rs0
  obtain ⟨ll, WA0⟩ := OK
  have WA : Hid (_) := WA0
  clear hzs hcd WA0
  have hge : (0 : Int) ≤ 1 + (zs.length : Int) := by omega
  have hne : ((1 + (zs.length : Int)) != (1 + (zs.length : Int))) = false := by simp
  have hk0 : (0 : Int) ≤ 1 + (sumZ rs0 : Int) := by omega
  obtain ⟨hp0a, hp0b, hp0c, hp0d, hp0e0⟩ := hz0
  have hp0e : Hid (∀ r ∈ rs0, r.zs.length ≤ 1048576) := hp0e0
  clear hp0e0
  have FA : Hid (∀ u : World, Below w.heap.size w u → HasP u a0 rs0) := fun u hu => A0.below hu (Nat.le_refl _)
  have HT : Hid (Tab w) := hT
  clear hT
  clear A0
  go_enter Tryd.func9, Tryd.ntmps9
  go_wp2_with fail
  refine (SZ0.out _ (Below.refl _ _)).mono ?_
  rintro r u1 ⟨rfl, hb1⟩
  have B1 : Below w.heap.size w u1 := hb1
  go_wp2_with fail
  refine (toByteSS_has a0 cap0 rs0 _ (FA.out _ B1) hp0a hp0e.out).mono ?_
  rintro r u2 ⟨q2, e2, rfl, X2, y2, hb2⟩
  have B2 : Below w.heap.size w u2 := B1.trans (hb2.mono B1.size)
  go_wp2_with fail
  refine (SP.out _ _ _ X2 e2).mono ?_
  rintro r u3 ⟨b3, i3, rfl, O3, hb3⟩
  have B3 : Below w.heap.size w u3 := B2.trans (hb3.mono B2.size)
  have zS := B3.size
  clear X2 hb2 hb3
  obtain ⟨U, hU⟩ : ∃ U, U = u3.alloc (.cells #[.int .i64 cd, .slice b3 zs.length i3] 35) := ⟨_, rfl⟩
  have sU : U.heap.size = u3.heap.size + 1 := by rw [hU]; simp
  have BU : Below w.heap.size w U := by rw [hU]; exact B3.alloc zS _
  have VU : Blk U u3.heap.size #[.int .i64 cd, .slice b3 zs.length i3] 35 := by rw [hU]; exact Blk.new _ _ _
  have RU : Has U .i64 b3 zs.length zs := by rw [hU]; exact (has_of_own O3 WA.out).alloc _
  have FW : Hid (∀ u : World, Below U.heap.size U u → (HasP u a0 rs0) ∧ Blk u u3.heap.size #[.int .i64 cd, .slice b3 zs.length i3] 35 ∧ (Has u .i64 b3 zs.length zs) ∧ Below w.heap.size w u ∧ u3.heap.size < u.heap.size) := fun u h => ⟨FA.out u (BU.trans (h.mono BU.size)), VU.below h VU.lt, RU.below h (Nat.le_refl _), BU.trans (h.mono BU.size), by have := h.size; omega⟩
  clear VU RU O3 zS
  go_wp2_with fail
  simp only [← hU]
  clear hU sU
  refine (toByteSS_any a0 cap0 rs0 _ (FW.out _ (Below.refl _ _)).1 hp0a hp0e.out).mono ?_
  rintro r u4 ⟨gs0, hg0, rfl, O4, hb4⟩
  have z4 : U.heap.size < u4.heap.size := (O4.out.lt _ rfl).2
  have C4 : Below U.heap.size U u4 := hb4
  have GS0 : Hid (∀ b ∈ gs0, b < u4.heap.size) := fun b hb => (O4.row_lt (by omega) b hb).2
  obtain ⟨qx0, ex0, _, Y4⟩ := O4.qs hg0 WP0.out
  go_wp2_with fail
  refine (IM.out _ _ _ (HT.out.below (FW.out _ C4).2.2.2.1 (Nat.le_refl _)) Y4 ex0).mono ?_
  rintro r u5 ⟨b5, i5, rfl, O5, hb5⟩
  have C5 : Below U.heap.size U u5 := C4.trans (hb5.mono C4.size)
  have zG := hb5.size
  replace O4 := O4.below hb5
  obtain ⟨W, hW⟩ : ∃ W, W = u5.alloc (.cells #[.int .i64 cd, .slice b5 zs.length i5] 35) := ⟨_, rfl⟩
  have sW : W.heap.size = u5.heap.size + 1 := by rw [hW]; simp
  have bW : Below u5.heap.size u5 W := by rw [hW]; exact (Below.refl _ _).alloc (Nat.le_refl _) _
  have VW : Blk W u5.heap.size #[.int .i64 cd, .slice b5 zs.length i5] 35 := by rw [hW]; exact Blk.new _ _ _
  have CW : Below U.heap.size U W := C5.trans (bW.mono C5.size)
  have FX0 : Hid (∀ u : World, Ex U.heap.size U.heap.size W u → OwnP u U.heap.size U.heap.size rs0 gs0) := fun u h => (O4.below bW).ex h (Nat.le_refl _)
  have OG : World.ownsRow W u4.heap.size 2 1 (.slice b5 zs.length i5) zs.length (zs.map (.int .i64)) := own_below O5 bW
  have FG : Hid (∀ u : World, Ex U.heap.size u4.heap.size W u → World.ownsRow u u4.heap.size 2 1 (.slice b5 zs.length i5) zs.length (zs.map (.int .i64))) := fun u h => own_ex OG h (Nat.le_refl _)
  have FV : Hid (∀ (hi : Nat) (u : World), hi ≤ u5.heap.size → Ex U.heap.size hi W u → Blk u u5.heap.size #[.int .i64 cd, .slice b5 zs.length i5] 35 ∧ u5.heap.size < u.heap.size) := fun hi u hh h => ⟨VW.ex h (.inr hh), by have := h.size; omega⟩
  have FE : Hid (∀ (hi : Nat) (u : World), Ex U.heap.size hi W u → Below U.heap.size U u) := fun hi u h => CW.trans (Ex.low h CW.size)
  have GB : Hid (∀ ad, b5 = some ad → u4.heap.size ≤ ad.block ∧ ad.block < u5.heap.size) := fun ad h => ⟨own_base O5 ad h, own_lt O5 ad h⟩
  have DW : Below W.heap.size W W := Below.refl _ _
  clear O4 O5 OG VW bW sW hb5
  have v0 := ((FW.out _ C5).2.1).cell 0
  have v1 := ((FW.out _ C5).2.1).cell 1
  simp at v0 v1
  have qv := (FW.out _ C5).2.2.2.2
  go_wp2_with fail
  simp only [← hW]
  refine (eqIntsR_any cd b5 b3 i5 i3 zs _ (has_of_own (FG.out _ (Fr.refl _ _)) WA.out) ((FW.out _ CW).2.2.1) ll).mono ?_
  rintro r u6 ⟨rfl, hb6⟩
  have E6 : Ex U.heap.size U.heap.size W u6 := Ex.on (Fr.refl _ _) hb6
  clear v0 v1 qv hb6 hW
  go_wp2_with fail
  refine (toByteSS_has a0 cap0 rs0 _ (FW.out _ (FE.out _ _ E6)).1 hp0a hp0e.out).mono ?_
  rintro r u7 ⟨q7, e7, rfl, X7, y7, hb7⟩
  have E7 : Ex U.heap.size U.heap.size W u7 := Ex.on E6 hb7
  clear hb7
  obtain ⟨qy0, ey0, _, Y7⟩ := (FX0.out _ E7).qs hg0 WP0.out
  go_wp2_with fail
  refine (eqByteSS_two _ _ _ _ rs0 _ _ _ Y7 X7 ey0 e7 hp0a hp0e.out).mono ?_
  rintro r u8 ⟨rfl, hb8⟩
  have E8 : Ex U.heap.size U.heap.size W u8 := Ex.on E7 hb8
  clear hb8 E7 X7
  have O9 := FX0.out _ E8
  go_wp2_with fail
  refine (markByteSS_any _ _ rs0 gs0 (1) _ O9 hg0 hp0a hp0b (by omega) (by omega)).mono ?_
  rintro r u9 ⟨rfl, hm9, _⟩
  have E9 : Ex U.heap.size u4.heap.size W u9 := Ex.fr E8 hm9 (fun b hb => ⟨by have := (O9.row_lt (by omega) b hb).1; omega, GS0.out b hb⟩) (by omega)
  clear hm9 O9 E8
  have vf := FV.out _ _ (by omega) E9
  have fw := FW.out _ (FE.out _ _ E9)
  have t0 := (vf.1).cell 0
  have t1 := (vf.1).cell 1
  simp at t0 t1
  have v0 := (fw.2.1).cell 0
  have v1 := (fw.2.1).cell 1
  simp at v0 v1
  go_wp2_with fail
  refine (eqIntsR_any cd _ _ _ _ zs _ (has_of_own (FG.out _ E9) WA.out) (fw.2.2.1) ll).mono ?_
  rintro r u10 ⟨rfl, hb10⟩
  have E10 : Ex U.heap.size u4.heap.size W u10 := Ex.on E9 hb10
  clear t0 t1 v0 v1 vf fw hb10 E9
  have vf := FV.out _ _ (by omega) E10
  have t0 := (vf.1).cell 0
  have t1 := (vf.1).cell 1
  simp at t0 t1
  go_wp2_with fail
  refine (markIntsR_any _ cd _ _ zs _ (FG.out _ E10) (by omega)).mono ?_
  rintro r u11 ⟨rfl, OM, hm11⟩
  have E11 : Ex U.heap.size u5.heap.size W u11 := Ex.mk (Ex.on E10 ((Below.refl _ _).alloc (Nat.le_refl _) _)) hm11 (fun ad had => by have := GB.out ad had; omega) (by omega)
  have FM : Hid (∀ u : World, Below u11.heap.size u11 u → Has u .i64 b5 (markN 1 zs.length).length (markN 1 zs.length)) := by
    intro u h
    have h1 := OM
    exact (has_of_own h1 (markN_wf 1 zs.length (by omega) (by omega) (by omega))).below h (Nat.le_refl _)
  have D11 : Below u11.heap.size u11 u11 := Below.refl _ _
  clear hm11 OM vf t0 t1 E10
  have vf := FV.out _ _ (Nat.le_refl _) E11
  have t0 := (vf.1).cell 0
  have t1 := (vf.1).cell 1
  simp at t0 t1
  go_wp2_with fail
  refine (heldIntsR_any cd _ _ zs.length _ (FM.out _ D11) (by omega)).mono ?_
  rintro r u12 ⟨rfl, hb12⟩
  have E12 : Ex U.heap.size u5.heap.size W u12 := Ex.on E11 hb12
  have D12 : Below u11.heap.size u11 u12 := D11.trans (hb12.mono D11.size)
  clear vf t0 t1 hb12 E11 D11
  go_wp2_with fail
  refine (toByteSS_has a0 cap0 rs0 _ (FW.out _ (FE.out _ _ E12)).1 hp0a hp0e.out).mono ?_
  rintro r u13 ⟨q13, e13, rfl, X13, y13, hb13⟩
  have E13 : Ex U.heap.size u5.heap.size W u13 := Ex.on E12 hb13
  have D13 : Below u11.heap.size u11 u13 := D12.trans (hb13.mono D12.size)
  clear hb13 E12 D12
  go_wp2_with fail
  refine (IM.out _ _ _ (HT.out.below (FW.out _ (FE.out _ _ E13)).2.2.2.1 (Nat.le_refl _)) X13 e13).mono ?_
  rintro r u14 ⟨b14, i14, rfl, O14, hb14⟩
  have E14 : Ex U.heap.size u5.heap.size W u14 := Ex.on E13 hb14
  have D14 : Below u11.heap.size u11 u14 := D13.trans (hb14.mono D13.size)
  clear X13 hb14 E13 D13
  have fw := FW.out _ (FE.out _ _ E14)
  have qf := (FV.out _ _ (Nat.le_refl _) E14).2
  have v0 := (fw.2.1).cell 0
  have v1 := (fw.2.1).cell 1
  simp at v0 v1
  have qv := fw.2.2.2.2
  go_wp2_with fail
  refine (eqIntsR_any cd _ _ _ _ zs _ ((has_of_own O14 WA.out).alloc _) (fw.2.2.1.alloc _) ll).mono ?_
  rintro r u15 ⟨rfl, hb15⟩
  have bb := ((Below.refl u14.heap.size u14).alloc (Nat.le_refl _) (.cells #[.int .i64 cd, .slice b14 zs.length i14] 35)).trans (hb15.mono (by simp))
  have E15 : Ex U.heap.size u5.heap.size W u15 := Ex.on E14 bb
  have D15 : Below u11.heap.size u11 u15 := D14.trans (bb.mono D14.size)
  clear fw qf qv v0 v1 hb15 bb O14 E14 D14
  have vf := FV.out _ _ (Nat.le_refl _) E15
  have t0 := (vf.1).cell 0
  have t1 := (vf.1).cell 1
  simp at t0 t1
  go_wp2_with fail
  refine (heldIntsR_any cd _ _ zs.length _ (FM.out _ D15) (by omega)).mono ?_
  rintro r u16 ⟨rfl, hb16⟩
  have E16 : Ex U.heap.size u5.heap.size W u16 := Ex.on E15 hb16
  have D16 : Below u11.heap.size u11 u16 := D15.trans (hb16.mono D15.size)
  clear vf t0 t1 hb16 E15 D15
  go_wp2
  go_ret
  exact ⟨rfl, (FW.out _ (FE.out _ _ E16)).2.2.2.1⟩

set_option maxRecDepth 100000 in
theorem fnExactPieceSums_lifted (os : Os) (started : os.Started) (H : Type) (enc : TypeId × Value → H) :
    ReturnsInHanded {} Tryd.checked os 9 .any (fun w args => (Rows.fnExactPieceSumsSpec.pre enc Tryd.prog Tryd.f9 [] false w args ∧ laidMetH Tryd.prog [("loop.example/g00565/impl.pieceStarts", Rows.laid_loop_example_g00565_impl_pieceStarts)] w) ∧ sizedMet enc Tryd.prog Tryd.f9 (OpenSpec.ofChange Rows.fnExactPieceSumsSpec) false w args) (Rows.fnExactPieceSumsSpec.post enc Tryd.prog Tryd.f9 false true false false) := by
  refine returnsInHanded_of_change_and (C := Tryd.checked) (X := fun w _ => laidMetH Tryd.prog [("loop.example/g00565/impl.pieceStarts", Rows.laid_loop_example_g00565_impl_pieceStarts)] w) (fun _ _ _ hh h => h.of_heap hh) own started (by kernel_rfl) Tryd.func9
    (ChangeSpec.witness_shaped (enc := enc) (C := Tryd.checked) (os := os) (X := fun w _ => laidMetH Tryd.prog [("loop.example/g00565/impl.pieceStarts", Rows.laid_loop_example_g00565_impl_pieceStarts)] w) false (World.doorLaid Tryd.prog 400 os) #[.slice none 0 0] 8 rfl (World.shaped_of_RefB (by kernel_rfl) (by kernel_rfl)) (by kernel_rfl) (by kernel_rfl) (by kernel_rfl) (door_met os _)) ?_
  intro W base args ds gs before hval0 hW _ _ hL _
  have hval : ∀ (j : Nat) t v, Tryd.f9.params[j]? = some t → args[j]? = some v → Value.okWide Tryd.prog W .any base t v := hval0
  have hW' := hW
  obtain ⟨p, q, hA0, hV, rfl, hfz, hnd⟩ := hW
  have hA : DataW.TrodAll enc Tryd.prog W 0 (fun _ => true) true Tryd.f9.params.toList args.toList ds p := hA0
  rw [Tryd.params9] at hA hval
  obtain ⟨v0, vs0, d0, ds0, p0, q0, hargs, rfl, rfl, h0, r0⟩ := trodAll_cons hA
  obtain ⟨rfl, rfl, rfl⟩ := trodAll_nil r0
  obtain rfl : args = #[v0] := by cases args; simp_all
  obtain ⟨g, rfl⟩ : ∃ g, gs = [g] := by obtain ⟨_, _, _, _, d, _, e, _⟩ := trodVars_one hV; exact ⟨d, e⟩
  have g0 := h0
  have lt0 : ∀ x ∈ p0, x.block < W.heap.size := by obtain ⟨m, hm⟩ := g0; exact DataW.trod_lt m _ _ _ hm
  obtain ⟨a0, len0, cap0, rfl⟩ := okWide_slice Tryd.underlying24 (hval 0 24 v0 rfl rfl)
  obtain ⟨rs0, w0⟩ : ∃ rs, IsPcs W a0 len0 cap0 rs := by
    obtain ⟨fuel, hf⟩ := h0
    obtain ⟨a', l', c', rs, e, h⟩ := pcs_of_trod (v := .slice a0 len0 cap0) Tryd.underlying24 Tryd.underlying22 Tryd.underlying5 (by kernel_rfl) (by kernel_rfl) (by simpa [Value.cells] using hf)
    simp at e
    obtain ⟨rfl, rfl, rfl⟩ := e
    exact ⟨rs, h⟩
  clear hA0 hval0
  refine (fnExactPieceSums_walk W (tab_of_laid hL) a0 len0 cap0 rs0 w0).mono fun e W' ⟨he, bel⟩ => ?_
  subst he
  exact ⟨_, rfl, _, _, _, [], _, _, hW', trodAll_mk1 (shut_bool Tryd.underlying4 _), (trodAll_cons_mk (Below.trod laidOut (by kernel_rfl) (of_decide_eq_true (by kernel_rfl)) g0 bel lt0) trodAll_mk0), Below.trodVars laidOut bel (by kernel_rfl) hV, bel.frame _, fun h => by cases h⟩

theorem fnExactPieceSums_row : Rows.FnExactPieceSumsSaid :=
  OpenClaim.holds_of_wide 9 Tryd.f9 rfl rfl rfl rfl rfl rfl rfl ⟨rfl, rfl, rfl, rfl, rfl⟩ rfl rfl rfl rfl rfl (by kernel_rfl) Tryd.func9 (by kernel_rfl)
    (of_decide_eq_true (by kernel_rfl)) (by unfold Func.isWrapper; first | (rw [if_pos (by decide +kernel)]; kernel_rfl) | (rw [if_neg (by decide +kernel)]; exact ⟨rfl, rfl⟩))
    (fun os started H enc _ => fnExactPieceSums_lifted os started H enc)

theorem fnExactPieceSums_holds : Rows.FnExactPieceSumsCardSaid :=
  Claim7.holds_tied_plain_at .later [] [.data] true Rows.fnExactPieceSumsCard.stood.harness Rows.fnExactPieceSumsCard.stood.looks
    fnExactPieceSums_row (fun _ h => by cases h) (by kernel_rfl) (fun _ h => by cases h) fnExactPieceSums_row_tie rfl ⟨rfl, rfl⟩ (by kernel_rfl) rfl
    (fun f fn hf hfn => by
      obtain rfl : f = 9 := Option.some.inj ((show Tryd.prog.funcNamed "loop.example/g00565/laws.FnExactPieceSums" = some 9 by kernel_rfl).symm.trans hf) |>.symm
      obtain rfl : fn = Tryd.f9 := (Option.some.inj (Tryd.func9.symm.trans hfn)).symm
      exact ⟨by kernel_rfl, fun j t ht => by
        rw [Tryd.params9] at ht
        have h3 : t = 24 := by
          match j, ht with
          | 0, ht => simp at ht; simp [← ht]
          | _ + 1, ht => simp at ht
        rcases h3 with rfl
        all_goals exact (show Tryd.prog.wantsStandIn _ = false by kernel_rfl)⟩)
    (by kernel_rfl)
#print axioms fnExactPieceSums_holds
end Go.Proofs.YtklhkhlmhddmcaaDoor
