/- At every head the program's PackHead answers as the specification's model of it, in memory of its own. -/
import Derived.Test.YtffidkoejlebeaaDoorHdT
import Derived.Test.YtffidkoejlebeaaDoorIHq
import Derived.Test.YtffidkoejlebeaaDoorMarkI
import Derived.Test.YtffidkoejlebeaaDoorExc
import Derived.Test.YtffidkoejlebeaaDoorDoor
import Derived.Lib.SmallJoins
namespace Go.Proofs.YtffidkoejlebeaaDoor
open Go.ChangeShapes Go.WideShapes Go.ChangeAt Go.RowKit
set_option linter.unusedVariables false
set_option linter.unusedSimpArgs false

set_option maxRecDepth 100000 in
set_option maxHeartbeats 8000000 in
theorem fnExactPackHead_walk (w : World) (hT : Tab w) (z0 r0 m0 k0 : Int) (wz0 : (Lit.int .i64 z0).wf = true) (wr0 : (Lit.int .i64 r0).wf = true) (wm0 : (Lit.int .i64 m0).wf = true) (wk0 : (Lit.int .i64 k0).wf = true) :
    Calls Tryd.prog 3 #[.agg #[.int .i64 z0, .int .i64 r0, .int .i64 m0, .int .i64 k0]] w fun e w' => e = .returned (.bool true) ∧ Below w.heap.size w w' := by
  obtain ⟨zs, hzs⟩ : ∃ l, l = hdP z0 r0 m0 k0 := ⟨_, rfl⟩
  obtain ⟨cd, hcd⟩ : ∃ c, c = hdF z0 r0 m0 k0 := ⟨_, rfl⟩
  have SP : Hid (∀  (x : World), Calls Tryd.prog 8 #[.agg #[.int .i64 z0, .int .i64 r0, .int .i64 m0, .int .i64 k0]] x fun r w' => ∃ a1 c1, r = .returned (.agg #[.int .i64 cd, .slice a1 zs.length c1]) ∧ World.ownsRow w' x.heap.size 5 1 (.slice a1 zs.length c1) zs.length (zs.map (.int .u8)) ∧ Below x.heap.size x w') := by
    show ∀  (x : World), Calls Tryd.prog 8 #[.agg #[.int .i64 z0, .int .i64 r0, .int .i64 m0, .int .i64 k0]] x fun r w' => ∃ a1 c1, r = .returned (.agg #[.int .i64 cd, .slice a1 zs.length c1]) ∧ World.ownsRow w' x.heap.size 5 1 (.slice a1 zs.length c1) zs.length (zs.map (.int .u8)) ∧ Below x.heap.size x w'
    rw [hzs, hcd]
    exact fun x => specPackHead_any z0 r0 m0 k0 x
  have IM : Hid (∀  (x : World), Tab x → Calls Tryd.prog 10 #[.agg #[.int .i64 z0, .int .i64 r0, .int .i64 m0, .int .i64 k0]] x fun r w' => ∃ a1 c1, r = .returned (.agg #[.int .i64 cd, .slice a1 zs.length c1]) ∧ World.ownsRow w' x.heap.size 5 1 (.slice a1 zs.length c1) zs.length (zs.map (.int .u8)) ∧ Below x.heap.size x w') := by
    show ∀  (x : World), Tab x → Calls Tryd.prog 10 #[.agg #[.int .i64 z0, .int .i64 r0, .int .i64 m0, .int .i64 k0]] x fun r w' => ∃ a1 c1, r = .returned (.agg #[.int .i64 cd, .slice a1 zs.length c1]) ∧ World.ownsRow w' x.heap.size 5 1 (.slice a1 zs.length c1) zs.length (zs.map (.int .u8)) ∧ Below x.heap.size x w'
    rw [hzs, hcd]
    exact fun x ht => implPackHead_any z0 r0 m0 k0 x ht
  have OK : zs.length ≤ 1048576 ∧ ∀ n ∈ zs, (Lit.int .u8 n).wf = true := by
    rw [hzs]
    exact ⟨by unfold hdP; split <;> simp [hdL], hdP_wf⟩
  obtain ⟨ll, WA0⟩ := OK
  have WA : Hid (_) := WA0
  clear hzs hcd WA0
  have hge : (0 : Int) ≤ 1 + (zs.length : Int) := by omega
  have hne : ((1 + (zs.length : Int)) != (1 + (zs.length : Int))) = false := by simp
  have hk0 : (0 : Int) ≤ 1 := by omega
  obtain ⟨V, hV⟩ : ∃ V, V = w.heap.size := ⟨_, rfl⟩
  obtain ⟨E, hE⟩ : ∃ E, E = w.alloc (.cells #[.int .i64 z0, .int .i64 r0, .int .i64 m0, .int .i64 k0] 23) := ⟨_, rfl⟩
  have BE : Below w.heap.size w E := by rw [hE]; exact (Below.refl _ _).alloc (Nat.le_refl _) _
  have RE : Blk E V #[.int .i64 z0, .int .i64 r0, .int .i64 m0, .int .i64 k0] 23 := by rw [hE, hV]; exact Blk.new _ _ _
  have FA : Hid (∀ u : World, Below E.heap.size E u → Blk u V #[.int .i64 z0, .int .i64 r0, .int .i64 m0, .int .i64 k0] 23) := fun u h => RE.below h RE.lt
  have FB : Hid (∀ u : World, Below E.heap.size E u → Below w.heap.size w u) := fun u h => BE.trans (h.mono BE.size)
  have c0 := RE.cell 0
  have c1 := RE.cell 1
  have c2 := RE.cell 2
  have c3 := RE.cell 3
  have c9 := RE.lt
  simp at c0 c1 c2 c3
  have HT : Hid (Tab w) := hT
  clear hT
  go_enter Tryd.func3, Tryd.ntmps3
  go_wp2_with fail
  simp only [← hV, ← hE]
  clear hV hE
  refine (toHead_any z0 r0 m0 k0 _).mono ?_
  rintro r u0 ⟨rfl, D0⟩
  go_wp2_with fail
  refine (SP.out _).mono ?_
  rintro r u1 ⟨b1, i1, rfl, O1, hb1⟩
  have B1 : Below E.heap.size E u1 := D0.trans (hb1.mono D0.size)
  have zS := B1.size
  clear hb1 c0 c1 c2 c3 c9
  have c0 := (FA.out _ B1).cell 0
  have c1 := (FA.out _ B1).cell 1
  have c2 := (FA.out _ B1).cell 2
  have c3 := (FA.out _ B1).cell 3
  have c9 := (FA.out _ B1).lt
  simp at c0 c1 c2 c3
  obtain ⟨U, hU⟩ : ∃ U, U = u1.alloc (.cells #[.int .i64 cd, .slice b1 zs.length i1] 26) := ⟨_, rfl⟩
  have sU : U.heap.size = u1.heap.size + 1 := by rw [hU]; simp
  have BU : Below E.heap.size E U := by rw [hU]; exact B1.alloc zS _
  have VU : Blk U u1.heap.size #[.int .i64 cd, .slice b1 zs.length i1] 26 := by rw [hU]; exact Blk.new _ _ _
  have RU : Has U .u8 b1 zs.length zs := by rw [hU]; exact (has_of_own O1 WA.out).alloc _
  have FW : Hid (∀ u : World, Below U.heap.size U u → (Blk u V #[.int .i64 z0, .int .i64 r0, .int .i64 m0, .int .i64 k0] 23) ∧ Blk u u1.heap.size #[.int .i64 cd, .slice b1 zs.length i1] 26 ∧ (Has u .u8 b1 zs.length zs) ∧ Below w.heap.size w u ∧ u1.heap.size < u.heap.size) := fun u h => ⟨FA.out u (BU.trans (h.mono BU.size)), VU.below h VU.lt, RU.below h (Nat.le_refl _), FB.out u (BU.trans (h.mono BU.size)), by have := h.size; omega⟩
  clear VU RU O1 zS
  go_wp2_with fail
  simp only [← hU]
  clear hU sU c0 c1 c2 c3 c9
  refine (toHead_any z0 r0 m0 k0 _).mono ?_
  rintro r u9 ⟨rfl, D9⟩
  go_wp2_with fail
  refine (IM.out _ (HT.out.below (FW.out _ D9).2.2.2.1 (Nat.le_refl _))).mono ?_
  rintro r u2 ⟨b2, i2, rfl, O2, hb2⟩
  have C2 : Below U.heap.size U u2 := D9.trans (hb2.mono D9.size)
  have C9 : U.heap.size ≤ u9.heap.size := D9.size
  have zG := hb2.size
  obtain ⟨W, hW⟩ : ∃ W, W = u2.alloc (.cells #[.int .i64 cd, .slice b2 zs.length i2] 26) := ⟨_, rfl⟩
  have sW : W.heap.size = u2.heap.size + 1 := by rw [hW]; simp
  have bW : Below u2.heap.size u2 W := by rw [hW]; exact (Below.refl _ _).alloc (Nat.le_refl _) _
  have VW : Blk W u2.heap.size #[.int .i64 cd, .slice b2 zs.length i2] 26 := by rw [hW]; exact Blk.new _ _ _
  have CW : Below U.heap.size U W := C2.trans (bW.mono C2.size)
  have OG : World.ownsRow W U.heap.size 5 1 (.slice b2 zs.length i2) zs.length (zs.map (.int .u8)) := own_mono (own_below O2 bW) C9
  have FG : Hid (∀ u : World, Ex U.heap.size U.heap.size W u → World.ownsRow u U.heap.size 5 1 (.slice b2 zs.length i2) zs.length (zs.map (.int .u8))) := fun u h => own_ex OG h (Nat.le_refl _)
  have FV : Hid (∀ (hi : Nat) (u : World), hi ≤ u2.heap.size → Ex U.heap.size hi W u → Blk u u2.heap.size #[.int .i64 cd, .slice b2 zs.length i2] 26 ∧ u2.heap.size < u.heap.size) := fun hi u hh h => ⟨VW.ex h (.inr hh), by have := h.size; omega⟩
  have FE : Hid (∀ (hi : Nat) (u : World), Ex U.heap.size hi W u → Below U.heap.size U u) := fun hi u h => CW.trans (Ex.low h CW.size)
  have GB : Hid (∀ ad, b2 = some ad → U.heap.size ≤ ad.block ∧ ad.block < u2.heap.size) := fun ad h => ⟨Nat.le_trans C9 (own_base O2 ad h), own_lt O2 ad h⟩
  have DW : Below W.heap.size W W := Below.refl _ _
  clear O2 OG D9 VW bW sW hb2
  have v0 := ((FW.out _ C2).2.1).cell 0
  have v1 := ((FW.out _ C2).2.1).cell 1
  simp at v0 v1
  have qv := (FW.out _ C2).2.2.2.2
  go_wp2_with fail
  simp only [← hW]
  refine (eqBytesR_any cd b2 b1 i2 i1 zs _ (has_of_own (FG.out _ (Fr.refl _ _)) WA.out) ((FW.out _ CW).2.2.1) ll).mono ?_
  rintro r u3 ⟨rfl, hb3⟩
  have E3 : Ex U.heap.size U.heap.size W u3 := Ex.on (Fr.refl _ _) hb3
  clear v0 v1 qv hb3 hW
  have vf := FV.out _ _ (by omega) E3
  have t0 := (vf.1).cell 0
  have t1 := (vf.1).cell 1
  simp at t0 t1
  go_wp2_with fail
  refine (markBytesR_any _ cd _ _ zs _ (FG.out _ E3) (by omega)).mono ?_
  rintro r u4 ⟨rfl, OM, hm4⟩
  have E4 : Ex U.heap.size u2.heap.size W u4 := Ex.mk (Ex.on E3 ((Below.refl _ _).alloc (Nat.le_refl _) _)) hm4 (fun ad had => by have := GB.out ad had; omega) (by omega)
  have FM : Hid (∀ u : World, Below u4.heap.size u4 u → Has u .u8 b2 (markL 1 zs.length).length (markL 1 zs.length)) := by
    intro u h
    have h1 := OM
    exact (has_of_own h1 (markL_wf 1 zs.length)).below h (Nat.le_refl _)
  have D4 : Below u4.heap.size u4 u4 := Below.refl _ _
  clear hm4 OM vf t0 t1 E3
  have vf := FV.out _ _ (Nat.le_refl _) E4
  have t0 := (vf.1).cell 0
  have t1 := (vf.1).cell 1
  simp at t0 t1
  go_wp2_with fail
  refine (heldBytesR_any cd _ _ zs.length _ (FM.out _ D4) (by omega)).mono ?_
  rintro r u5 ⟨rfl, hb5⟩
  have E5 : Ex U.heap.size u2.heap.size W u5 := Ex.on E4 hb5
  have D5 : Below u4.heap.size u4 u5 := D4.trans (hb5.mono D4.size)
  clear vf t0 t1 hb5 E4 D4
  have c0 := (FW.out _ (FE.out _ _ E5)).1.cell 0
  have c1 := (FW.out _ (FE.out _ _ E5)).1.cell 1
  have c2 := (FW.out _ (FE.out _ _ E5)).1.cell 2
  have c3 := (FW.out _ (FE.out _ _ E5)).1.cell 3
  have c9 := (FW.out _ (FE.out _ _ E5)).1.lt
  simp at c0 c1 c2 c3
  go_wp2_with fail
  refine (toHead_any z0 r0 m0 k0 _).mono ?_
  rintro r u10 ⟨rfl, hb10⟩
  have E10 : Ex U.heap.size u2.heap.size W u10 := Ex.on E5 hb10
  have D10 : Below u4.heap.size u4 u10 := D5.trans (hb10.mono D5.size)
  clear hb10 E5 D5 c0 c1 c2 c3 c9
  go_wp2_with fail
  refine (IM.out _ (HT.out.below (FW.out _ (FE.out _ _ E10)).2.2.2.1 (Nat.le_refl _))).mono ?_
  rintro r u6 ⟨b6, i6, rfl, O6, hb6⟩
  have E6 : Ex U.heap.size u2.heap.size W u6 := Ex.on E10 hb6
  have D6 : Below u4.heap.size u4 u6 := D10.trans (hb6.mono D10.size)
  clear hb6 E10 D10
  have fw := FW.out _ (FE.out _ _ E6)
  have qf := (FV.out _ _ (Nat.le_refl _) E6).2
  have v0 := (fw.2.1).cell 0
  have v1 := (fw.2.1).cell 1
  simp at v0 v1
  have qv := fw.2.2.2.2
  go_wp2_with fail
  refine (eqBytesR_any cd _ _ _ _ zs _ ((has_of_own O6 WA.out).alloc _) (fw.2.2.1.alloc _) ll).mono ?_
  rintro r u7 ⟨rfl, hb7⟩
  have bb := ((Below.refl u6.heap.size u6).alloc (Nat.le_refl _) (.cells #[.int .i64 cd, .slice b6 zs.length i6] 26)).trans (hb7.mono (by simp))
  have E7 : Ex U.heap.size u2.heap.size W u7 := Ex.on E6 bb
  have D7 : Below u4.heap.size u4 u7 := D6.trans (bb.mono D6.size)
  clear fw qf qv v0 v1 hb7 bb O6 E6 D6
  have vf := FV.out _ _ (Nat.le_refl _) E7
  have t0 := (vf.1).cell 0
  have t1 := (vf.1).cell 1
  simp at t0 t1
  go_wp2_with fail
  refine (heldBytesR_any cd _ _ zs.length _ (FM.out _ D7) (by omega)).mono ?_
  rintro r u8 ⟨rfl, hb8⟩
  have E8 : Ex U.heap.size u2.heap.size W u8 := Ex.on E7 hb8
  have D8 : Below u4.heap.size u4 u8 := D7.trans (hb8.mono D7.size)
  clear vf t0 t1 hb8 E7 D7
  go_wp2
  go_ret
  exact ⟨rfl, (FW.out _ (FE.out _ _ E8)).2.2.2.1⟩

set_option maxRecDepth 100000 in
theorem fnExactPackHead_lifted (os : Os) (started : os.Started) (H : Type) (enc : TypeId × Value → H) :
    ReturnsInHanded {} Tryd.checked os 3 .any (fun w args => (Rows.fnExactPackHeadSpec.pre enc Tryd.prog Tryd.f3 [] false w args ∧ laidMetH Tryd.prog [("loop.example/g00565/impl.pieceStarts", Rows.laid_loop_example_g00565_impl_pieceStarts)] w) ∧ sizedMet enc Tryd.prog Tryd.f3 (OpenSpec.ofChange Rows.fnExactPackHeadSpec) false w args) (Rows.fnExactPackHeadSpec.post enc Tryd.prog Tryd.f3 false true false false) := by
  refine returnsInHanded_of_change_and (C := Tryd.checked) (X := fun w _ => laidMetH Tryd.prog [("loop.example/g00565/impl.pieceStarts", Rows.laid_loop_example_g00565_impl_pieceStarts)] w) (fun _ _ _ hh h => h.of_heap hh) own started (by kernel_rfl) Tryd.func3
    (ChangeSpec.witness_shaped (enc := enc) (C := Tryd.checked) (os := os) (X := fun w _ => laidMetH Tryd.prog [("loop.example/g00565/impl.pieceStarts", Rows.laid_loop_example_g00565_impl_pieceStarts)] w) false (World.doorLaid Tryd.prog 400 os) #[.agg #[.int .i64 0, .int .i64 0, .int .i64 0, .int .i64 0]] 8 rfl (World.shaped_of_RefB (by kernel_rfl) (by kernel_rfl)) (by kernel_rfl) (by kernel_rfl) (by kernel_rfl) (door_met os _)) ?_
  intro W base args ds gs before hval0 hW _ _ hL _
  have hval : ∀ (j : Nat) t v, Tryd.f3.params[j]? = some t → args[j]? = some v → Value.okWide Tryd.prog W .any base t v := hval0
  have hW' := hW
  obtain ⟨p, q, hA0, hV, rfl, hfz, hnd⟩ := hW
  have hA : DataW.TrodAll enc Tryd.prog W 0 (fun _ => true) true Tryd.f3.params.toList args.toList ds p := hA0
  rw [Tryd.params3] at hA hval
  obtain ⟨v0, vs0, d0, ds0, p0, q0, hargs, rfl, rfl, h0, tr0⟩ := trodAll_cons hA
  obtain ⟨rfl, rfl, rfl⟩ := trodAll_nil tr0
  obtain rfl : args = #[v0] := by cases args; simp_all
  obtain ⟨g, rfl⟩ : ∃ g, gs = [g] := by obtain ⟨_, _, _, _, d, _, e, _⟩ := trodVars_one hV; exact ⟨d, e⟩
  have g0 := h0
  have lt0 : ∀ x ∈ p0, x.block < W.heap.size := by obtain ⟨m, hm⟩ := g0; exact DataW.trod_lt m _ _ _ hm
  obtain ⟨t0, t1, t2, t3, y0, y1, y2, y3, fu, rfl, rfl, rfl, hy0, hy1, hy2, hy3⟩ := Go.Joins.open_agg4 Tryd.underlying23 (by kernel_rfl) (by kernel_rfl) (hval 0 23 v0 rfl rfl) h0
  obtain ⟨z0, q0, rfl, wz0⟩ := DataW.trod_int Tryd.underlying2 hy0
  obtain ⟨r0, q1, rfl, wr0⟩ := DataW.trod_int Tryd.underlying2 hy1
  obtain ⟨m0, q2, rfl, wm0⟩ := DataW.trod_int Tryd.underlying2 hy2
  obtain ⟨k0, q3, rfl, wk0⟩ := DataW.trod_int Tryd.underlying2 hy3
  simp at q0 q1 q2 q3
  subst q0 q1 q2 q3
  clear hA0 hval0
  refine (fnExactPackHead_walk W (tab_of_laid hL) z0 r0 m0 k0 wz0 wr0 wm0 wk0).mono fun e W' ⟨he, bel⟩ => ?_
  subst he
  exact ⟨_, rfl, _, _, _, [], _, _, hW', trodAll_mk1 (shut_bool Tryd.underlying4 _), (trodAll_cons_mk (Below.trod laidOut (by kernel_rfl) (of_decide_eq_true (by kernel_rfl)) g0 bel lt0) trodAll_mk0), Below.trodVars laidOut bel (by kernel_rfl) hV, bel.frame _, fun h => by cases h⟩

theorem fnExactPackHead_row : Rows.FnExactPackHeadSaid :=
  OpenClaim.holds_of_wide 3 Tryd.f3 rfl rfl rfl rfl rfl rfl rfl ⟨rfl, rfl, rfl, rfl, rfl⟩ rfl rfl rfl rfl rfl (by kernel_rfl) Tryd.func3 (by kernel_rfl)
    (of_decide_eq_true (by kernel_rfl)) (by unfold Func.isWrapper; first | (rw [if_pos (by decide +kernel)]; kernel_rfl) | (rw [if_neg (by decide +kernel)]; exact ⟨rfl, rfl⟩))
    (fun os started H enc _ => fnExactPackHead_lifted os started H enc)

theorem fnExactPackHead_holds : Rows.FnExactPackHeadCardSaid :=
  Claim7.holds_tied_plain_at .later [] [.data] true Rows.fnExactPackHeadCard.stood.harness Rows.fnExactPackHeadCard.stood.looks
    fnExactPackHead_row (fun _ h => by cases h) (by kernel_rfl) (fun _ h => by cases h) fnExactPackHead_row_tie rfl ⟨rfl, rfl⟩ (by kernel_rfl) rfl
    (fun f fn hf hfn => by
      obtain rfl : f = 3 := Option.some.inj ((show Tryd.prog.funcNamed "loop.example/g00565/laws.FnExactPackHead" = some 3 by kernel_rfl).symm.trans hf) |>.symm
      obtain rfl : fn = Tryd.f3 := (Option.some.inj (Tryd.func3.symm.trans hfn)).symm
      exact ⟨by kernel_rfl, fun j t ht => by
        rw [Tryd.params3] at ht
        have h3 : t = 23 := by
          match j, ht with
          | 0, ht => simp at ht; simp [← ht]
          | _ + 1, ht => simp at ht
        rcases h3 with rfl
        all_goals exact (show Tryd.prog.wantsStandIn _ = false by kernel_rfl)⟩)
    (by kernel_rfl)
#print axioms fnExactPackHead_holds
end Go.Proofs.YtffidkoejlebeaaDoor
