/- At every two numbers the program's PublicOf answers as the specification's model of it. -/
import Derived.Test.YtncckpdglimdoaaDoorKySq
import Derived.Test.YtncckpdglimdoaaDoorKyR
import Derived.Test.YtncckpdglimdoaaDoorKyX
import Derived.Test.YtncckpdglimdoaaDoorEqInt
import Derived.Test.YtncckpdglimdoaaDoorExc
import Derived.Test.YtncckpdglimdoaaDoorDoor
namespace Go.Proofs.YtncckpdglimdoaaDoor
open Go.ChangeShapes Go.WideShapes Go.ChangeAt Go.RowKit
set_option linter.unusedVariables false
set_option linter.unusedSimpArgs false

set_option maxRecDepth 100000 in
set_option maxHeartbeats 8000000 in
theorem fnExactPublicOf_walk (w : World) (hT : Tab w) (a0 : Int) (w0 : (Lit.int .i64 a0).wf = true) (a1 : Int) (w1 : (Lit.int .i64 a1).wf = true) :
    Calls Tryd.prog 6 #[.int .i64 a0, .int .i64 a1] w fun e w' => e = .returned (.bool true) ∧ Below w.heap.size w w' := by
  obtain ⟨zs, hzs⟩ : ∃ l, l = pkL a0 a1 := ⟨_, rfl⟩
  obtain ⟨cd, hcd⟩ : ∃ c, c = pkC a0 a1 := ⟨_, rfl⟩
  have SP : Hid (∀  (x : World), Calls Tryd.prog 23 #[Value.int .i64 a0, Value.int .i64 a1] x fun r w' => ∃ a1 c1, r = .returned (.agg #[.int .i64 cd, .slice a1 zs.length c1]) ∧ World.ownsRow w' x.heap.size 2 1 (.slice a1 zs.length c1) zs.length (zs.map (.int .i64)) ∧ Below x.heap.size x w') := by
    show ∀  (x : World), Calls Tryd.prog 23 #[Value.int .i64 a0, Value.int .i64 a1] x fun r w' => ∃ a1 c1, r = .returned (.agg #[.int .i64 cd, .slice a1 zs.length c1]) ∧ World.ownsRow w' x.heap.size 2 1 (.slice a1 zs.length c1) zs.length (zs.map (.int .i64)) ∧ Below x.heap.size x w'
    rw [hzs, hcd]
    exact fun x => specPublicOf_any a0 a1 x
  have IM : Hid (∀  (x : World), Tab x → Calls Tryd.prog 22 #[Value.int .i64 a0, Value.int .i64 a1] x fun r w' => ∃ a1 c1, r = .returned (.agg #[.int .i64 cd, .slice a1 zs.length c1]) ∧ World.ownsRow w' x.heap.size 2 1 (.slice a1 zs.length c1) zs.length (zs.map (.int .i64)) ∧ Below x.heap.size x w') := by
    show ∀  (x : World), Tab x → Calls Tryd.prog 22 #[Value.int .i64 a0, Value.int .i64 a1] x fun r w' => ∃ a1 c1, r = .returned (.agg #[.int .i64 cd, .slice a1 zs.length c1]) ∧ World.ownsRow w' x.heap.size 2 1 (.slice a1 zs.length c1) zs.length (zs.map (.int .i64)) ∧ Below x.heap.size x w'
    rw [hzs, hcd]
    exact fun x ht => implPublicOf_any a0 a1 x ht
  have OK : zs.length ≤ 1048576 ∧ ∀ n ∈ zs, (Lit.int .i64 n).wf = true := by
    rw [hzs]
    exact pkL_ok a0 a1
  obtain ⟨ll, WA0⟩ := OK
  have WA : Hid (_) := WA0
  clear hzs hcd WA0
  have hge : (0 : Int) ≤ 1 + (zs.length : Int) := by omega
  have hne : ((1 + (zs.length : Int)) != (1 + (zs.length : Int))) = false := by simp
  have hk0 : (0 : Int) ≤ 1 := by omega
  have FA : Hid (∀ u : World, Below w.heap.size w u → True) := fun u hu => trivial
  have HT : Hid (Tab w) := hT
  clear hT
  go_enter Tryd.func6, Tryd.ntmps6
  go_wp2_with fail
  refine (SP.out  _ ).mono ?_
  rintro r u1 ⟨b1, i1, rfl, O1, hb1⟩
  have B1 : Below w.heap.size w u1 := hb1
  have zS := B1.size
  clear  hb1
  obtain ⟨U, hU⟩ : ∃ U, U = u1.alloc (.cells #[.int .i64 cd, .slice b1 zs.length i1] 42) := ⟨_, rfl⟩
  have sU : U.heap.size = u1.heap.size + 1 := by rw [hU]; simp
  have BU : Below w.heap.size w U := by rw [hU]; exact B1.alloc zS _
  have VU : Blk U u1.heap.size #[.int .i64 cd, .slice b1 zs.length i1] 42 := by rw [hU]; exact Blk.new _ _ _
  have RU : Has U .i64 b1 zs.length zs := by rw [hU]; exact (has_of_own O1 WA.out).alloc _
  have FW : Hid (∀ u : World, Below U.heap.size U u → (True) ∧ Blk u u1.heap.size #[.int .i64 cd, .slice b1 zs.length i1] 42 ∧ (Has u .i64 b1 zs.length zs) ∧ Below w.heap.size w u ∧ u1.heap.size < u.heap.size) := fun u h => ⟨FA.out u (BU.trans (h.mono BU.size)), VU.below h VU.lt, RU.below h (Nat.le_refl _), BU.trans (h.mono BU.size), by have := h.size; omega⟩
  clear VU RU O1 zS
  go_wp2_with fail
  simp only [← hU]
  clear hU sU
  refine (IM.out  _ (HT.out.below (FW.out _ (Below.refl _ _)).2.2.2.1 (Nat.le_refl _)) ).mono ?_
  rintro r u2 ⟨b2, i2, rfl, O2, hb2⟩
  have C2 : Below U.heap.size U u2 := hb2
  have zG := hb2.size
  obtain ⟨W, hW⟩ : ∃ W, W = u2.alloc (.cells #[.int .i64 cd, .slice b2 zs.length i2] 42) := ⟨_, rfl⟩
  have sW : W.heap.size = u2.heap.size + 1 := by rw [hW]; simp
  have bW : Below u2.heap.size u2 W := by rw [hW]; exact (Below.refl _ _).alloc (Nat.le_refl _) _
  have VW : Blk W u2.heap.size #[.int .i64 cd, .slice b2 zs.length i2] 42 := by rw [hW]; exact Blk.new _ _ _
  have CW : Below U.heap.size U W := C2.trans (bW.mono C2.size)
  have OG : World.ownsRow W U.heap.size 2 1 (.slice b2 zs.length i2) zs.length (zs.map (.int .i64)) := own_below O2 bW
  have FG : Hid (∀ u : World, Ex U.heap.size U.heap.size W u → World.ownsRow u U.heap.size 2 1 (.slice b2 zs.length i2) zs.length (zs.map (.int .i64))) := fun u h => own_ex OG h (Nat.le_refl _)
  have FV : Hid (∀ (hi : Nat) (u : World), hi ≤ u2.heap.size → Ex U.heap.size hi W u → Blk u u2.heap.size #[.int .i64 cd, .slice b2 zs.length i2] 42 ∧ u2.heap.size < u.heap.size) := fun hi u hh h => ⟨VW.ex h (.inr hh), by have := h.size; omega⟩
  have FE : Hid (∀ (hi : Nat) (u : World), Ex U.heap.size hi W u → Below U.heap.size U u) := fun hi u h => CW.trans (Ex.low h CW.size)
  have GB : Hid (∀ ad, b2 = some ad → U.heap.size ≤ ad.block ∧ ad.block < u2.heap.size) := fun ad h => ⟨own_base O2 ad h, own_lt O2 ad h⟩
  have DW : Below W.heap.size W W := Below.refl _ _
  clear O2 OG VW bW sW hb2
  have v0 := ((FW.out _ C2).2.1).cell 0
  have v1 := ((FW.out _ C2).2.1).cell 1
  simp at v0 v1
  have qv := (FW.out _ C2).2.2.2.2
  go_wp2_with fail
  simp only [← hW]
  refine (eqIntsR_any cd b2 b1 i2 i1 zs _ (has_of_own (FG.out _ (Fr.refl _ _)) WA.out) ((FW.out _ CW).2.2.1) ll).mono ?_
  rintro r u3 ⟨rfl, hb3⟩
  have E3 : Ex U.heap.size U.heap.size W u3 := Ex.on (Fr.refl _ _) hb3
  clear v0 v1 qv hb3 hW
  have vf := FV.out _ _ (by omega) E3
  have t0 := (vf.1).cell 0
  have t1 := (vf.1).cell 1
  simp at t0 t1
  go_wp2_with fail
  refine (markIntsR_any _ cd _ _ zs _ (FG.out _ E3) (by omega)).mono ?_
  rintro r u4 ⟨rfl, OM, hm4⟩
  have E4 : Ex U.heap.size u2.heap.size W u4 := Ex.mk (Ex.on E3 ((Below.refl _ _).alloc (Nat.le_refl _) _)) hm4 (fun ad had => by have := GB.out ad had; omega) (by omega)
  have FM : Hid (∀ u : World, Below u4.heap.size u4 u → Has u .i64 b2 (markN 1 zs.length).length (markN 1 zs.length)) := by
    intro u h
    have h1 := OM
    exact (has_of_own h1 (markN_wf 1 zs.length (by omega) (by omega) (by omega))).below h (Nat.le_refl _)
  have D4 : Below u4.heap.size u4 u4 := Below.refl _ _
  clear hm4 OM vf t0 t1 E3
  have vf := FV.out _ _ (Nat.le_refl _) E4
  have t0 := (vf.1).cell 0
  have t1 := (vf.1).cell 1
  simp at t0 t1
  go_wp2_with fail
  refine (heldIntsR_any cd _ _ zs.length _ (FM.out _ D4) (by omega)).mono ?_
  rintro r u5 ⟨rfl, hb5⟩
  have E5 : Ex U.heap.size u2.heap.size W u5 := Ex.on E4 hb5
  have D5 : Below u4.heap.size u4 u5 := D4.trans (hb5.mono D4.size)
  clear vf t0 t1 hb5 E4 D4
  go_wp2_with fail
  refine (IM.out  _ (HT.out.below (FW.out _ (FE.out _ _ E5)).2.2.2.1 (Nat.le_refl _)) ).mono ?_
  rintro r u6 ⟨b6, i6, rfl, O6, hb6⟩
  have E6 : Ex U.heap.size u2.heap.size W u6 := Ex.on E5 hb6
  have D6 : Below u4.heap.size u4 u6 := D5.trans (hb6.mono D5.size)
  clear  hb6 E5 D5
  have fw := FW.out _ (FE.out _ _ E6)
  have qf := (FV.out _ _ (Nat.le_refl _) E6).2
  have v0 := (fw.2.1).cell 0
  have v1 := (fw.2.1).cell 1
  simp at v0 v1
  have qv := fw.2.2.2.2
  go_wp2_with fail
  refine (eqIntsR_any cd _ _ _ _ zs _ ((has_of_own O6 WA.out).alloc _) (fw.2.2.1.alloc _) ll).mono ?_
  rintro r u7 ⟨rfl, hb7⟩
  have bb := ((Below.refl u6.heap.size u6).alloc (Nat.le_refl _) (.cells #[.int .i64 cd, .slice b6 zs.length i6] 42)).trans (hb7.mono (by simp))
  have E7 : Ex U.heap.size u2.heap.size W u7 := Ex.on E6 bb
  have D7 : Below u4.heap.size u4 u7 := D6.trans (bb.mono D6.size)
  clear fw qf qv v0 v1 hb7 bb O6 E6 D6
  have vf := FV.out _ _ (Nat.le_refl _) E7
  have t0 := (vf.1).cell 0
  have t1 := (vf.1).cell 1
  simp at t0 t1
  go_wp2_with fail
  refine (heldIntsR_any cd _ _ zs.length _ (FM.out _ D7) (by omega)).mono ?_
  rintro r u8 ⟨rfl, hb8⟩
  have E8 : Ex U.heap.size u2.heap.size W u8 := Ex.on E7 hb8
  have D8 : Below u4.heap.size u4 u8 := D7.trans (hb8.mono D7.size)
  clear vf t0 t1 hb8 E7 D7
  go_wp2
  go_ret
  exact ⟨rfl, (FW.out _ (FE.out _ _ E8)).2.2.2.1⟩

set_option maxRecDepth 100000 in
theorem fnExactPublicOf_lifted (os : Os) (started : os.Started) (H : Type) (enc : TypeId × Value → H) :
    ReturnsInHanded {} Tryd.checked os 6 .any (fun w args => (Rows.fnExactPublicOfSpec.pre enc Tryd.prog Tryd.f6 [] false w args ∧ laidMetH Tryd.prog [("loop.example/g00565/impl.pieceStarts", Rows.laid_loop_example_g00565_impl_pieceStarts)] w) ∧ sizedMet enc Tryd.prog Tryd.f6 (OpenSpec.ofChange Rows.fnExactPublicOfSpec) false w args) (Rows.fnExactPublicOfSpec.post enc Tryd.prog Tryd.f6 false true false false) := by
  refine returnsInHanded_of_change_and (C := Tryd.checked) (X := fun w _ => laidMetH Tryd.prog [("loop.example/g00565/impl.pieceStarts", Rows.laid_loop_example_g00565_impl_pieceStarts)] w) (fun _ _ _ hh h => h.of_heap hh) own started (by kernel_rfl) Tryd.func6
    (ChangeSpec.witness_shaped (enc := enc) (C := Tryd.checked) (os := os) (X := fun w _ => laidMetH Tryd.prog [("loop.example/g00565/impl.pieceStarts", Rows.laid_loop_example_g00565_impl_pieceStarts)] w) false (World.doorLaid Tryd.prog 400 os) #[.int .i64 0, .int .i64 0] 8 rfl (World.shaped_of_RefB (by kernel_rfl) (by kernel_rfl)) (by kernel_rfl) (by kernel_rfl) (by kernel_rfl) (door_met os _)) ?_
  intro W base args ds gs before hval0 hW _ _ hL _
  have hval : ∀ (j : Nat) t v, Tryd.f6.params[j]? = some t → args[j]? = some v → Value.okWide Tryd.prog W .any base t v := hval0
  have hW' := hW
  obtain ⟨p, q, hA0, hV, rfl, hfz, hnd⟩ := hW
  have hA : DataW.TrodAll enc Tryd.prog W 0 (fun _ => true) true Tryd.f6.params.toList args.toList ds p := hA0
  rw [Tryd.params6] at hA hval
  obtain ⟨v0, vs0, d0, ds0, p0, q0, hargs, rfl, rfl, h0, r0⟩ := trodAll_cons hA
  obtain ⟨v1, vs1, d1, ds1, p1, q1, rfl, rfl, rfl, h1, r1⟩ := trodAll_cons r0
  obtain ⟨rfl, rfl, rfl⟩ := trodAll_nil r1
  obtain rfl : args = #[v0, v1] := by cases args; simp_all
  obtain ⟨g, rfl⟩ : ∃ g, gs = [g] := by obtain ⟨_, _, _, _, d, _, e, _⟩ := trodVars_one hV; exact ⟨d, e⟩
  have g0 := h0
  have lt0 : ∀ x ∈ p0, x.block < W.heap.size := by obtain ⟨m, hm⟩ := g0; exact DataW.trod_lt m _ _ _ hm
  have g1 := h1
  have lt1 : ∀ x ∈ p1, x.block < W.heap.size := by obtain ⟨m, hm⟩ := g1; exact DataW.trod_lt m _ _ _ hm
  obtain ⟨a0, rfl, rfl, rfl, w0⟩ := open_int Tryd.underlying2 (hval 0 2 v0 rfl rfl) h0
  obtain ⟨a1, rfl, rfl, rfl, w1⟩ := open_int Tryd.underlying2 (hval 1 2 v1 rfl rfl) h1
  clear hA0 hval0
  refine (fnExactPublicOf_walk W (tab_of_laid hL) a0 w0 a1 w1).mono fun e W' ⟨he, bel⟩ => ?_
  subst he
  exact ⟨_, rfl, _, _, _, [], _, _, hW', trodAll_mk1 (shut_bool Tryd.underlying4 _), (trodAll_cons_mk (Below.trod laidOut (by kernel_rfl) (of_decide_eq_true (by kernel_rfl)) g0 bel lt0) (trodAll_cons_mk (Below.trod laidOut (by kernel_rfl) (of_decide_eq_true (by kernel_rfl)) g1 bel lt1) trodAll_mk0)), Below.trodVars laidOut bel (by kernel_rfl) hV, bel.frame _, fun h => by cases h⟩

theorem fnExactPublicOf_row : Rows.FnExactPublicOfSaid :=
  OpenClaim.holds_of_wide 6 Tryd.f6 rfl rfl rfl rfl rfl rfl rfl ⟨rfl, rfl, rfl, rfl, rfl⟩ rfl rfl rfl rfl rfl (by kernel_rfl) Tryd.func6 (by kernel_rfl)
    (of_decide_eq_true (by kernel_rfl)) (by unfold Func.isWrapper; first | (rw [if_pos (by decide +kernel)]; kernel_rfl) | (rw [if_neg (by decide +kernel)]; exact ⟨rfl, rfl⟩))
    (fun os started H enc _ => fnExactPublicOf_lifted os started H enc)

theorem fnExactPublicOf_holds : Rows.FnExactPublicOfCardSaid :=
  Claim7.holds_tied_plain_at .later [] [.data] true Rows.fnExactPublicOfCard.stood.harness Rows.fnExactPublicOfCard.stood.looks
    fnExactPublicOf_row (fun _ h => by cases h) (by kernel_rfl) (fun _ h => by cases h) fnExactPublicOf_row_tie rfl ⟨rfl, rfl⟩ (by kernel_rfl) rfl
    (fun f fn hf hfn => by
      obtain rfl : f = 6 := Option.some.inj ((show Tryd.prog.funcNamed "loop.example/g00565/laws.FnExactPublicOf" = some 6 by kernel_rfl).symm.trans hf) |>.symm
      obtain rfl : fn = Tryd.f6 := (Option.some.inj (Tryd.func6.symm.trans hfn)).symm
      exact ⟨by kernel_rfl, fun j t ht => by
        rw [Tryd.params6] at ht
        have h3 : t = 2 := by
          match j, ht with
          | 0, ht => simp at ht; simp [← ht]
          | 1, ht => simp at ht; simp [← ht]
          | _ + 2, ht => simp at ht
        rcases h3 with rfl
        all_goals exact (show Tryd.prog.wantsStandIn _ = false by kernel_rfl)⟩)
    (by kernel_rfl)
#print axioms fnExactPublicOf_holds
end Go.Proofs.YtncckpdglimdoaaDoor
