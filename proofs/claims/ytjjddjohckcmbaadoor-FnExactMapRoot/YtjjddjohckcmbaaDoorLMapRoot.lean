/- At every slice of slots the program's MapRoot answers as the specification's model of it, and leaves them as they were. -/
import Derived.Test.YtjjddjohckcmbaaDoorIAcS
import Derived.Test.YtjjddjohckcmbaaDoorEqInt
import Derived.Test.YtjjddjohckcmbaaDoorFrB
import Derived.Test.YtjjddjohckcmbaaDoorSlL
import Derived.Test.YtjjddjohckcmbaaDoorDoor
namespace Go.Proofs.YtjjddjohckcmbaaDoor
open Go.ChangeShapes Go.WideShapes Go.ChangeAt Go.RowKit
set_option linter.unusedVariables false
set_option linter.unusedSimpArgs false

set_option maxHeartbeats 8000000 in
theorem fnExactMapRoot_walk (w : World) (hT : Tab w) (a0 : Option Addr) (len0 cap0 : Nat) (d0 : List Sl) (w0 : IsSls w a0 len0 cap0 d0) :
    Calls Tryd.prog 5 #[.slice a0 len0 cap0] w fun e w' => e = .returned (.bool true) ∧ Below w.heap.size w w' := by
  obtain ⟨hlc0, hcm0, rfl, A0⟩ := w0
  have hlm0 : d0.length ≤ maxLen := Nat.le_trans hlc0 hcm0
  have SZ0 : Hid (∀ u : World, Below w.heap.size w u → Calls Tryd.prog 33 #[.slice a0 d0.length cap0, .int .i64 (1048576)] u fun r w' => r = .returned (.int .i64 (szW (1048576) d0)) ∧ Below u.heap.size u w') := fun u hu => szS_any a0 cap0 d0 (1048576) u (A0.below hu (Nat.le_refl _)) hlm0 (by omega) (by omega)
  by_cases big0 : szW (1048576) d0 < 0
  case pos =>
    go_enter Tryd.func5, Tryd.ntmps5
    go_wp2_with fail
    refine (SZ0.out _ (Below.refl _ _)).mono ?_
    rintro r y0 ⟨rfl, hy0⟩
    go_wp2
    go_ret
    exact ⟨rfl, hy0⟩
  have hz0 := szW_ok big0 (by omega)
  have hs0 : d0.length ≤ 1048576 := hz0.1
  have hs0' : (d0.length : Int) ≤ 1048576 := by omega
  have hm0 : d0.length ≤ maxLen := by unfold maxLen; omega
  have WF0 : Hid (WfS d0) := A0.wf
  obtain ⟨cd, hcd⟩ : ∃ c, c = slF d0 := ⟨_, rfl⟩
  obtain ⟨cv, hcv⟩ : ∃ c, c = mrV d0 := ⟨_, rfl⟩
  have SP : Hid (∀ (p0 : Option Addr) (x : World), HasS x p0 d0 → Calls Tryd.prog 24 #[Value.slice p0 d0.length d0.length] x fun r w' => r = .returned (.agg #[.int .i64 cd, .int .i64 cv]) ∧ Below x.heap.size x w') := by
    show ∀ (p0 : Option Addr) (x : World), HasS x p0 d0 → Calls Tryd.prog 24 #[Value.slice p0 d0.length d0.length] x fun r w' => r = .returned (.agg #[.int .i64 cd, .int .i64 cv]) ∧ Below x.heap.size x w'
    rw [hcv, hcd]
    exact fun p0 x h0 => specMapRoot_any p0 _ d0 x h0 hs0
  have IM : Hid (∀ (p0 : Option Addr) (x : World), Tab x → HasS x p0 d0 → Calls Tryd.prog 23 #[Value.slice p0 d0.length d0.length] x fun r w' => r = .returned (.agg #[.int .i64 cd, .int .i64 cv]) ∧ Below x.heap.size x w') := by
    show ∀ (p0 : Option Addr) (x : World), Tab x → HasS x p0 d0 → Calls Tryd.prog 23 #[Value.slice p0 d0.length d0.length] x fun r w' => r = .returned (.agg #[.int .i64 cd, .int .i64 cv]) ∧ Below x.heap.size x w'
    rw [hcv, hcd]
    exact fun p0 x ht h0 => implMapRoot_any p0 _ d0 x ht h0 hs0
  clear hcd hcv
  have hk0 : (0 : Int) ≤ 1 + ((d0.length * 2 : Nat) : Int) := by omega
  have FA : Hid (∀ u : World, Below w.heap.size w u → HasS u a0 d0) := fun u hu => A0.below hu (Nat.le_refl _)
  have HT : Hid (Tab w) := hT
  clear hT
  clear A0
  go_enter Tryd.func5, Tryd.ntmps5
  go_wp2_with fail
  refine (SZ0.out _ (Below.refl _ _)).mono ?_
  rintro r u1 ⟨rfl, hb1⟩
  have B1 : Below w.heap.size w u1 := hb1
  go_wp2_with fail
  refine (toSlotS_has a0 cap0 d0 _ (FA.out _ B1) hs0).mono ?_
  rintro r u2 ⟨rfl, hb2, X2, y2⟩
  have B2 : Below w.heap.size w u2 := B1.trans (hb2.mono B1.size)
  go_wp2_with fail
  refine (SP.out _ _ X2).mono ?_
  rintro r u3 ⟨rfl, hb3⟩
  have B3 : Below w.heap.size w u3 := B2.trans (hb3.mono B2.size)
  have zS := B3.size
  clear X2 hb2 hb3
  obtain ⟨U, hU⟩ : ∃ U, U = u3.alloc (.cells #[.int .i64 cd, .int .i64 cv] 34) := ⟨_, rfl⟩
  have sU : U.heap.size = u3.heap.size + 1 := by rw [hU]; simp
  have BU : Below w.heap.size w U := by rw [hU]; exact B3.alloc zS _
  have VU : Blk U u3.heap.size #[.int .i64 cd, .int .i64 cv] 34 := by rw [hU]; exact Blk.new _ _ _
  have RU : True := trivial
  have FW : Hid (∀ u : World, Below U.heap.size U u → (HasS u a0 d0) ∧ Blk u u3.heap.size #[.int .i64 cd, .int .i64 cv] 34 ∧ (True) ∧ Below w.heap.size w u ∧ u3.heap.size < u.heap.size) := fun u h => ⟨FA.out u (BU.trans (h.mono BU.size)), VU.below h VU.lt, RU, BU.trans (h.mono BU.size), by have := h.size; omega⟩
  clear VU RU zS
  go_wp2_with fail
  simp only [← hU]
  clear hU sU
  refine (toSlotS_any a0 cap0 d0 _ (FW.out _ (Below.refl _ _)).1 hs0).mono ?_
  rintro r u4 ⟨rfl, O4, hb4⟩
  have z4 : U.heap.size < u4.heap.size := (own2_base O4 _ rfl).2
  have C4 : Below U.heap.size U u4 := hb4
  have Y4 := OwnS.has O4 WF0.out
  go_wp2_with fail
  refine (IM.out _ _ (HT.out.below (FW.out _ C4).2.2.2.1 (Nat.le_refl _)) Y4).mono ?_
  rintro r u5 ⟨rfl, hb5⟩
  have C5 : Below U.heap.size U u5 := C4.trans (hb5.mono C4.size)
  have zG := hb5.size
  replace O4 := own2_below O4 hb5
  obtain ⟨W, hW⟩ : ∃ W, W = u5.alloc (.cells #[.int .i64 cd, .int .i64 cv] 34) := ⟨_, rfl⟩
  have sW : W.heap.size = u5.heap.size + 1 := by rw [hW]; simp
  have bW : Below u5.heap.size u5 W := by rw [hW]; exact (Below.refl _ _).alloc (Nat.le_refl _) _
  have VW : Blk W u5.heap.size #[.int .i64 cd, .int .i64 cv] 34 := by rw [hW]; exact Blk.new _ _ _
  have CW : Below U.heap.size U W := C5.trans (bW.mono C5.size)
  have FX0 : Hid (∀ u : World, Ex U.heap.size U.heap.size W u → OwnS u U.heap.size (.slice (some ⟨U.heap.size, 0, none⟩) d0.length d0.length) d0) := fun u h => own2_ex (own2_below O4 bW) h (Nat.le_refl _)
  have FV : Hid (∀ (hi : Nat) (u : World), hi ≤ u5.heap.size → Ex U.heap.size hi W u → Blk u u5.heap.size #[.int .i64 cd, .int .i64 cv] 34 ∧ u5.heap.size < u.heap.size) := fun hi u hh h => ⟨VW.ex h (.inr hh), by have := h.size; omega⟩
  have FE : Hid (∀ (hi : Nat) (u : World), Ex U.heap.size hi W u → Below U.heap.size U u) := fun hi u h => CW.trans (Ex.low h CW.size)
  have DW : Below W.heap.size W W := Below.refl _ _
  clear O4 VW bW sW hb5
  have v0 := ((FW.out _ C5).2.1).cell 0
  have v1 := ((FW.out _ C5).2.1).cell 1
  simp at v0 v1
  have qv := (FW.out _ C5).2.2.2.2
  go_wp2_with fail
  simp only [← hW]
  refine (eqInt_any cd cv _).mono ?_
  rintro r u6 ⟨rfl, hb6⟩
  have E6 : Ex U.heap.size U.heap.size W u6 := Ex.on (Fr.refl _ _) hb6
  clear v0 v1 qv hb6 hW
  go_wp2_with fail
  refine (toSlotS_has a0 cap0 d0 _ (FW.out _ (FE.out _ _ E6)).1 hs0).mono ?_
  rintro r u7 ⟨rfl, hb7, X7, y7⟩
  have E7 : Ex U.heap.size U.heap.size W u7 := Ex.on E6 hb7
  clear hb7
  go_wp2_with fail
  refine (eqSlotS_any _ _ _ _ d0 _ (OwnS.has (FX0.out _ E7) WF0.out) X7 hs0).mono ?_
  rintro r u8 ⟨rfl, hb8⟩
  have E8 : Ex U.heap.size U.heap.size W u8 := Ex.on E7 hb8
  clear hb8 E7 X7
  go_wp2
  go_ret
  exact ⟨rfl, (FW.out _ (FE.out _ _ E8)).2.2.2.1⟩

set_option maxRecDepth 100000 in
theorem fnExactMapRoot_lifted (os : Os) (started : os.Started) (H : Type) (enc : TypeId × Value → H) :
    ReturnsInHanded {} Tryd.checked os 5 .any (fun w args => (Rows.fnExactMapRootSpec.pre enc Tryd.prog Tryd.f5 [] false w args ∧ laidMetH Tryd.prog [("loop.example/g00565/impl.pieceStarts", Rows.laid_loop_example_g00565_impl_pieceStarts)] w) ∧ sizedMet enc Tryd.prog Tryd.f5 (OpenSpec.ofChange Rows.fnExactMapRootSpec) false w args) (Rows.fnExactMapRootSpec.post enc Tryd.prog Tryd.f5 false true false false) := by
  refine returnsInHanded_of_change_and (C := Tryd.checked) (X := fun w _ => laidMetH Tryd.prog [("loop.example/g00565/impl.pieceStarts", Rows.laid_loop_example_g00565_impl_pieceStarts)] w) (fun _ _ _ hh h => h.of_heap hh) own started (by kernel_rfl) Tryd.func5
    (ChangeSpec.witness_shaped (enc := enc) (C := Tryd.checked) (os := os) (X := fun w _ => laidMetH Tryd.prog [("loop.example/g00565/impl.pieceStarts", Rows.laid_loop_example_g00565_impl_pieceStarts)] w) false (World.doorLaid Tryd.prog 400 os) #[.slice none 0 0] 8 rfl (World.shaped_of_RefB (by kernel_rfl) (by kernel_rfl)) (by kernel_rfl) (by kernel_rfl) (by kernel_rfl) (door_met os _)) ?_
  intro W base args ds gs before hval0 hW _ _ hL _
  have hval : ∀ (j : Nat) t v, Tryd.f5.params[j]? = some t → args[j]? = some v → Value.okWide Tryd.prog W .any base t v := hval0
  have hW' := hW
  obtain ⟨p, q, hA0, hV, rfl, hfz, hnd⟩ := hW
  have hA : DataW.TrodAll enc Tryd.prog W 0 (fun _ => true) true Tryd.f5.params.toList args.toList ds p := hA0
  rw [Tryd.params5] at hA hval
  obtain ⟨v0, vs0, d0, ds0, p0, q0, hargs, rfl, rfl, h0, r0⟩ := trodAll_cons hA
  obtain ⟨rfl, rfl, rfl⟩ := trodAll_nil r0
  obtain rfl : args = #[v0] := by cases args; simp_all
  obtain ⟨g, rfl⟩ : ∃ g, gs = [g] := by obtain ⟨_, _, _, _, d, _, e, _⟩ := trodVars_one hV; exact ⟨d, e⟩
  have g0 := h0
  have lt0 : ∀ x ∈ p0, x.block < W.heap.size := by obtain ⟨m, hm⟩ := g0; exact DataW.trod_lt m _ _ _ hm
  obtain ⟨a0, len0, cap0, rfl⟩ := okWide_slice Tryd.underlying57 (hval 0 57 v0 rfl rfl)
  obtain ⟨d0, w0⟩ : ∃ l, IsSls W a0 len0 cap0 l := by
    obtain ⟨fuel, hf⟩ := h0
    obtain ⟨a', l', c', rs, e, h⟩ := sls_of_trod (v := .slice a0 len0 cap0) Tryd.underlying57 Tryd.underlying109 Tryd.underlying2 Tryd.underlying2 (by kernel_rfl) rfl rfl (by kernel_rfl) (by kernel_rfl) (by simpa [Value.cells] using hf)
    simp at e
    obtain ⟨rfl, rfl, rfl⟩ := e
    exact ⟨rs, h⟩
  clear hA0 hval0
  refine (fnExactMapRoot_walk W (tab_of_laid hL) a0 len0 cap0 d0 w0).mono fun e W' ⟨he, bel⟩ => ?_
  subst he
  exact ⟨_, rfl, _, _, _, [], _, _, hW', trodAll_mk1 (shut_bool Tryd.underlying4 _), (trodAll_cons_mk (Below.trod laidOut (by kernel_rfl) (of_decide_eq_true (by kernel_rfl)) g0 bel lt0) trodAll_mk0), Below.trodVars laidOut bel (by kernel_rfl) hV, bel.frame _, fun h => by cases h⟩

theorem fnExactMapRoot_row : Rows.FnExactMapRootSaid :=
  OpenClaim.holds_of_wide 5 Tryd.f5 rfl rfl rfl rfl rfl rfl rfl ⟨rfl, rfl, rfl, rfl, rfl⟩ rfl rfl rfl rfl rfl (by kernel_rfl) Tryd.func5 (by kernel_rfl)
    (of_decide_eq_true (by kernel_rfl)) (by unfold Func.isWrapper; first | (rw [if_pos (by decide +kernel)]; kernel_rfl) | (rw [if_neg (by decide +kernel)]; exact ⟨rfl, rfl⟩))
    (fun os started H enc _ => fnExactMapRoot_lifted os started H enc)

theorem fnExactMapRoot_holds : Rows.FnExactMapRootCardSaid :=
  Claim7.holds_tied_plain_at .later [] [.data] true Rows.fnExactMapRootCard.stood.harness Rows.fnExactMapRootCard.stood.looks
    fnExactMapRoot_row (fun _ h => by cases h) (by kernel_rfl) (fun _ h => by cases h) fnExactMapRoot_row_tie rfl ⟨rfl, rfl⟩ (by kernel_rfl) rfl
    (fun f fn hf hfn => by
      obtain rfl : f = 5 := Option.some.inj ((show Tryd.prog.funcNamed "loop.example/g00565/laws.FnExactMapRoot" = some 5 by kernel_rfl).symm.trans hf) |>.symm
      obtain rfl : fn = Tryd.f5 := (Option.some.inj (Tryd.func5.symm.trans hfn)).symm
      exact ⟨by kernel_rfl, fun j t ht => by
        rw [Tryd.params5] at ht
        have h3 : t = 57 := by
          match j, ht with
          | 0, ht => simp at ht; simp [← ht]
          | _ + 1, ht => simp at ht
        rcases h3 with rfl
        all_goals exact (show Tryd.prog.wantsStandIn _ = false by kernel_rfl)⟩)
    (by kernel_rfl)
#print axioms fnExactMapRoot_holds
end Go.Proofs.YtjjddjohckcmbaaDoor
