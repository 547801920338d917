/- At every head the program's HeadSum answers as the specification's model of it. -/
import Derived.Test.YtffidkoejlebeaaDoorHdT
import Derived.Test.YtffidkoejlebeaaDoorIHq
import Derived.Test.YtffidkoejlebeaaDoorEqInt
import Derived.Test.YtffidkoejlebeaaDoorDoor
import Derived.Lib.SmallJoins
import Derived.Test.YtffidkoejlebeaaDoorDoor
namespace Go.Proofs.YtffidkoejlebeaaDoor
open Go.ChangeShapes Go.WideShapes Go.ChangeAt Go.RowKit
set_option linter.unusedVariables false
set_option linter.unusedSimpArgs false

set_option maxRecDepth 100000 in
set_option maxHeartbeats 4000000 in
theorem fnExactHeadSum_walk (w : World) (hT : Tab w) (z0 r0 m0 k0 : Int) (wz0 : (Lit.int .i64 z0).wf = true) (wr0 : (Lit.int .i64 r0).wf = true) (wm0 : (Lit.int .i64 m0).wf = true) (wk0 : (Lit.int .i64 k0).wf = true) :
    Calls Tryd.prog 5 #[.agg #[.int .i64 z0, .int .i64 r0, .int .i64 m0, .int .i64 k0]] w fun e w' => e = .returned (.bool true) ∧ Below w.heap.size w w' := by
  have SP : Hid (∀ u : World, Calls Tryd.prog 19 #[.agg #[.int .i64 z0, .int .i64 r0, .int .i64 m0, .int .i64 k0]] u fun e w' => e = .returned (.agg #[.int .i64 (hdF z0 r0 m0 k0), .int .i64 (hsV z0 r0 m0 k0)]) ∧ Below u.heap.size u w') := fun u => specHeadSum_any z0 r0 m0 k0 u
  have IM : Hid (∀ u : World, Tab u → Calls Tryd.prog 20 #[.agg #[.int .i64 z0, .int .i64 r0, .int .i64 m0, .int .i64 k0]] u fun e w' => e = .returned (.agg #[.int .i64 (hdF z0 r0 m0 k0), .int .i64 (hsV z0 r0 m0 k0)]) ∧ Below u.heap.size u w') := fun u h => implHeadSum_any z0 r0 m0 k0 u h
  generalize hdF z0 r0 m0 k0 = cd at *
  generalize hsV z0 r0 m0 k0 = vl at *
  obtain ⟨V, hV⟩ : ∃ V, V = w.heap.size := ⟨_, rfl⟩
  obtain ⟨E, hE⟩ : ∃ E, E = w.alloc (.cells #[.int .i64 z0, .int .i64 r0, .int .i64 m0, .int .i64 k0] 23) := ⟨_, rfl⟩
  have BE : Below w.heap.size w E := by rw [hE]; exact (Below.refl _ _).alloc (Nat.le_refl _) _
  have RE : Blk E V #[.int .i64 z0, .int .i64 r0, .int .i64 m0, .int .i64 k0] 23 := by rw [hE, hV]; exact Blk.new _ _ _
  have HT : Hid (∀ u : World, Below E.heap.size E u → Tab u) := fun u h => hT.below (BE.trans (h.mono BE.size)) (Nat.le_refl _)
  clear hT
  have c0 := RE.cell 0
  have c1 := RE.cell 1
  have c2 := RE.cell 2
  have c3 := RE.cell 3
  simp at c0 c1 c2 c3
  go_enter Tryd.func5, Tryd.ntmps5
  go_wp2_with fail
  simp only [← hV, ← hE]
  clear hV hE
  refine (toHead_any z0 r0 m0 k0 _).mono ?_
  rintro e u1 ⟨rfl, B1⟩
  go_wp2_with fail
  refine (SP.out _).mono ?_
  rintro e u2 ⟨rfl, hb2⟩
  have B2 := B1.trans (hb2.mono B1.size)
  have R2 := RE.below B2 RE.lt
  have g0 := R2.cell 0
  have g1 := R2.cell 1
  have g2 := R2.cell 2
  have g3 := R2.cell 3
  have g9 := R2.lt
  simp at g0 g1 g2 g3
  clear c0 c1 c2 c3 hb2 B1 R2
  obtain ⟨U, hU⟩ : ∃ U, U = u2.alloc (.cells #[.int .i64 cd, .int .i64 vl] 41) := ⟨_, rfl⟩
  have bU : Below u2.heap.size u2 U := by rw [hU]; exact (Below.refl _ _).alloc (Nat.le_refl _) _
  have BU : Below E.heap.size E U := B2.trans (bU.mono B2.size)
  have VU : Blk U u2.heap.size #[.int .i64 cd, .int .i64 vl] 41 := by rw [hU]; exact Blk.new _ _ _
  clear B2 bU
  go_wp2_with fail
  simp only [← hU]
  clear hU g0 g1 g2 g3 g9
  refine (toHead_any z0 r0 m0 k0 _).mono ?_
  rintro e u3 ⟨rfl, hb3⟩
  have C3 : Below U.heap.size U u3 := hb3
  go_wp2_with fail
  refine (IM.out _ (HT.out _ (BU.trans (C3.mono BU.size)))).mono ?_
  rintro e u4 ⟨rfl, hb4⟩
  have C4 : Below U.heap.size U u4 := C3.trans (hb4.mono C3.size)
  have V4 := VU.below C4 VU.lt
  have v0 := V4.cell 0
  have v1 := V4.cell 1
  have v9 := V4.lt
  simp at v0 v1
  clear hb3 hb4 C3
  have FI : Hid (∀ u : World, Below u4.heap.size u4 u → Below w.heap.size w u) := fun u h => BE.trans ((BU.trans ((C4.trans (h.mono C4.size)).mono BU.size)).mono BE.size)
  obtain ⟨W, hW⟩ : ∃ W, W = u4.alloc (.cells #[.int .i64 cd, .int .i64 vl] 41) := ⟨_, rfl⟩
  have bW : Below u4.heap.size u4 W := by rw [hW]; exact (Below.refl _ _).alloc (Nat.le_refl _) _
  clear V4 C4 VU BU BE HT RE SP IM
  go_wp2_with fail
  simp only [← hW]
  clear hW v0 v1 v9
  refine (eqInt_any cd vl _).mono ?_
  rintro e u5 ⟨rfl, hb5⟩
  go_wp2
  go_ret
  exact ⟨rfl, FI.out _ (bW.trans (hb5.mono bW.size))⟩

set_option maxRecDepth 100000 in
theorem fnExactHeadSum_lifted (os : Os) (started : os.Started) (H : Type) (enc : TypeId × Value → H) :
    ReturnsInHanded {} Tryd.checked os 5 .any (fun w args => (Rows.fnExactHeadSumSpec.pre enc Tryd.prog Tryd.f5 [] false w args ∧ laidMetH Tryd.prog [("loop.example/g00565/impl.pieceStarts", Rows.laid_loop_example_g00565_impl_pieceStarts)] w) ∧ sizedMet enc Tryd.prog Tryd.f5 (OpenSpec.ofChange Rows.fnExactHeadSumSpec) false w args) (Rows.fnExactHeadSumSpec.post enc Tryd.prog Tryd.f5 false true false false) := by
  refine returnsInHanded_of_change_and (C := Tryd.checked) (X := fun w _ => laidMetH Tryd.prog [("loop.example/g00565/impl.pieceStarts", Rows.laid_loop_example_g00565_impl_pieceStarts)] w) (fun _ _ _ hh h => h.of_heap hh) own started (by kernel_rfl) Tryd.func5
    (ChangeSpec.witness_shaped (enc := enc) (C := Tryd.checked) (os := os) (X := fun w _ => laidMetH Tryd.prog [("loop.example/g00565/impl.pieceStarts", Rows.laid_loop_example_g00565_impl_pieceStarts)] w) false (World.doorLaid Tryd.prog 400 os) #[.agg #[.int .i64 0, .int .i64 0, .int .i64 0, .int .i64 0]] 8 rfl (World.shaped_of_RefB (by kernel_rfl) (by kernel_rfl)) (by kernel_rfl) (by kernel_rfl) (by kernel_rfl) (door_met os _)) ?_
  intro W base args ds gs before hval0 hW _ _ hL _
  have hval : ∀ (j : Nat) t v, Tryd.f5.params[j]? = some t → args[j]? = some v → Value.okWide Tryd.prog W .any base t v := hval0
  have hW' := hW
  obtain ⟨p, q, hA0, hV, rfl, hfz, hnd⟩ := hW
  have hA : DataW.TrodAll enc Tryd.prog W 0 (fun _ => true) true Tryd.f5.params.toList args.toList ds p := hA0
  rw [Tryd.params5] at hA hval
  obtain ⟨v0, vs0, d0, ds0, p0, q0, hargs, rfl, rfl, h0, tr0⟩ := trodAll_cons hA
  obtain ⟨rfl, rfl, rfl⟩ := trodAll_nil tr0
  obtain rfl : args = #[v0] := by cases args; simp_all
  obtain ⟨g, rfl⟩ : ∃ g, gs = [g] := by obtain ⟨_, _, _, _, d, _, e, _⟩ := trodVars_one hV; exact ⟨d, e⟩
  have g0 := h0
  have lt0 : ∀ x ∈ p0, x.block < W.heap.size := by obtain ⟨m, hm⟩ := g0; exact DataW.trod_lt m _ _ _ hm
  obtain ⟨t0, t1, t2, t3, y0, y1, y2, y3, fu, rfl, rfl, rfl, hy0, hy1, hy2, hy3⟩ := Go.Joins.open_agg4 Tryd.underlying23 (by kernel_rfl) (by kernel_rfl) (hval 0 23 v0 rfl rfl) h0
  obtain ⟨z0, q0, rfl, wz0⟩ := DataW.trod_int Tryd.underlying2 hy0
  obtain ⟨r0, q1, rfl, wr0⟩ := DataW.trod_int Tryd.underlying2 hy1
  obtain ⟨m0, q2, rfl, wm0⟩ := DataW.trod_int Tryd.underlying2 hy2
  obtain ⟨k0, q3, rfl, wk0⟩ := DataW.trod_int Tryd.underlying2 hy3
  simp at q0 q1 q2 q3
  subst q0 q1 q2 q3
  clear hA0 hval0
  refine (fnExactHeadSum_walk W (tab_of_laid hL) z0 r0 m0 k0 wz0 wr0 wm0 wk0).mono fun e W' ⟨he, bel⟩ => ?_
  subst he
  exact ⟨_, rfl, _, _, _, [], _, _, hW', trodAll_mk1 (shut_bool Tryd.underlying4 _), (trodAll_cons_mk (Below.trod laidOut (by kernel_rfl) (of_decide_eq_true (by kernel_rfl)) g0 bel lt0) trodAll_mk0), Below.trodVars laidOut bel (by kernel_rfl) hV, bel.frame _, fun h => by cases h⟩

theorem fnExactHeadSum_row : Rows.FnExactHeadSumSaid :=
  OpenClaim.holds_of_wide 5 Tryd.f5 rfl rfl rfl rfl rfl rfl rfl ⟨rfl, rfl, rfl, rfl, rfl⟩ rfl rfl rfl rfl rfl (by kernel_rfl) Tryd.func5 (by kernel_rfl)
    (of_decide_eq_true (by kernel_rfl)) (by unfold Func.isWrapper; first | (rw [if_pos (by decide +kernel)]; kernel_rfl) | (rw [if_neg (by decide +kernel)]; exact ⟨rfl, rfl⟩))
    (fun os started H enc _ => fnExactHeadSum_lifted os started H enc)

theorem fnExactHeadSum_holds : Rows.FnExactHeadSumCardSaid :=
  Claim7.holds_tied_plain_at .later [] [.data] true Rows.fnExactHeadSumCard.stood.harness Rows.fnExactHeadSumCard.stood.looks
    fnExactHeadSum_row (fun _ h => by cases h) (by kernel_rfl) (fun _ h => by cases h) fnExactHeadSum_row_tie rfl ⟨rfl, rfl⟩ (by kernel_rfl) rfl
    (fun f fn hf hfn => by
      obtain rfl : f = 5 := Option.some.inj ((show Tryd.prog.funcNamed "loop.example/g00565/laws.FnExactHeadSum" = some 5 by kernel_rfl).symm.trans hf) |>.symm
      obtain rfl : fn = Tryd.f5 := (Option.some.inj (Tryd.func5.symm.trans hfn)).symm
      exact ⟨by kernel_rfl, fun j t ht => by
        rw [Tryd.params5] at ht
        have h3 : t = 23 := by
          match j, ht with
          | 0, ht => simp at ht; simp [← ht]
          | _ + 1, ht => simp at ht
        rcases h3 with rfl
        all_goals exact (show Tryd.prog.wantsStandIn _ = false by kernel_rfl)⟩)
    (by kernel_rfl)
#print axioms fnExactHeadSum_holds
end Go.Proofs.YtffidkoejlebeaaDoor
