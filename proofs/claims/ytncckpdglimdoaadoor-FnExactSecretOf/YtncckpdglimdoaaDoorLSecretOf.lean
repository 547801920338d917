/- At every four numbers the program's SecretOf answers as the specification's model of it. -/
import Derived.Test.YtncckpdglimdoaaDoorKySq
import Derived.Test.YtncckpdglimdoaaDoorKyT
import Derived.Test.YtncckpdglimdoaaDoorEqInt
import Derived.Test.YtncckpdglimdoaaDoorFrB
import Derived.Test.YtncckpdglimdoaaDoorSlL
import Derived.Test.YtncckpdglimdoaaDoorDoor
import Derived.Test.YtncckpdglimdoaaDoorDoor
namespace Go.Proofs.YtncckpdglimdoaaDoor
open Go.ChangeShapes Go.WideShapes Go.ChangeAt Go.RowKit
set_option linter.unusedVariables false
set_option linter.unusedSimpArgs false

set_option maxRecDepth 100000 in
set_option maxHeartbeats 8000000 in
theorem fnExactSecretOf_walk (w : World) (hT : Tab w) (a0 : Int) (w0 : (Lit.int .i64 a0).wf = true) (a1 : Int) (w1 : (Lit.int .i64 a1).wf = true) (a2 : Int) (w2 : (Lit.int .i64 a2).wf = true) (a3 : Int) (w3 : (Lit.int .i64 a3).wf = true) :
    Calls Tryd.prog 5 #[.int .i64 a0, .int .i64 a1, .int .i64 a2, .int .i64 a3] w fun e w' => e = .returned (.bool true) ∧ Below w.heap.size w w' := by
  obtain ⟨cd, hcd⟩ : ∃ c, c = seC a0 a1 a2 a3 := ⟨_, rfl⟩
  obtain ⟨cv, hcv⟩ : ∃ c, c = seV a0 a1 a2 a3 := ⟨_, rfl⟩
  have SP : Hid (∀  (x : World), Calls Tryd.prog 19 #[Value.int .i64 a0, Value.int .i64 a1, Value.int .i64 a2, Value.int .i64 a3] x fun r w' => r = .returned (.agg #[.int .i64 cd, .int .i64 cv]) ∧ Below x.heap.size x w') := by
    show ∀  (x : World), Calls Tryd.prog 19 #[Value.int .i64 a0, Value.int .i64 a1, Value.int .i64 a2, Value.int .i64 a3] x fun r w' => r = .returned (.agg #[.int .i64 cd, .int .i64 cv]) ∧ Below x.heap.size x w'
    rw [hcv, hcd]
    exact fun x => specSecretOf_any a0 a1 a2 a3 x
  have IM : Hid (∀  (x : World), Tab x → Calls Tryd.prog 18 #[Value.int .i64 a0, Value.int .i64 a1, Value.int .i64 a2, Value.int .i64 a3] x fun r w' => r = .returned (.agg #[.int .i64 cd, .int .i64 cv]) ∧ Below x.heap.size x w') := by
    show ∀  (x : World), Tab x → Calls Tryd.prog 18 #[Value.int .i64 a0, Value.int .i64 a1, Value.int .i64 a2, Value.int .i64 a3] x fun r w' => r = .returned (.agg #[.int .i64 cd, .int .i64 cv]) ∧ Below x.heap.size x w'
    rw [hcv, hcd]
    exact fun x ht => implSecretOf_any a0 a1 a2 a3 x ht
  clear hcd hcv
  have hk0 : (0 : Int) ≤ 1 := by omega
  have FA : Hid (∀ u : World, Below w.heap.size w u → True) := fun u hu => trivial
  have HT : Hid (Tab w) := hT
  clear hT
  go_enter Tryd.func5, Tryd.ntmps5
  go_wp2_with fail
  refine (SP.out  _ ).mono ?_
  rintro r u1 ⟨rfl, hb1⟩
  have B1 : Below w.heap.size w u1 := hb1
  have zS := B1.size
  clear  hb1
  obtain ⟨U, hU⟩ : ∃ U, U = u1.alloc (.cells #[.int .i64 cd, .int .i64 cv] 38) := ⟨_, rfl⟩
  have sU : U.heap.size = u1.heap.size + 1 := by rw [hU]; simp
  have BU : Below w.heap.size w U := by rw [hU]; exact B1.alloc zS _
  have VU : Blk U u1.heap.size #[.int .i64 cd, .int .i64 cv] 38 := by rw [hU]; exact Blk.new _ _ _
  have RU : True := trivial
  have FW : Hid (∀ u : World, Below U.heap.size U u → (True) ∧ Blk u u1.heap.size #[.int .i64 cd, .int .i64 cv] 38 ∧ (True) ∧ Below w.heap.size w u ∧ u1.heap.size < u.heap.size) := fun u h => ⟨FA.out u (BU.trans (h.mono BU.size)), VU.below h VU.lt, RU, BU.trans (h.mono BU.size), by have := h.size; omega⟩
  clear VU RU zS
  go_wp2_with fail
  simp only [← hU]
  clear hU sU
  refine (IM.out  _ (HT.out.below (FW.out _ (Below.refl _ _)).2.2.2.1 (Nat.le_refl _)) ).mono ?_
  rintro r u2 ⟨rfl, hb2⟩
  have C2 : Below U.heap.size U u2 := hb2
  have zG := hb2.size
  obtain ⟨W, hW⟩ : ∃ W, W = u2.alloc (.cells #[.int .i64 cd, .int .i64 cv] 38) := ⟨_, rfl⟩
  have sW : W.heap.size = u2.heap.size + 1 := by rw [hW]; simp
  have bW : Below u2.heap.size u2 W := by rw [hW]; exact (Below.refl _ _).alloc (Nat.le_refl _) _
  have VW : Blk W u2.heap.size #[.int .i64 cd, .int .i64 cv] 38 := by rw [hW]; exact Blk.new _ _ _
  have CW : Below U.heap.size U W := C2.trans (bW.mono C2.size)
  have FV : Hid (∀ (hi : Nat) (u : World), hi ≤ u2.heap.size → Ex U.heap.size hi W u → Blk u u2.heap.size #[.int .i64 cd, .int .i64 cv] 38 ∧ u2.heap.size < u.heap.size) := fun hi u hh h => ⟨VW.ex h (.inr hh), by have := h.size; omega⟩
  have FE : Hid (∀ (hi : Nat) (u : World), Ex U.heap.size hi W u → Below U.heap.size U u) := fun hi u h => CW.trans (Ex.low h CW.size)
  have DW : Below W.heap.size W W := Below.refl _ _
  clear VW bW sW hb2
  have v0 := ((FW.out _ C2).2.1).cell 0
  have v1 := ((FW.out _ C2).2.1).cell 1
  simp at v0 v1
  have qv := (FW.out _ C2).2.2.2.2
  go_wp2_with fail
  simp only [← hW]
  refine (eqInt_any cd cv _).mono ?_
  rintro r u3 ⟨rfl, hb3⟩
  have E3 : Ex U.heap.size U.heap.size W u3 := Ex.on (Fr.refl _ _) hb3
  clear v0 v1 qv hb3 hW
  go_wp2
  go_ret
  exact ⟨rfl, (FW.out _ (FE.out _ _ E3)).2.2.2.1⟩

set_option maxRecDepth 100000 in
theorem fnExactSecretOf_lifted (os : Os) (started : os.Started) (H : Type) (enc : TypeId × Value → H) :
    ReturnsInHanded {} Tryd.checked os 5 .any (fun w args => (Rows.fnExactSecretOfSpec.pre enc Tryd.prog Tryd.f5 [] false w args ∧ laidMetH Tryd.prog [("loop.example/g00565/impl.pieceStarts", Rows.laid_loop_example_g00565_impl_pieceStarts)] w) ∧ sizedMet enc Tryd.prog Tryd.f5 (OpenSpec.ofChange Rows.fnExactSecretOfSpec) false w args) (Rows.fnExactSecretOfSpec.post enc Tryd.prog Tryd.f5 false true false false) := by
  refine returnsInHanded_of_change_and (C := Tryd.checked) (X := fun w _ => laidMetH Tryd.prog [("loop.example/g00565/impl.pieceStarts", Rows.laid_loop_example_g00565_impl_pieceStarts)] w) (fun _ _ _ hh h => h.of_heap hh) own started (by kernel_rfl) Tryd.func5
    (ChangeSpec.witness_shaped (enc := enc) (C := Tryd.checked) (os := os) (X := fun w _ => laidMetH Tryd.prog [("loop.example/g00565/impl.pieceStarts", Rows.laid_loop_example_g00565_impl_pieceStarts)] w) false (World.doorLaid Tryd.prog 400 os) #[.int .i64 0, .int .i64 0, .int .i64 0, .int .i64 0] 8 rfl (World.shaped_of_RefB (by kernel_rfl) (by kernel_rfl)) (by kernel_rfl) (by kernel_rfl) (by kernel_rfl) (door_met os _)) ?_
  intro W base args ds gs before hval0 hW _ _ hL _
  have hval : ∀ (j : Nat) t v, Tryd.f5.params[j]? = some t → args[j]? = some v → Value.okWide Tryd.prog W .any base t v := hval0
  have hW' := hW
  obtain ⟨p, q, hA0, hV, rfl, hfz, hnd⟩ := hW
  have hA : DataW.TrodAll enc Tryd.prog W 0 (fun _ => true) true Tryd.f5.params.toList args.toList ds p := hA0
  rw [Tryd.params5] at hA hval
  obtain ⟨v0, vs0, d0, ds0, p0, q0, hargs, rfl, rfl, h0, r0⟩ := trodAll_cons hA
  obtain ⟨v1, vs1, d1, ds1, p1, q1, rfl, rfl, rfl, h1, r1⟩ := trodAll_cons r0
  obtain ⟨v2, vs2, d2, ds2, p2, q2, rfl, rfl, rfl, h2, r2⟩ := trodAll_cons r1
  obtain ⟨v3, vs3, d3, ds3, p3, q3, rfl, rfl, rfl, h3, r3⟩ := trodAll_cons r2
  obtain ⟨rfl, rfl, rfl⟩ := trodAll_nil r3
  obtain rfl : args = #[v0, v1, v2, v3] := by cases args; simp_all
  obtain ⟨g, rfl⟩ : ∃ g, gs = [g] := by obtain ⟨_, _, _, _, d, _, e, _⟩ := trodVars_one hV; exact ⟨d, e⟩
  have g0 := h0
  have lt0 : ∀ x ∈ p0, x.block < W.heap.size := by obtain ⟨m, hm⟩ := g0; exact DataW.trod_lt m _ _ _ hm
  have g1 := h1
  have lt1 : ∀ x ∈ p1, x.block < W.heap.size := by obtain ⟨m, hm⟩ := g1; exact DataW.trod_lt m _ _ _ hm
  have g2 := h2
  have lt2 : ∀ x ∈ p2, x.block < W.heap.size := by obtain ⟨m, hm⟩ := g2; exact DataW.trod_lt m _ _ _ hm
  have g3 := h3
  have lt3 : ∀ x ∈ p3, x.block < W.heap.size := by obtain ⟨m, hm⟩ := g3; exact DataW.trod_lt m _ _ _ hm
  obtain ⟨a0, rfl, rfl, rfl, w0⟩ := open_int Tryd.underlying2 (hval 0 2 v0 rfl rfl) h0
  obtain ⟨a1, rfl, rfl, rfl, w1⟩ := open_int Tryd.underlying2 (hval 1 2 v1 rfl rfl) h1
  obtain ⟨a2, rfl, rfl, rfl, w2⟩ := open_int Tryd.underlying2 (hval 2 2 v2 rfl rfl) h2
  obtain ⟨a3, rfl, rfl, rfl, w3⟩ := open_int Tryd.underlying2 (hval 3 2 v3 rfl rfl) h3
  clear hA0 hval0
  refine (fnExactSecretOf_walk W (tab_of_laid hL) a0 w0 a1 w1 a2 w2 a3 w3).mono fun e W' ⟨he, bel⟩ => ?_
  subst he
  exact ⟨_, rfl, _, _, _, [], _, _, hW', trodAll_mk1 (shut_bool Tryd.underlying4 _), (trodAll_cons_mk (Below.trod laidOut (by kernel_rfl) (of_decide_eq_true (by kernel_rfl)) g0 bel lt0) (trodAll_cons_mk (Below.trod laidOut (by kernel_rfl) (of_decide_eq_true (by kernel_rfl)) g1 bel lt1) (trodAll_cons_mk (Below.trod laidOut (by kernel_rfl) (of_decide_eq_true (by kernel_rfl)) g2 bel lt2) (trodAll_cons_mk (Below.trod laidOut (by kernel_rfl) (of_decide_eq_true (by kernel_rfl)) g3 bel lt3) trodAll_mk0)))), Below.trodVars laidOut bel (by kernel_rfl) hV, bel.frame _, fun h => by cases h⟩

theorem fnExactSecretOf_row : Rows.FnExactSecretOfSaid :=
  OpenClaim.holds_of_wide 5 Tryd.f5 rfl rfl rfl rfl rfl rfl rfl ⟨rfl, rfl, rfl, rfl, rfl⟩ rfl rfl rfl rfl rfl (by kernel_rfl) Tryd.func5 (by kernel_rfl)
    (of_decide_eq_true (by kernel_rfl)) (by unfold Func.isWrapper; first | (rw [if_pos (by decide +kernel)]; kernel_rfl) | (rw [if_neg (by decide +kernel)]; exact ⟨rfl, rfl⟩))
    (fun os started H enc _ => fnExactSecretOf_lifted os started H enc)

theorem fnExactSecretOf_holds : Rows.FnExactSecretOfCardSaid :=
  Claim7.holds_tied_plain_at .later [] [.data] true Rows.fnExactSecretOfCard.stood.harness Rows.fnExactSecretOfCard.stood.looks
    fnExactSecretOf_row (fun _ h => by cases h) (by kernel_rfl) (fun _ h => by cases h) fnExactSecretOf_row_tie rfl ⟨rfl, rfl⟩ (by kernel_rfl) rfl
    (fun f fn hf hfn => by
      obtain rfl : f = 5 := Option.some.inj ((show Tryd.prog.funcNamed "loop.example/g00565/laws.FnExactSecretOf" = some 5 by kernel_rfl).symm.trans hf) |>.symm
      obtain rfl : fn = Tryd.f5 := (Option.some.inj (Tryd.func5.symm.trans hfn)).symm
      exact ⟨by kernel_rfl, fun j t ht => by
        rw [Tryd.params5] at ht
        have h3 : t = 2 := by
          match j, ht with
          | 0, ht => simp at ht; simp [← ht]
          | 1, ht => simp at ht; simp [← ht]
          | 2, ht => simp at ht; simp [← ht]
          | 3, ht => simp at ht; simp [← ht]
          | _ + 4, ht => simp at ht
        rcases h3 with rfl
        all_goals exact (show Tryd.prog.wantsStandIn _ = false by kernel_rfl)⟩)
    (by kernel_rfl)
#print axioms fnExactSecretOf_holds
end Go.Proofs.YtncckpdglimdoaaDoor
