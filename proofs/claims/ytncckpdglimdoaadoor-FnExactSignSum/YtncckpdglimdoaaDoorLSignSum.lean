/- At every three numbers the program's SignSum answers as the specification's model of it. -/
import Derived.Test.YtncckpdglimdoaaDoorKySr
import Derived.Test.YtncckpdglimdoaaDoorKyU
import Derived.Test.YtncckpdglimdoaaDoorKyX
import Derived.Test.YtncckpdglimdoaaDoorKyF
import Derived.Test.YtncckpdglimdoaaDoorEqInt
import Derived.Test.YtncckpdglimdoaaDoorExc
import Derived.Test.YtncckpdglimdoaaDoorDoor
namespace Go.Proofs.YtncckpdglimdoaaDoor
open Go.ChangeShapes Go.WideShapes Go.ChangeAt Go.RowKit
set_option linter.unusedVariables false
set_option linter.unusedSimpArgs false

set_option maxRecDepth 100000 in
set_option maxHeartbeats 8000000 in
theorem fnExactSignSum_walk (w : World) (hT : Tab w) (a0 : Int) (w0 : (Lit.int .i64 a0).wf = true) (a1 : Int) (w1 : (Lit.int .i64 a1).wf = true) (a2 : Int) (w2 : (Lit.int .i64 a2).wf = true) :
    Calls Tryd.prog 9 #[.int .i64 a0, .int .i64 a1, .int .i64 a2] w fun e w' => e = .returned (.bool true) ∧ Below w.heap.size w w' := by
  obtain ⟨ls, hls⟩ : ∃ l, l = ssS a0 a1 a2 := ⟨_, rfl⟩
  obtain ⟨ms, hms⟩ : ∃ l, l = ssO a0 a1 a2 := ⟨_, rfl⟩
  obtain ⟨ff, hff⟩ : ∃ f, f = ssI a0 a1 a2 := ⟨_, rfl⟩
  obtain ⟨cd, hcd⟩ : ∃ c, c = ssC a0 a1 a2 := ⟨_, rfl⟩
  have SP : Hid (∀  (x : World), Calls Tryd.prog 25 #[Value.int .i64 a0, Value.int .i64 a1, Value.int .i64 a2] x fun r w' => ∃ a1 c1 a2 c2, r = .returned (.agg #[.int .i64 cd, .int .i64 ff, .slice a1 ls.length c1, .slice a2 ms.length c2]) ∧ OwnG w' x.heap.size a1 a2 c1 c2 ls ms ∧ Below x.heap.size x w') := by
    show ∀  (x : World), Calls Tryd.prog 25 #[Value.int .i64 a0, Value.int .i64 a1, Value.int .i64 a2] x fun r w' => ∃ a1 c1 a2 c2, r = .returned (.agg #[.int .i64 cd, .int .i64 ff, .slice a1 ls.length c1, .slice a2 ms.length c2]) ∧ OwnG w' x.heap.size a1 a2 c1 c2 ls ms ∧ Below x.heap.size x w'
    rw [hls, hms, hff, hcd]
    exact fun x => (specSignSum_any a0 a1 a2 x).mono (fun r w' ⟨a1, c1, a2, c2, e, h1, h2, h3, h4⟩ => ⟨a1, c1, a2, c2, e, ⟨h1, h2, h3⟩, h4⟩)
  have IM : Hid (∀  (x : World), Tab x → Calls Tryd.prog 14 #[Value.int .i64 a0, Value.int .i64 a1, Value.int .i64 a2] x fun r w' => ∃ a1 c1 a2 c2, r = .returned (.agg #[.int .i64 cd, .int .i64 ff, .slice a1 ls.length c1, .slice a2 ms.length c2]) ∧ OwnG w' x.heap.size a1 a2 c1 c2 ls ms ∧ Below x.heap.size x w') := by
    show ∀  (x : World), Tab x → Calls Tryd.prog 14 #[Value.int .i64 a0, Value.int .i64 a1, Value.int .i64 a2] x fun r w' => ∃ a1 c1 a2 c2, r = .returned (.agg #[.int .i64 cd, .int .i64 ff, .slice a1 ls.length c1, .slice a2 ms.length c2]) ∧ OwnG w' x.heap.size a1 a2 c1 c2 ls ms ∧ Below x.heap.size x w'
    rw [hls, hms, hff, hcd]
    exact fun x ht => (implSignSum_any a0 a1 a2 x ht).mono (fun r w' ⟨a1, c1, a2, c2, e, h1, h2, h3, h4⟩ => ⟨a1, c1, a2, c2, e, ⟨h1, h2, h3⟩, h4⟩)
  have OK : ls.length ≤ 300 ∧ ms.length ≤ 300 ∧ (∀ n ∈ ls, (Lit.int .i64 n).wf = true) ∧ ∀ n ∈ ms, (Lit.int .i64 n).wf = true := by
    rw [hls, hms]
    exact ⟨(ssS_ok a0 a1 a2).1, (ssO_ok a0 a1 a2).1, (ssS_ok a0 a1 a2).2, (ssO_ok a0 a1 a2).2⟩
  obtain ⟨ll, lm, WA0, WB0⟩ := OK
  have WA : Hid (_) := WA0
  have WB : Hid (_) := WB0
  clear hls hms hff hcd WA0 WB0
  have hge : (0 : Int) ≤ 1 + (ls.length : Int) + (ms.length : Int) := by omega
  have hne : ((1 + (ls.length : Int) + (ms.length : Int)) != (1 + (ls.length : Int) + (ms.length : Int))) = false := by simp
  have hk0 : (0 : Int) ≤ 1 := by omega
  have FA : Hid (∀ u : World, Below w.heap.size w u → True) := fun u hu => trivial
  have HT : Hid (Tab w) := hT
  clear hT
  go_enter Tryd.func9, Tryd.ntmps9
  go_wp2_with fail
  refine (SP.out  _ ).mono ?_
  rintro r u1 ⟨b1, i1, b1', i1', rfl, O1, hb1⟩
  have B1 : Below w.heap.size w u1 := hb1
  have zS := B1.size
  clear  hb1
  obtain ⟨U, hU⟩ : ∃ U, U = u1.alloc (.cells #[.int .i64 cd, .int .i64 ff, .slice b1 ls.length i1, .slice b1' ms.length i1'] 30) := ⟨_, rfl⟩
  have sU : U.heap.size = u1.heap.size + 1 := by rw [hU]; simp
  have BU : Below w.heap.size w U := by rw [hU]; exact B1.alloc zS _
  have VU : Blk U u1.heap.size #[.int .i64 cd, .int .i64 ff, .slice b1 ls.length i1, .slice b1' ms.length i1'] 30 := by rw [hU]; exact Blk.new _ _ _
  have RU : Has U .i64 b1 ls.length ls ∧ Has U .i64 b1' ms.length ms := by
    rw [hU]
    exact ⟨(has_of_own O1.one WA.out).alloc _, (has_of_own O1.two WB.out).alloc _⟩
  have FW : Hid (∀ u : World, Below U.heap.size U u → (True) ∧ Blk u u1.heap.size #[.int .i64 cd, .int .i64 ff, .slice b1 ls.length i1, .slice b1' ms.length i1'] 30 ∧ (Has u .i64 b1 ls.length ls ∧ Has u .i64 b1' ms.length ms) ∧ Below w.heap.size w u ∧ u1.heap.size < u.heap.size) := fun u h => ⟨FA.out u (BU.trans (h.mono BU.size)), VU.below h VU.lt, ⟨RU.1.below h (Nat.le_refl _), RU.2.below h (Nat.le_refl _)⟩, BU.trans (h.mono BU.size), by have := h.size; omega⟩
  clear VU RU O1 zS
  go_wp2_with fail
  simp only [← hU]
  clear hU sU
  refine (IM.out  _ (HT.out.below (FW.out _ (Below.refl _ _)).2.2.2.1 (Nat.le_refl _)) ).mono ?_
  rintro r u2 ⟨b2, i2, b2', i2', rfl, O2, hb2⟩
  have C2 : Below U.heap.size U u2 := hb2
  have zG := hb2.size
  obtain ⟨W, hW⟩ : ∃ W, W = u2.alloc (.cells #[.int .i64 cd, .int .i64 ff, .slice b2 ls.length i2, .slice b2' ms.length i2'] 30) := ⟨_, rfl⟩
  have sW : W.heap.size = u2.heap.size + 1 := by rw [hW]; simp
  have bW : Below u2.heap.size u2 W := by rw [hW]; exact (Below.refl _ _).alloc (Nat.le_refl _) _
  have VW : Blk W u2.heap.size #[.int .i64 cd, .int .i64 ff, .slice b2 ls.length i2, .slice b2' ms.length i2'] 30 := by rw [hW]; exact Blk.new _ _ _
  have CW : Below U.heap.size U W := C2.trans (bW.mono C2.size)
  have OG : OwnG W U.heap.size b2 b2' i2 i2' ls ms := O2.below bW
  have FG : Hid (∀ u : World, Ex U.heap.size U.heap.size W u → OwnG u U.heap.size b2 b2' i2 i2' ls ms) := fun u h => OG.ex h (Nat.le_refl _)
  have FV : Hid (∀ (hi : Nat) (u : World), hi ≤ u2.heap.size → Ex U.heap.size hi W u → Blk u u2.heap.size #[.int .i64 cd, .int .i64 ff, .slice b2 ls.length i2, .slice b2' ms.length i2'] 30 ∧ u2.heap.size < u.heap.size) := fun hi u hh h => ⟨VW.ex h (.inr hh), by have := h.size; omega⟩
  have FE : Hid (∀ (hi : Nat) (u : World), Ex U.heap.size hi W u → Below U.heap.size U u) := fun hi u h => CW.trans (Ex.low h CW.size)
  have GB : Hid (∀ b, ((∃ x, b2 = some x ∧ b = x.block) ∨ ∃ x, b2' = some x ∧ b = x.block) → U.heap.size ≤ b ∧ b < u2.heap.size) := O2.blocks
  have DW : Below W.heap.size W W := Below.refl _ _
  clear O2 OG VW bW sW hb2
  have v0 := ((FW.out _ C2).2.1).cell 0
  have v1 := ((FW.out _ C2).2.1).cell 1
  have v2 := ((FW.out _ C2).2.1).cell 2
  have v3 := ((FW.out _ C2).2.1).cell 3
  simp at v0 v1 v2 v3
  have qv := (FW.out _ C2).2.2.2.2
  go_wp2_with fail
  simp only [← hW]
  refine (eqSignR_any cd ff b2 b2' b1 b1' i2 i2' i1 i1' ls ms _ (has_of_own (FG.out _ (Fr.refl _ _)).one WA.out) (has_of_own (FG.out _ (Fr.refl _ _)).two WB.out) ((FW.out _ CW).2.2.1).1 ((FW.out _ CW).2.2.1).2 (by omega) (by omega)).mono ?_
  rintro r u3 ⟨rfl, hb3⟩
  have E3 : Ex U.heap.size U.heap.size W u3 := Ex.on (Fr.refl _ _) hb3
  clear v0 v1 v2 v3 qv hb3 hW
  have vf := FV.out _ _ (by omega) E3
  have t0 := (vf.1).cell 0
  have t1 := (vf.1).cell 1
  have t2 := (vf.1).cell 2
  have t3 := (vf.1).cell 3
  simp at t0 t1 t2 t3
  go_wp2_with fail
  refine (markSignR_any cd ff _ _ _ _ _ ls ms 1 _ (FG.out _ E3) (by omega) (by omega) (by omega) (by omega) (by omega)).mono ?_
  rintro r u4 ⟨rfl, OM, hm4⟩
  have E4 : Ex U.heap.size u2.heap.size W u4 := Ex.fr E3 hm4 (fun b hb => by have := GB.out b hb; omega) (by omega)
  have FM : Hid (∀ u : World, Below u4.heap.size u4 u → Has u .i64 b2 (markN 1 ls.length).length (markN 1 ls.length) ∧ Has u .i64 b2' (markN (1 + ls.length) ms.length).length (markN (1 + ls.length) ms.length)) := by
    intro u h
    have h1 := OM.one
    have h2 := OM.two
    exact ⟨(has_of_own h1 (markN_wf _ _ (by omega) (by omega) (by omega))).below h (Nat.le_refl _), (has_of_own h2 (markN_wf _ _ (by omega) (by omega) (by omega))).below h (Nat.le_refl _)⟩
  have D4 : Below u4.heap.size u4 u4 := Below.refl _ _
  clear hm4 OM vf t0 t1 t2 t3 E3
  have vf := FV.out _ _ (Nat.le_refl _) E4
  have t0 := (vf.1).cell 0
  have t1 := (vf.1).cell 1
  have t2 := (vf.1).cell 2
  have t3 := (vf.1).cell 3
  simp at t0 t1 t2 t3
  go_wp2_with fail
  refine (heldSignR_any cd ff _ _ _ _ ls.length ms.length 1 _ (FM.out _ D4).1 (FM.out _ D4).2 (by omega) (by omega) (by omega) (by omega)).mono ?_
  rintro r u5 ⟨rfl, hb5⟩
  have E5 : Ex U.heap.size u2.heap.size W u5 := Ex.on E4 hb5
  have D5 : Below u4.heap.size u4 u5 := D4.trans (hb5.mono D4.size)
  clear vf t0 t1 t2 t3 hb5 E4 D4
  go_wp2_with fail
  refine (IM.out  _ (HT.out.below (FW.out _ (FE.out _ _ E5)).2.2.2.1 (Nat.le_refl _)) ).mono ?_
  rintro r u6 ⟨b6, i6, b6', i6', rfl, O6, hb6⟩
  have E6 : Ex U.heap.size u2.heap.size W u6 := Ex.on E5 hb6
  have D6 : Below u4.heap.size u4 u6 := D5.trans (hb6.mono D5.size)
  clear  hb6 E5 D5
  have fw := FW.out _ (FE.out _ _ E6)
  have qf := (FV.out _ _ (Nat.le_refl _) E6).2
  have v0 := (fw.2.1).cell 0
  have v1 := (fw.2.1).cell 1
  have v2 := (fw.2.1).cell 2
  have v3 := (fw.2.1).cell 3
  simp at v0 v1 v2 v3
  have qv := fw.2.2.2.2
  go_wp2_with fail
  refine (eqSignR_any cd ff _ _ _ _ _ _ _ _ ls ms _ ((has_of_own O6.one WA.out).alloc _) ((has_of_own O6.two WB.out).alloc _) (fw.2.2.1.1.alloc _) (fw.2.2.1.2.alloc _) (by omega) (by omega)).mono ?_
  rintro r u7 ⟨rfl, hb7⟩
  have bb := ((Below.refl u6.heap.size u6).alloc (Nat.le_refl _) (.cells #[.int .i64 cd, .int .i64 ff, .slice b6 ls.length i6, .slice b6' ms.length i6'] 30)).trans (hb7.mono (by simp))
  have E7 : Ex U.heap.size u2.heap.size W u7 := Ex.on E6 bb
  have D7 : Below u4.heap.size u4 u7 := D6.trans (bb.mono D6.size)
  clear fw qf qv v0 v1 v2 v3 hb7 bb O6 E6 D6
  have vf := FV.out _ _ (Nat.le_refl _) E7
  have t0 := (vf.1).cell 0
  have t1 := (vf.1).cell 1
  have t2 := (vf.1).cell 2
  have t3 := (vf.1).cell 3
  simp at t0 t1 t2 t3
  go_wp2_with fail
  refine (heldSignR_any cd ff _ _ _ _ ls.length ms.length 1 _ (FM.out _ D7).1 (FM.out _ D7).2 (by omega) (by omega) (by omega) (by omega)).mono ?_
  rintro r u8 ⟨rfl, hb8⟩
  have E8 : Ex U.heap.size u2.heap.size W u8 := Ex.on E7 hb8
  have D8 : Below u4.heap.size u4 u8 := D7.trans (hb8.mono D7.size)
  clear vf t0 t1 t2 t3 hb8 E7 D7
  go_wp2
  go_ret
  exact ⟨rfl, (FW.out _ (FE.out _ _ E8)).2.2.2.1⟩

set_option maxRecDepth 100000 in
theorem fnExactSignSum_lifted (os : Os) (started : os.Started) (H : Type) (enc : TypeId × Value → H) :
    ReturnsInHanded {} Tryd.checked os 9 .any (fun w args => (Rows.fnExactSignSumSpec.pre enc Tryd.prog Tryd.f9 [] false w args ∧ laidMetH Tryd.prog [("loop.example/g00565/impl.pieceStarts", Rows.laid_loop_example_g00565_impl_pieceStarts)] w) ∧ sizedMet enc Tryd.prog Tryd.f9 (OpenSpec.ofChange Rows.fnExactSignSumSpec) false w args) (Rows.fnExactSignSumSpec.post enc Tryd.prog Tryd.f9 false true false false) := by
  refine returnsInHanded_of_change_and (C := Tryd.checked) (X := fun w _ => laidMetH Tryd.prog [("loop.example/g00565/impl.pieceStarts", Rows.laid_loop_example_g00565_impl_pieceStarts)] w) (fun _ _ _ hh h => h.of_heap hh) own started (by kernel_rfl) Tryd.func9
    (ChangeSpec.witness_shaped (enc := enc) (C := Tryd.checked) (os := os) (X := fun w _ => laidMetH Tryd.prog [("loop.example/g00565/impl.pieceStarts", Rows.laid_loop_example_g00565_impl_pieceStarts)] w) false (World.doorLaid Tryd.prog 400 os) #[.int .i64 0, .int .i64 0, .int .i64 0] 8 rfl (World.shaped_of_RefB (by kernel_rfl) (by kernel_rfl)) (by kernel_rfl) (by kernel_rfl) (by kernel_rfl) (door_met os _)) ?_
  intro W base args ds gs before hval0 hW _ _ hL _
  have hval : ∀ (j : Nat) t v, Tryd.f9.params[j]? = some t → args[j]? = some v → Value.okWide Tryd.prog W .any base t v := hval0
  have hW' := hW
  obtain ⟨p, q, hA0, hV, rfl, hfz, hnd⟩ := hW
  have hA : DataW.TrodAll enc Tryd.prog W 0 (fun _ => true) true Tryd.f9.params.toList args.toList ds p := hA0
  rw [Tryd.params9] at hA hval
  obtain ⟨v0, vs0, d0, ds0, p0, q0, hargs, rfl, rfl, h0, r0⟩ := trodAll_cons hA
  obtain ⟨v1, vs1, d1, ds1, p1, q1, rfl, rfl, rfl, h1, r1⟩ := trodAll_cons r0
  obtain ⟨v2, vs2, d2, ds2, p2, q2, rfl, rfl, rfl, h2, r2⟩ := trodAll_cons r1
  obtain ⟨rfl, rfl, rfl⟩ := trodAll_nil r2
  obtain rfl : args = #[v0, v1, v2] := by cases args; simp_all
  obtain ⟨g, rfl⟩ : ∃ g, gs = [g] := by obtain ⟨_, _, _, _, d, _, e, _⟩ := trodVars_one hV; exact ⟨d, e⟩
  have g0 := h0
  have lt0 : ∀ x ∈ p0, x.block < W.heap.size := by obtain ⟨m, hm⟩ := g0; exact DataW.trod_lt m _ _ _ hm
  have g1 := h1
  have lt1 : ∀ x ∈ p1, x.block < W.heap.size := by obtain ⟨m, hm⟩ := g1; exact DataW.trod_lt m _ _ _ hm
  have g2 := h2
  have lt2 : ∀ x ∈ p2, x.block < W.heap.size := by obtain ⟨m, hm⟩ := g2; exact DataW.trod_lt m _ _ _ hm
  obtain ⟨a0, rfl, rfl, rfl, w0⟩ := open_int Tryd.underlying2 (hval 0 2 v0 rfl rfl) h0
  obtain ⟨a1, rfl, rfl, rfl, w1⟩ := open_int Tryd.underlying2 (hval 1 2 v1 rfl rfl) h1
  obtain ⟨a2, rfl, rfl, rfl, w2⟩ := open_int Tryd.underlying2 (hval 2 2 v2 rfl rfl) h2
  clear hA0 hval0
  refine (fnExactSignSum_walk W (tab_of_laid hL) a0 w0 a1 w1 a2 w2).mono fun e W' ⟨he, bel⟩ => ?_
  subst he
  exact ⟨_, rfl, _, _, _, [], _, _, hW', trodAll_mk1 (shut_bool Tryd.underlying4 _), (trodAll_cons_mk (Below.trod laidOut (by kernel_rfl) (of_decide_eq_true (by kernel_rfl)) g0 bel lt0) (trodAll_cons_mk (Below.trod laidOut (by kernel_rfl) (of_decide_eq_true (by kernel_rfl)) g1 bel lt1) (trodAll_cons_mk (Below.trod laidOut (by kernel_rfl) (of_decide_eq_true (by kernel_rfl)) g2 bel lt2) trodAll_mk0))), Below.trodVars laidOut bel (by kernel_rfl) hV, bel.frame _, fun h => by cases h⟩

theorem fnExactSignSum_row : Rows.FnExactSignSumSaid :=
  OpenClaim.holds_of_wide 9 Tryd.f9 rfl rfl rfl rfl rfl rfl rfl ⟨rfl, rfl, rfl, rfl, rfl⟩ rfl rfl rfl rfl rfl (by kernel_rfl) Tryd.func9 (by kernel_rfl)
    (of_decide_eq_true (by kernel_rfl)) (by unfold Func.isWrapper; first | (rw [if_pos (by decide +kernel)]; kernel_rfl) | (rw [if_neg (by decide +kernel)]; exact ⟨rfl, rfl⟩))
    (fun os started H enc _ => fnExactSignSum_lifted os started H enc)

theorem fnExactSignSum_holds : Rows.FnExactSignSumCardSaid :=
  Claim7.holds_tied_plain_at .later [] [.data] true Rows.fnExactSignSumCard.stood.harness Rows.fnExactSignSumCard.stood.looks
    fnExactSignSum_row (fun _ h => by cases h) (by kernel_rfl) (fun _ h => by cases h) fnExactSignSum_row_tie rfl ⟨rfl, rfl⟩ (by kernel_rfl) rfl
    (fun f fn hf hfn => by
      obtain rfl : f = 9 := Option.some.inj ((show Tryd.prog.funcNamed "loop.example/g00565/laws.FnExactSignSum" = some 9 by kernel_rfl).symm.trans hf) |>.symm
      obtain rfl : fn = Tryd.f9 := (Option.some.inj (Tryd.func9.symm.trans hfn)).symm
      exact ⟨by kernel_rfl, fun j t ht => by
        rw [Tryd.params9] at ht
        have h3 : t = 2 := by
          match j, ht with
          | 0, ht => simp at ht; simp [← ht]
          | 1, ht => simp at ht; simp [← ht]
          | 2, ht => simp at ht; simp [← ht]
          | _ + 3, ht => simp at ht
        rcases h3 with rfl
        all_goals exact (show Tryd.prog.wantsStandIn _ = false by kernel_rfl)⟩)
    (by kernel_rfl)
#print axioms fnExactSignSum_holds
end Go.Proofs.YtncckpdglimdoaaDoor
