/- At every three int64 and every slice of int64 the program's ClimbPath answers as the specification's model of it, and leaves the slice as it was; the table that begins pieces starts as the program's text lays it. -/
import Derived.Test.YtkjhcblfkpknlaaDoorLvl
import Derived.Test.YtkjhcblfkpknlaaDoorEqInt
import Derived.Test.YtkjhcblfkpknlaaDoorDoor
namespace Go.Proofs.YtkjhcblfkpknlaaDoor
open Go.ChangeShapes Go.WideShapes Go.ChangeAt Go.RowKit
set_option linter.unusedVariables false
set_option linter.unusedSimpArgs false

set_option maxHeartbeats 4000000 in
theorem fnExactClimbPath_walk (w : World) (hT : Tab w) (a0 : Int) (w0 : (Lit.int .i64 a0).wf = true) (a1 : Int) (w1 : (Lit.int .i64 a1).wf = true) (a2 : Int) (w2 : (Lit.int .i64 a2).wf = true) (a3 : Option Addr) (len3 cap3 : Nat) (z3 : List Int) (w3 : IsRow .i64 w a3 len3 cap3 z3) :
    Calls Tryd.prog 7 #[.int .i64 a0, .int .i64 a1, .int .i64 a2, .slice a3 len3 cap3] w fun e w' => e = .returned (.bool true) ∧ Below w.heap.size w w' := by
  have bs := bounds_i64 w2
  have H0 := Has.of_row w3
  have hlen := H0.1
  generalize z3.take len3 = zs at H0 hlen
  subst hlen
  clear w3
  by_cases hbig : 1048576 < zs.length
  · have hbig' : (1048576 : Int) < (zs.length : Int) := by omega
    go_enter Tryd.func7, Tryd.ntmps7
    go_wp2
    go_ret
    exact ⟨rfl, Below.refl _ _⟩
  · have hsm : zs.length ≤ 1048576 := by omega
    have hsm' : (zs.length : Int) ≤ 1048576 := by omega
    have hmx : zs.length ≤ maxLen := by unfold maxLen; omega
    have S1 : Hid (∀ (u : World) (x : Option Addr), Has u .i64 x zs.length zs → Calls Tryd.prog 19 #[.int .i64 a0, .int .i64 a1, .int .i64 a2, .slice x zs.length zs.length] u fun r w' => r = .returned (.agg #[.int .i64 (clC a0 a1 a2 zs), .int .i64 (clV a0 a1 a2 zs)]) ∧ Below u.heap.size u w') := fun u x h => specClimb_any a0 a1 a2 x zs.length zs u h hsm (Nat.le_refl _) hmx bs
    have S2 : Hid (∀ (u : World) (x : Option Addr), Tab u → Has u .i64 x zs.length zs → Calls Tryd.prog 17 #[.int .i64 a0, .int .i64 a1, .int .i64 a2, .slice x zs.length zs.length] u fun r w' => r = .returned (.agg #[.int .i64 (clC a0 a1 a2 zs), .int .i64 (clV a0 a1 a2 zs)]) ∧ Below u.heap.size u w') := fun u x ht h => implClimb_any a0 a1 a2 x zs.length zs u ht h hsm (Nat.le_refl _) hmx
    clear hmx bs
    generalize clC a0 a1 a2 zs = cc at S1 S2
    generalize clV a0 a1 a2 zs = vv at S1 S2
    have HT : Hid (Tab w) := hT
    clear hT
    go_enter Tryd.func7, Tryd.ntmps7
    go_wp2_with fail
    refine (toInts_has a3 cap3 zs _ H0 hsm).mono ?_
    rintro _ u1 ⟨rfl, hb1, H1, hy1⟩
    go_wp2_with fail
    refine (S1.out _ _ H1).mono ?_
    rintro _ u2 ⟨rfl, hb2⟩
    have B2 := hb1.trans (hb2.mono hb1.size)
    have hz2 := B2.size
    clear hb1 hb2 hy1 H1
    go_wp2_with fail
    refine (toInts_has a3 cap3 zs _ ((H0.below B2 (Nat.le_refl _)).alloc _) hsm).mono ?_
    rintro _ u3 ⟨rfl, hb3, H3, hy3⟩
    simp at hy3
    have B3 := (B2.alloc hz2 (.cells #[.int .i64 cc, .int .i64 vv] 33)).trans (hb3.mono (by simp; omega))
    have T3 : Hid (Tab u3) := HT.out.below B3 (Nat.le_refl _)
    have X3 : Has u3 .i64 (some ⟨u2.heap.size + 1, 0, none⟩) zs.length zs := by simpa using H3
    clear H3
    have c3 := hb3.cell (p := ⟨u2.heap.size, 0, none⟩) (by simp)
    have c3' := hb3.cell (p := ⟨u2.heap.size, 1, none⟩) (by simp)
    simp [go_sem] at c3 c3'
    clear hb3
    go_wp2_with fail
    refine (S2.out _ _ T3.out (by simpa using X3)).mono ?_
    rintro _ u4 ⟨rfl, hb4⟩
    have hz4 := hb4.size
    have B4 := B3.trans (hb4.mono B3.size)
    have c4 := (hb4.cell (p := ⟨u2.heap.size, 0, none⟩) (show u2.heap.size < _ by omega)).trans c3
    have c4' := (hb4.cell (p := ⟨u2.heap.size, 1, none⟩) (show u2.heap.size < _ by omega)).trans c3'
    have X4 := X3.below hb4 (Nat.le_refl _)
    clear hb4 c3 c3' X3
    have hy4 : u2.heap.size < u4.heap.size := by omega
    go_wp2_with fail
    refine (eqInt_any cc vv _).mono ?_
    rintro _ u5 ⟨rfl, hb5⟩
    have hz5 := B4.size
    have B5 := (B4.alloc hz5 (.cells #[.int .i64 cc, .int .i64 vv] 33)).trans (hb5.mono (by simp; omega))
    have X5 := (X4.alloc (.cells #[.int .i64 cc, .int .i64 vv] 33)).below hb5 (Nat.le_refl _)
    clear hb5 X4 c4 c4'
    go_wp2_with fail
    refine (toInts_has a3 cap3 zs _ (H0.below B5 (Nat.le_refl _)) hsm).mono ?_
    rintro _ u6 ⟨rfl, hb6, H6, hy6⟩
    have B6 := B5.trans (hb6.mono B5.size)
    have X6 := X5.below hb6 (Nat.le_refl _)
    clear hb6 X5
    go_wp2_with fail
    refine (eqInts_any _ _ _ _ zs _ X6 H6 hsm).mono ?_
    rintro _ u7 ⟨rfl, hb7⟩
    have B7 := B6.trans (hb7.mono B6.size)
    go_wp2
    go_ret
    exact ⟨rfl, B7⟩

set_option maxRecDepth 100000 in
theorem fnExactClimbPath_lifted (os : Os) (started : os.Started) (H : Type) (enc : TypeId × Value → H) :
    ReturnsInHanded {} Tryd.checked os 7 .any (fun w args => (Rows.fnExactClimbPathSpec.pre enc Tryd.prog Tryd.f7 [] false w args ∧ laidMetH Tryd.prog [("loop.example/g00565/impl.pieceStarts", Rows.laid_loop_example_g00565_impl_pieceStarts)] w) ∧ sizedMet enc Tryd.prog Tryd.f7 (OpenSpec.ofChange Rows.fnExactClimbPathSpec) false w args) (Rows.fnExactClimbPathSpec.post enc Tryd.prog Tryd.f7 false true false false) := by
  refine returnsInHanded_of_change_and (C := Tryd.checked) (X := fun w _ => laidMetH Tryd.prog [("loop.example/g00565/impl.pieceStarts", Rows.laid_loop_example_g00565_impl_pieceStarts)] w) (fun _ _ _ hh h => h.of_heap hh) own started (by kernel_rfl) Tryd.func7
    (ChangeSpec.witness_shaped (enc := enc) (C := Tryd.checked) (os := os) (X := fun w _ => laidMetH Tryd.prog [("loop.example/g00565/impl.pieceStarts", Rows.laid_loop_example_g00565_impl_pieceStarts)] w) false (World.doorLaid Tryd.prog 400 os) #[.int .i64 0, .int .i64 0, .int .i64 0, .slice none 0 0] 8 rfl (World.shaped_of_RefB (by kernel_rfl) (by kernel_rfl)) (by kernel_rfl) (by kernel_rfl) (by kernel_rfl) (door_met os _)) ?_
  intro W base args ds gs before hval0 hW _ _ hL _
  have hval : ∀ (j : Nat) t v, Tryd.f7.params[j]? = some t → args[j]? = some v → Value.okWide Tryd.prog W .any base t v := hval0
  have hW' := hW
  obtain ⟨p, q, hA0, hV, rfl, hfz, hnd⟩ := hW
  have hA : DataW.TrodAll enc Tryd.prog W 0 (fun _ => true) true Tryd.f7.params.toList args.toList ds p := hA0
  rw [Tryd.params7] at hA hval
  obtain ⟨v0, vs0, d0, ds0, p0, q0, hargs, rfl, rfl, h0, r0⟩ := trodAll_cons hA
  obtain ⟨v1, vs1, d1, ds1, p1, q1, rfl, rfl, rfl, h1, r1⟩ := trodAll_cons r0
  obtain ⟨v2, vs2, d2, ds2, p2, q2, rfl, rfl, rfl, h2, r2⟩ := trodAll_cons r1
  obtain ⟨v3, vs3, d3, ds3, p3, q3, rfl, rfl, rfl, h3, r3⟩ := trodAll_cons r2
  obtain ⟨rfl, rfl, rfl⟩ := trodAll_nil r3
  obtain rfl : args = #[v0, v1, v2, v3] := by cases args; simp_all
  obtain ⟨g, rfl⟩ : ∃ g, gs = [g] := by obtain ⟨_, _, _, _, d, _, e, _⟩ := trodVars_one hV; exact ⟨d, e⟩
  have g0 := h0
  have lt0 : ∀ x ∈ p0, x.block < W.heap.size := by obtain ⟨m, hm⟩ := g0; exact DataW.trod_lt m _ _ _ hm
  have g1 := h1
  have lt1 : ∀ x ∈ p1, x.block < W.heap.size := by obtain ⟨m, hm⟩ := g1; exact DataW.trod_lt m _ _ _ hm
  have g2 := h2
  have lt2 : ∀ x ∈ p2, x.block < W.heap.size := by obtain ⟨m, hm⟩ := g2; exact DataW.trod_lt m _ _ _ hm
  have g3 := h3
  have lt3 : ∀ x ∈ p3, x.block < W.heap.size := by obtain ⟨m, hm⟩ := g3; exact DataW.trod_lt m _ _ _ hm
  obtain ⟨a0, rfl, rfl, rfl, w0⟩ := open_int Tryd.underlying2 (hval 0 2 v0 rfl rfl) h0
  obtain ⟨a1, rfl, rfl, rfl, w1⟩ := open_int Tryd.underlying2 (hval 1 2 v1 rfl rfl) h1
  obtain ⟨a2, rfl, rfl, rfl, w2⟩ := open_int Tryd.underlying2 (hval 2 2 v2 rfl rfl) h2
  obtain ⟨a3, len3, cap3, rfl⟩ := okWide_slice Tryd.underlying24 (hval 3 24 v3 rfl rfl)
  obtain ⟨z3, w3⟩ : ∃ zs, IsRow .i64 W a3 len3 cap3 zs := by
    obtain ⟨fuel, hf⟩ := h3
    rcases open_ints Tryd.underlying24 Tryd.underlying2 (by kernel_rfl) hf with ⟨hcs, _⟩ | ⟨x, l, c, zs, hcs, _, hl, hm, hz, _, hcell, hwz⟩
    · simp [Value.cells] at hcs
      obtain ⟨rfl, rfl, rfl⟩ := hcs
      exact ⟨[], .inl ⟨rfl, rfl, rfl, rfl⟩⟩
    · simp [Value.cells] at hcs
      obtain ⟨rfl, rfl, rfl⟩ := hcs
      exact ⟨zs, .inr ⟨_, rfl, hl, hm, by simpa using hz, hcell, hwz⟩⟩
  clear hA0 hval0
  refine (fnExactClimbPath_walk W (tab_of_laid hL) a0 w0 a1 w1 a2 w2 a3 len3 cap3 z3 w3).mono fun e W' ⟨he, bel⟩ => ?_
  subst he
  exact ⟨_, rfl, _, _, _, [], _, _, hW', trodAll_mk1 (shut_bool Tryd.underlying4 _), (trodAll_cons_mk (Below.trod laidOut (by kernel_rfl) (of_decide_eq_true (by kernel_rfl)) g0 bel lt0) (trodAll_cons_mk (Below.trod laidOut (by kernel_rfl) (of_decide_eq_true (by kernel_rfl)) g1 bel lt1) (trodAll_cons_mk (Below.trod laidOut (by kernel_rfl) (of_decide_eq_true (by kernel_rfl)) g2 bel lt2) (trodAll_cons_mk (Below.trod laidOut (by kernel_rfl) (of_decide_eq_true (by kernel_rfl)) g3 bel lt3) trodAll_mk0)))), Below.trodVars laidOut bel (by kernel_rfl) hV, bel.frame _, fun h => by cases h⟩

theorem fnExactClimbPath_row : Rows.FnExactClimbPathSaid :=
  OpenClaim.holds_of_wide 7 Tryd.f7 rfl rfl rfl rfl rfl rfl rfl ⟨rfl, rfl, rfl, rfl, rfl⟩ rfl rfl rfl rfl rfl (by kernel_rfl) Tryd.func7 (by kernel_rfl)
    (of_decide_eq_true (by kernel_rfl)) (by unfold Func.isWrapper; first | (rw [if_pos (by decide +kernel)]; kernel_rfl) | (rw [if_neg (by decide +kernel)]; exact ⟨rfl, rfl⟩))
    (fun os started H enc _ => fnExactClimbPath_lifted os started H enc)

theorem fnExactClimbPath_holds : Rows.FnExactClimbPathCardSaid :=
  Claim7.holds_tied_plain_at .later [] [.data] true Rows.fnExactClimbPathCard.stood.harness false
    fnExactClimbPath_row (fun _ h => by cases h) (by kernel_rfl) (fun _ h => by cases h) fnExactClimbPath_row_tie rfl ⟨rfl, rfl⟩ (by kernel_rfl) rfl
    (fun f fn hf hfn => by
      obtain rfl : f = 7 := Option.some.inj ((show Tryd.prog.funcNamed "loop.example/g00565/laws.FnExactClimbPath" = some 7 by kernel_rfl).symm.trans hf) |>.symm
      obtain rfl : fn = Tryd.f7 := (Option.some.inj (Tryd.func7.symm.trans hfn)).symm
      exact ⟨by kernel_rfl, fun j t ht => by
        rw [Tryd.params7] at ht
        have h3 : t = 2 ∨ t = 24 := by
          match j, ht with
          | 0, ht => simp at ht; simp [← ht]
          | 1, ht => simp at ht; simp [← ht]
          | 2, ht => simp at ht; simp [← ht]
          | 3, ht => simp at ht; simp [← ht]
          | _ + 4, ht => simp at ht
        rcases h3 with rfl | rfl
        all_goals exact (show Tryd.prog.wantsStandIn _ = false by kernel_rfl)⟩)
    (by kernel_rfl)
#print axioms fnExactClimbPath_holds
end Go.Proofs.YtkjhcblfkpknlaaDoor
