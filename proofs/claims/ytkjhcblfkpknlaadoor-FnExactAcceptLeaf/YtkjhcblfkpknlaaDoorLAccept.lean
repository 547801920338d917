/- At every slice of bytes, every slice of int64 and every three int64 the program's AcceptLeaf answers as the specification's model of it, and leaves both slices as they were; the table that begins pieces starts as the program's text lays it. -/
import Derived.Test.YtkjhcblfkpknlaaDoorAccept4
import Derived.Test.YtkjhcblfkpknlaaDoorDoor
namespace Go.Proofs.YtkjhcblfkpknlaaDoor
open Go.ChangeShapes Go.WideShapes Go.ChangeAt Go.RowKit
set_option linter.unusedVariables false
set_option linter.unusedSimpArgs false

set_option maxHeartbeats 4000000 in
theorem fnExactAcceptLeaf_walk (w : World) (hT : Tab w) (a0 : Option Addr) (len0 cap0 : Nat) (z0 : List Int) (w0 : IsRow .u8 w a0 len0 cap0 z0) (a1 : Int) (w1 : (Lit.int .i64 a1).wf = true) (a2 : Int) (w2 : (Lit.int .i64 a2).wf = true) (a3 : Option Addr) (len3 cap3 : Nat) (z3 : List Int) (w3 : IsRow .i64 w a3 len3 cap3 z3) (a4 : Int) (w4 : (Lit.int .i64 a4).wf = true) :
    Calls Tryd.prog 8 #[.slice a0 len0 cap0, .int .i64 a1, .int .i64 a2, .slice a3 len3 cap3, .int .i64 a4] w fun e w' => e = .returned (.bool true) ∧ Below w.heap.size w w' := by
  have bs := bounds_i64 w2
  have D0 := Has.of_row w0
  have hlend := D0.1
  generalize z0.take len0 = ds at D0 hlend
  subst hlend
  have H0 := Has.of_row w3
  have hlen := H0.1
  generalize z3.take len3 = zs at H0 hlen
  subst hlen
  clear w0 w3
  by_cases hbd : 1048576 < ds.length
  · have hbd' : (1048576 : Int) < (ds.length : Int) := by omega
    go_enter Tryd.func8, Tryd.ntmps8
    go_wp2
    go_ret
    exact ⟨rfl, Below.refl _ _⟩
  · have hdm : ds.length ≤ 1048576 := by omega
    have hdm' : (ds.length : Int) ≤ 1048576 := by omega
    by_cases hbig : 1048576 < zs.length
    · have hbig' : (1048576 : Int) < (zs.length : Int) := by omega
      go_enter Tryd.func8, Tryd.ntmps8
      go_wp2
      go_ret
      exact ⟨rfl, Below.refl _ _⟩
    · have hsm : zs.length ≤ 1048576 := by omega
      have hsm' : (zs.length : Int) ≤ 1048576 := by omega
      have hmx : zs.length ≤ maxLen := by unfold maxLen; omega
      have S1 : Hid (∀ (u : World) (x y : Option Addr), Has u .u8 x ds.length ds → Has u .i64 y zs.length zs → Calls Tryd.prog 21 #[.slice x ds.length ds.length, .int .i64 a1, .int .i64 a2, .slice y zs.length zs.length, .int .i64 a4] u fun r w' => r = .returned (.bool (acB ds a1 a2 zs a4)) ∧ Below u.heap.size u w') := fun u x y h h' => specAccept_any x y ds.length zs.length ds zs a1 a2 a4 u h hdm h' hsm (Nat.le_refl _) hmx bs
      have S2 : Hid (∀ (u : World) (x y : Option Addr), Tab u → Has u .u8 x ds.length ds → Has u .i64 y zs.length zs → Calls Tryd.prog 20 #[.slice x ds.length ds.length, .int .i64 a1, .int .i64 a2, .slice y zs.length zs.length, .int .i64 a4] u fun r w' => r = .returned (.bool (acB ds a1 a2 zs a4)) ∧ Below u.heap.size u w') := fun u x y ht h h' => implAccept_any x y ds.length zs.length ds zs a1 a2 a4 u ht h h' hsm (Nat.le_refl _) hmx
      clear hmx bs
      generalize acB ds a1 a2 zs a4 = bb at S1 S2
      have hne : (bb != bb) = false := by simp
      have HT : Hid (Tab w) := hT
      clear hT
      go_enter Tryd.func8, Tryd.ntmps8
      go_wp2_with fail
      refine (toBytes_has a0 cap0 ds _ D0 hdm).mono ?_
      rintro _ u1 ⟨rfl, hb1, X1, hy1⟩
      go_wp2_with fail
      refine (toInts_has a3 cap3 zs _ (H0.below hb1 (Nat.le_refl _)) hsm).mono ?_
      rintro _ u2 ⟨rfl, hb2, Y2, hy2⟩
      have B2 := hb1.trans (hb2.mono hb1.size)
      have X2 := X1.below hb2 (Nat.le_refl _)
      clear hb1 hb2 X1
      go_wp2_with fail
      refine (S1.out _ _ _ X2 Y2).mono ?_
      rintro _ u3 ⟨rfl, hb3⟩
      have B3 := B2.trans (hb3.mono B2.size)
      clear hb3 X2 Y2 B2
      go_wp2_with fail
      refine (toBytes_has a0 cap0 ds _ (D0.below B3 (Nat.le_refl _)) hdm).mono ?_
      rintro _ u4 ⟨rfl, hb4, X4, hy4⟩
      have B4 := B3.trans (hb4.mono B3.size)
      clear hb4
      go_wp2_with fail
      refine (toInts_has a3 cap3 zs _ (H0.below B4 (Nat.le_refl _)) hsm).mono ?_
      rintro _ u5 ⟨rfl, hb5, Y5, hy5⟩
      have B5 := B4.trans (hb5.mono B4.size)
      have X5 := X4.below hb5 (Nat.le_refl _)
      clear hb5 X4
      have T5 : Hid (Tab u5) := HT.out.below B5 (Nat.le_refl _)
      go_wp2_with fail
      refine (S2.out _ _ _ T5.out X5 Y5).mono ?_
      rintro _ u6 ⟨rfl, hb6⟩
      have B6 := B5.trans (hb6.mono B5.size)
      have X6 := X5.below hb6 (Nat.le_refl _)
      have Y6 := Y5.below hb6 (Nat.le_refl _)
      clear hb6 X5 Y5 T5
      go_wp2_with fail
      refine (toBytes_has a0 cap0 ds _ (D0.below B6 (Nat.le_refl _)) hdm).mono ?_
      rintro _ u7 ⟨rfl, hb7, Z7, hy7⟩
      have B7 := B6.trans (hb7.mono B6.size)
      have X7 := X6.below hb7 (Nat.le_refl _)
      have Y7 := Y6.below hb7 (Nat.le_refl _)
      clear hb7 X6 Y6
      go_wp2_with fail
      refine (eqBytes_any _ _ _ _ ds _ X7 Z7 hdm).mono ?_
      rintro _ u8 ⟨rfl, hb8⟩
      have B8 := B7.trans (hb8.mono B7.size)
      have Y8 := Y7.below hb8 (Nat.le_refl _)
      clear hb8 X7 Y7 Z7
      go_wp2_with fail
      refine (toInts_has a3 cap3 zs _ (H0.below B8 (Nat.le_refl _)) hsm).mono ?_
      rintro _ u9 ⟨rfl, hb9, Z9, hy9⟩
      have B9 := B8.trans (hb9.mono B8.size)
      have Y9 := Y8.below hb9 (Nat.le_refl _)
      clear hb9 Y8
      go_wp2_with fail
      refine (eqInts_any _ _ _ _ zs _ Y9 Z9 hsm).mono ?_
      rintro _ u10 ⟨rfl, hb10⟩
      have B10 := B9.trans (hb10.mono B9.size)
      go_wp2
      go_ret
      exact ⟨rfl, B10⟩

set_option maxRecDepth 100000 in
theorem fnExactAcceptLeaf_lifted (os : Os) (started : os.Started) (H : Type) (enc : TypeId × Value → H) :
    ReturnsInHanded {} Tryd.checked os 8 .any (fun w args => (Rows.fnExactAcceptLeafSpec.pre enc Tryd.prog Tryd.f8 [] false w args ∧ laidMetH Tryd.prog [("loop.example/g00565/impl.pieceStarts", Rows.laid_loop_example_g00565_impl_pieceStarts)] w) ∧ sizedMet enc Tryd.prog Tryd.f8 (OpenSpec.ofChange Rows.fnExactAcceptLeafSpec) false w args) (Rows.fnExactAcceptLeafSpec.post enc Tryd.prog Tryd.f8 false true false false) := by
  refine returnsInHanded_of_change_and (C := Tryd.checked) (X := fun w _ => laidMetH Tryd.prog [("loop.example/g00565/impl.pieceStarts", Rows.laid_loop_example_g00565_impl_pieceStarts)] w) (fun _ _ _ hh h => h.of_heap hh) own started (by kernel_rfl) Tryd.func8
    (ChangeSpec.witness_shaped (enc := enc) (C := Tryd.checked) (os := os) (X := fun w _ => laidMetH Tryd.prog [("loop.example/g00565/impl.pieceStarts", Rows.laid_loop_example_g00565_impl_pieceStarts)] w) false (World.doorLaid Tryd.prog 400 os) #[.slice none 0 0, .int .i64 0, .int .i64 0, .slice none 0 0, .int .i64 0] 8 rfl (World.shaped_of_RefB (by kernel_rfl) (by kernel_rfl)) (by kernel_rfl) (by kernel_rfl) (by kernel_rfl) (door_met os _)) ?_
  intro W base args ds gs before hval0 hW _ _ hL _
  have hval : ∀ (j : Nat) t v, Tryd.f8.params[j]? = some t → args[j]? = some v → Value.okWide Tryd.prog W .any base t v := hval0
  have hW' := hW
  obtain ⟨p, q, hA0, hV, rfl, hfz, hnd⟩ := hW
  have hA : DataW.TrodAll enc Tryd.prog W 0 (fun _ => true) true Tryd.f8.params.toList args.toList ds p := hA0
  rw [Tryd.params8] at hA hval
  obtain ⟨v0, vs0, d0, ds0, p0, q0, hargs, rfl, rfl, h0, r0⟩ := trodAll_cons hA
  obtain ⟨v1, vs1, d1, ds1, p1, q1, rfl, rfl, rfl, h1, r1⟩ := trodAll_cons r0
  obtain ⟨v2, vs2, d2, ds2, p2, q2, rfl, rfl, rfl, h2, r2⟩ := trodAll_cons r1
  obtain ⟨v3, vs3, d3, ds3, p3, q3, rfl, rfl, rfl, h3, r3⟩ := trodAll_cons r2
  obtain ⟨v4, vs4, d4, ds4, p4, q4, rfl, rfl, rfl, h4, r4⟩ := trodAll_cons r3
  obtain ⟨rfl, rfl, rfl⟩ := trodAll_nil r4
  obtain rfl : args = #[v0, v1, v2, v3, v4] := by cases args; simp_all
  obtain ⟨g, rfl⟩ : ∃ g, gs = [g] := by obtain ⟨_, _, _, _, d, _, e, _⟩ := trodVars_one hV; exact ⟨d, e⟩
  have g0 := h0
  have lt0 : ∀ x ∈ p0, x.block < W.heap.size := by obtain ⟨m, hm⟩ := g0; exact DataW.trod_lt m _ _ _ hm
  have g1 := h1
  have lt1 : ∀ x ∈ p1, x.block < W.heap.size := by obtain ⟨m, hm⟩ := g1; exact DataW.trod_lt m _ _ _ hm
  have g2 := h2
  have lt2 : ∀ x ∈ p2, x.block < W.heap.size := by obtain ⟨m, hm⟩ := g2; exact DataW.trod_lt m _ _ _ hm
  have g3 := h3
  have lt3 : ∀ x ∈ p3, x.block < W.heap.size := by obtain ⟨m, hm⟩ := g3; exact DataW.trod_lt m _ _ _ hm
  have g4 := h4
  have lt4 : ∀ x ∈ p4, x.block < W.heap.size := by obtain ⟨m, hm⟩ := g4; exact DataW.trod_lt m _ _ _ hm
  obtain ⟨a0, len0, cap0, rfl⟩ := okWide_slice Tryd.underlying22 (hval 0 22 v0 rfl rfl)
  obtain ⟨z0, w0⟩ : ∃ zs, IsRow .u8 W a0 len0 cap0 zs := by
    obtain ⟨fuel, hf⟩ := h0
    rcases open_ints Tryd.underlying22 Tryd.underlying5 (by kernel_rfl) hf with ⟨hcs, _⟩ | ⟨x, l, c, zs, hcs, _, hl, hm, hz, _, hcell, hwz⟩
    · simp [Value.cells] at hcs
      obtain ⟨rfl, rfl, rfl⟩ := hcs
      exact ⟨[], .inl ⟨rfl, rfl, rfl, rfl⟩⟩
    · simp [Value.cells] at hcs
      obtain ⟨rfl, rfl, rfl⟩ := hcs
      exact ⟨zs, .inr ⟨_, rfl, hl, hm, by simpa using hz, hcell, hwz⟩⟩
  obtain ⟨a1, rfl, rfl, rfl, w1⟩ := open_int Tryd.underlying2 (hval 1 2 v1 rfl rfl) h1
  obtain ⟨a2, rfl, rfl, rfl, w2⟩ := open_int Tryd.underlying2 (hval 2 2 v2 rfl rfl) h2
  obtain ⟨a3, len3, cap3, rfl⟩ := okWide_slice Tryd.underlying24 (hval 3 24 v3 rfl rfl)
  obtain ⟨z3, w3⟩ : ∃ zs, IsRow .i64 W a3 len3 cap3 zs := by
    obtain ⟨fuel, hf⟩ := h3
    rcases open_ints Tryd.underlying24 Tryd.underlying2 (by kernel_rfl) hf with ⟨hcs, _⟩ | ⟨x, l, c, zs, hcs, _, hl, hm, hz, _, hcell, hwz⟩
    · simp [Value.cells] at hcs
      obtain ⟨rfl, rfl, rfl⟩ := hcs
      exact ⟨[], .inl ⟨rfl, rfl, rfl, rfl⟩⟩
    · simp [Value.cells] at hcs
      obtain ⟨rfl, rfl, rfl⟩ := hcs
      exact ⟨zs, .inr ⟨_, rfl, hl, hm, by simpa using hz, hcell, hwz⟩⟩
  obtain ⟨a4, rfl, rfl, rfl, w4⟩ := open_int Tryd.underlying2 (hval 4 2 v4 rfl rfl) h4
  clear hA0 hval0
  refine (fnExactAcceptLeaf_walk W (tab_of_laid hL) a0 len0 cap0 z0 w0 a1 w1 a2 w2 a3 len3 cap3 z3 w3 a4 w4).mono fun e W' ⟨he, bel⟩ => ?_
  subst he
  exact ⟨_, rfl, _, _, _, [], _, _, hW', trodAll_mk1 (shut_bool Tryd.underlying4 _), (trodAll_cons_mk (Below.trod laidOut (by kernel_rfl) (of_decide_eq_true (by kernel_rfl)) g0 bel lt0) (trodAll_cons_mk (Below.trod laidOut (by kernel_rfl) (of_decide_eq_true (by kernel_rfl)) g1 bel lt1) (trodAll_cons_mk (Below.trod laidOut (by kernel_rfl) (of_decide_eq_true (by kernel_rfl)) g2 bel lt2) (trodAll_cons_mk (Below.trod laidOut (by kernel_rfl) (of_decide_eq_true (by kernel_rfl)) g3 bel lt3) (trodAll_cons_mk (Below.trod laidOut (by kernel_rfl) (of_decide_eq_true (by kernel_rfl)) g4 bel lt4) trodAll_mk0))))), Below.trodVars laidOut bel (by kernel_rfl) hV, bel.frame _, fun h => by cases h⟩

theorem fnExactAcceptLeaf_row : Rows.FnExactAcceptLeafSaid :=
  OpenClaim.holds_of_wide 8 Tryd.f8 rfl rfl rfl rfl rfl rfl rfl ⟨rfl, rfl, rfl, rfl, rfl⟩ rfl rfl rfl rfl rfl (by kernel_rfl) Tryd.func8 (by kernel_rfl)
    (of_decide_eq_true (by kernel_rfl)) (by unfold Func.isWrapper; first | (rw [if_pos (by decide +kernel)]; kernel_rfl) | (rw [if_neg (by decide +kernel)]; exact ⟨rfl, rfl⟩))
    (fun os started H enc _ => fnExactAcceptLeaf_lifted os started H enc)

theorem fnExactAcceptLeaf_holds : Rows.FnExactAcceptLeafCardSaid :=
  Claim7.holds_tied_plain_at .later [] [.data] true Rows.fnExactAcceptLeafCard.stood.harness false
    fnExactAcceptLeaf_row (fun _ h => by cases h) (by kernel_rfl) (fun _ h => by cases h) fnExactAcceptLeaf_row_tie rfl ⟨rfl, rfl⟩ (by kernel_rfl) rfl
    (fun f fn hf hfn => by
      obtain rfl : f = 8 := Option.some.inj ((show Tryd.prog.funcNamed "loop.example/g00565/laws.FnExactAcceptLeaf" = some 8 by kernel_rfl).symm.trans hf) |>.symm
      obtain rfl : fn = Tryd.f8 := (Option.some.inj (Tryd.func8.symm.trans hfn)).symm
      exact ⟨by kernel_rfl, fun j t ht => by
        rw [Tryd.params8] at ht
        have h3 : t = 22 ∨ t = 2 ∨ t = 24 := by
          match j, ht with
          | 0, ht => simp at ht; simp [← ht]
          | 1, ht => simp at ht; simp [← ht]
          | 2, ht => simp at ht; simp [← ht]
          | 3, ht => simp at ht; simp [← ht]
          | 4, ht => simp at ht; simp [← ht]
          | _ + 5, ht => simp at ht
        rcases h3 with rfl | rfl | rfl
        all_goals exact (show Tryd.prog.wantsStandIn _ = false by kernel_rfl)⟩)
    (by kernel_rfl)
#print axioms fnExactAcceptLeaf_holds
end Go.Proofs.YtkjhcblfkpknlaaDoor
