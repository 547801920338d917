/- At every key, word, value, path and root the program's AcceptSlot answers as the specification's model of it, and leaves them as they were. -/
import Derived.Test.YtjjddjohckcmbaaDoorIAcS
import Derived.Test.YtjjddjohckcmbaaDoorEqInt
import Derived.Test.YtjjddjohckcmbaaDoorExc
import Derived.Test.YtjjddjohckcmbaaDoorDoor
namespace Go.Proofs.YtjjddjohckcmbaaDoor
open Go.ChangeShapes Go.WideShapes Go.ChangeAt Go.RowKit
set_option linter.unusedVariables false
set_option linter.unusedSimpArgs false

set_option maxHeartbeats 8000000 in
theorem fnExactAcceptSlot_walk (w : World) (hT : Tab w) (a0 : Int) (w0 : (Lit.int .i64 a0).wf = true) (a1 : Bool) (a2 : Int) (w2 : (Lit.int .i64 a2).wf = true) (a3 : Option Addr) (len3 cap3 : Nat) (z3 : List Int) (w3 : IsRow .i64 w a3 len3 cap3 z3) (a4 : Int) (w4 : (Lit.int .i64 a4).wf = true) :
    Calls Tryd.prog 8 #[.int .i64 a0, .bool a1, .int .i64 a2, .slice a3 len3 cap3, .int .i64 a4] w fun e w' => e = .returned (.bool true) ∧ Below w.heap.size w w' := by
  have A3 := Has.of_row w3
  have hlen3 := A3.1
  generalize z3.take len3 = d3 at A3 hlen3
  subst hlen3
  clear w3
  by_cases big3 : 1048576 < d3.length
  case pos =>
    have big3' : (1048576 : Int) < (d3.length : Int) := by omega
    go_enter Tryd.func8, Tryd.ntmps8
    go_wp2
    go_ret
    exact ⟨rfl, Below.refl _ _⟩
  have hs3 : d3.length ≤ 1048576 := by omega
  have hs3' : (d3.length : Int) ≤ 1048576 := by omega
  clear big3
  have hm3 : d3.length ≤ maxLen := by unfold maxLen; omega
  have WF3 : Hid (∀ n ∈ d3, (Lit.int .i64 n).wf = true) := A3.2.1
  obtain ⟨cd, hcd⟩ : ∃ c, c = decide (clF a0 a1 a2 d3 = 0 ∧ clW a0 a1 a2 d3 = a4) := ⟨_, rfl⟩
  have SP : Hid (∀ (p3 : Option Addr) (x : World), Has x .i64 p3 d3.length d3 → Calls Tryd.prog 18 #[Value.int .i64 a0, Value.bool a1, Value.int .i64 a2, Value.slice p3 d3.length d3.length, Value.int .i64 a4] x fun r w' => r = .returned (.bool cd) ∧ Below x.heap.size x w') := by
    show ∀ (p3 : Option Addr) (x : World), Has x .i64 p3 d3.length d3 → Calls Tryd.prog 18 #[Value.int .i64 a0, Value.bool a1, Value.int .i64 a2, Value.slice p3 d3.length d3.length, Value.int .i64 a4] x fun r w' => r = .returned (.bool cd) ∧ Below x.heap.size x w'
    rw [hcd]
    exact fun p3 x h3 => specAcceptSlot_any a0 a2 a1 p3 _ d3 a4 x h3 hs3
  have IM : Hid (∀ (p3 : Option Addr) (x : World), Tab x → Has x .i64 p3 d3.length d3 → Calls Tryd.prog 17 #[Value.int .i64 a0, Value.bool a1, Value.int .i64 a2, Value.slice p3 d3.length d3.length, Value.int .i64 a4] x fun r w' => r = .returned (.bool cd) ∧ Below x.heap.size x w') := by
    show ∀ (p3 : Option Addr) (x : World), Tab x → Has x .i64 p3 d3.length d3 → Calls Tryd.prog 17 #[Value.int .i64 a0, Value.bool a1, Value.int .i64 a2, Value.slice p3 d3.length d3.length, Value.int .i64 a4] x fun r w' => r = .returned (.bool cd) ∧ Below x.heap.size x w'
    rw [hcd]
    exact fun p3 x ht h3 => implAcceptSlot_any a0 a2 a1 p3 _ d3 a4 x ht h3 hs3
  have hne : (cd != cd) = false := by simp
  clear hcd
  have FA : Hid (∀ u : World, Below w.heap.size w u → Has u .i64 a3 d3.length d3) := fun u hu => A3.below hu (Nat.le_refl _)
  have HT : Hid (Tab w) := hT
  clear hT
  clear A3
  go_enter Tryd.func8, Tryd.ntmps8
  go_wp2_with fail
  refine (toInts_has a3 cap3 d3 _ (FA.out _ (Below.refl _ _)) hs3).mono ?_
  rintro r u1 ⟨rfl, hb1, X1, y1⟩
  have B1 : Below w.heap.size w u1 := hb1
  go_wp2_with fail
  refine (SP.out _ _ X1).mono ?_
  rintro r u2 ⟨rfl, hb2⟩
  have B2 : Below w.heap.size w u2 := B1.trans (hb2.mono B1.size)
  have zS := B2.size
  clear X1 hb1 hb2
  obtain ⟨U, hU⟩ : ∃ U, U = u2 := ⟨_, rfl⟩
  have BU : Below w.heap.size w U := by rw [hU]; exact B2
  have FW : Hid (∀ u : World, Below U.heap.size U u → (Has u .i64 a3 d3.length d3) ∧ Below w.heap.size w u) := fun u h => ⟨FA.out u (BU.trans (h.mono BU.size)), BU.trans (h.mono BU.size)⟩
  go_wp2_with fail
  simp only [← hU]
  clear hU
  refine (toInts_any a3 d3.length cap3 d3 _ (FW.out _ (Below.refl _ _)).1 hs3).mono ?_
  rintro r u3 ⟨rfl, O3, hb3⟩
  have z3 : U.heap.size < u3.heap.size := own_lt O3 _ rfl
  have C3 : Below U.heap.size U u3 := hb3
  have Y3 := has_of_own O3 WF3.out
  go_wp2_with fail
  refine (IM.out _ _ (HT.out.below (FW.out _ C3).2 (Nat.le_refl _)) Y3).mono ?_
  rintro r u4 ⟨rfl, hb4⟩
  have C4 : Below U.heap.size U u4 := C3.trans (hb4.mono C3.size)
  have zG := hb4.size
  replace O3 := own_below O3 hb4
  have E4 : Ex U.heap.size U.heap.size u4 u4 := Fr.refl _ _
  have FX3 : Hid (∀ u : World, Ex U.heap.size U.heap.size u4 u → World.ownsRow u U.heap.size 2 1 (.slice (some ⟨U.heap.size, 0, none⟩) d3.length d3.length) d3.length (d3.map (.int .i64))) := fun u h => own_ex O3 h (Nat.le_refl _)
  have FE : Hid (∀ (hi : Nat) (u : World), Ex U.heap.size hi u4 u → Below U.heap.size U u) := fun hi u h => C4.trans (Ex.low h C4.size)
  clear O3 hb4
  go_wp2_with fail
  refine (toInts_has a3 cap3 d3 _ (FW.out _ (FE.out _ _ E4)).1 hs3).mono ?_
  rintro r u5 ⟨rfl, hb5, X5, y5⟩
  have E5 : Ex U.heap.size U.heap.size u4 u5 := Ex.on E4 hb5
  clear hb5
  go_wp2_with fail
  refine (eqInts_any _ _ _ _ d3 _ (has_of_own (FX3.out _ E5) WF3.out) X5 hs3).mono ?_
  rintro r u6 ⟨rfl, hb6⟩
  have E6 : Ex U.heap.size U.heap.size u4 u6 := Ex.on E5 hb6
  clear hb6 E5 X5
  go_wp2
  go_ret
  exact ⟨rfl, (FW.out _ (FE.out _ _ E6)).2⟩

set_option maxRecDepth 100000 in
theorem fnExactAcceptSlot_lifted (os : Os) (started : os.Started) (H : Type) (enc : TypeId × Value → H) :
    ReturnsInHanded {} Tryd.checked os 8 .any (fun w args => (Rows.fnExactAcceptSlotSpec.pre enc Tryd.prog Tryd.f8 [] false w args ∧ laidMetH Tryd.prog [("loop.example/g00565/impl.pieceStarts", Rows.laid_loop_example_g00565_impl_pieceStarts)] w) ∧ sizedMet enc Tryd.prog Tryd.f8 (OpenSpec.ofChange Rows.fnExactAcceptSlotSpec) false w args) (Rows.fnExactAcceptSlotSpec.post enc Tryd.prog Tryd.f8 false true false false) := by
  refine returnsInHanded_of_change_and (C := Tryd.checked) (X := fun w _ => laidMetH Tryd.prog [("loop.example/g00565/impl.pieceStarts", Rows.laid_loop_example_g00565_impl_pieceStarts)] w) (fun _ _ _ hh h => h.of_heap hh) own started (by kernel_rfl) Tryd.func8
    (ChangeSpec.witness_shaped (enc := enc) (C := Tryd.checked) (os := os) (X := fun w _ => laidMetH Tryd.prog [("loop.example/g00565/impl.pieceStarts", Rows.laid_loop_example_g00565_impl_pieceStarts)] w) false (World.doorLaid Tryd.prog 400 os) #[.int .i64 0, .bool false, .int .i64 0, .slice none 0 0, .int .i64 0] 8 rfl (World.shaped_of_RefB (by kernel_rfl) (by kernel_rfl)) (by kernel_rfl) (by kernel_rfl) (by kernel_rfl) (door_met os _)) ?_
  intro W base args ds gs before hval0 hW _ _ hL _
  have hval : ∀ (j : Nat) t v, Tryd.f8.params[j]? = some t → args[j]? = some v → Value.okWide Tryd.prog W .any base t v := hval0
  have hW' := hW
  obtain ⟨p, q, hA0, hV, rfl, hfz, hnd⟩ := hW
  have hA : DataW.TrodAll enc Tryd.prog W 0 (fun _ => true) true Tryd.f8.params.toList args.toList ds p := hA0
  rw [Tryd.params8] at hA hval
  obtain ⟨v0, vs0, d0, ds0, p0, q0, hargs, rfl, rfl, h0, r0⟩ := trodAll_cons hA
  obtain ⟨v1, vs1, d1, ds1, p1, q1, rfl, rfl, rfl, h1, r1⟩ := trodAll_cons r0
  obtain ⟨v2, vs2, d2, ds2, p2, q2, rfl, rfl, rfl, h2, r2⟩ := trodAll_cons r1
  obtain ⟨v3, vs3, d3, ds3, p3, q3, rfl, rfl, rfl, h3, r3⟩ := trodAll_cons r2
  obtain ⟨v4, vs4, d4, ds4, p4, q4, rfl, rfl, rfl, h4, r4⟩ := trodAll_cons r3
  obtain ⟨rfl, rfl, rfl⟩ := trodAll_nil r4
  obtain rfl : args = #[v0, v1, v2, v3, v4] := by cases args; simp_all
  obtain ⟨g, rfl⟩ : ∃ g, gs = [g] := by obtain ⟨_, _, _, _, d, _, e, _⟩ := trodVars_one hV; exact ⟨d, e⟩
  have g0 := h0
  have lt0 : ∀ x ∈ p0, x.block < W.heap.size := by obtain ⟨m, hm⟩ := g0; exact DataW.trod_lt m _ _ _ hm
  have g1 := h1
  have lt1 : ∀ x ∈ p1, x.block < W.heap.size := by obtain ⟨m, hm⟩ := g1; exact DataW.trod_lt m _ _ _ hm
  have g2 := h2
  have lt2 : ∀ x ∈ p2, x.block < W.heap.size := by obtain ⟨m, hm⟩ := g2; exact DataW.trod_lt m _ _ _ hm
  have g3 := h3
  have lt3 : ∀ x ∈ p3, x.block < W.heap.size := by obtain ⟨m, hm⟩ := g3; exact DataW.trod_lt m _ _ _ hm
  have g4 := h4
  have lt4 : ∀ x ∈ p4, x.block < W.heap.size := by obtain ⟨m, hm⟩ := g4; exact DataW.trod_lt m _ _ _ hm
  obtain ⟨a0, rfl, rfl, rfl, w0⟩ := open_int Tryd.underlying2 (hval 0 2 v0 rfl rfl) h0
  obtain ⟨a1, rfl, rfl, rfl⟩ := open_bool Tryd.underlying4 (hval 1 4 v1 rfl rfl) h1
  obtain ⟨a2, rfl, rfl, rfl, w2⟩ := open_int Tryd.underlying2 (hval 2 2 v2 rfl rfl) h2
  obtain ⟨a3, len3, cap3, rfl⟩ := okWide_slice Tryd.underlying27 (hval 3 27 v3 rfl rfl)
  obtain ⟨z3, w3⟩ : ∃ zs, IsRow .i64 W a3 len3 cap3 zs := by
    obtain ⟨fuel, hf⟩ := h3
    rcases open_ints Tryd.underlying27 Tryd.underlying2 (by kernel_rfl) hf with ⟨hcs, _⟩ | ⟨x, l, c, zs, hcs, _, hl, hm, hz, _, hcell, hwz⟩
    · simp [Value.cells] at hcs
      obtain ⟨rfl, rfl, rfl⟩ := hcs
      exact ⟨[], .inl ⟨rfl, rfl, rfl, rfl⟩⟩
    · simp [Value.cells] at hcs
      obtain ⟨rfl, rfl, rfl⟩ := hcs
      exact ⟨zs, .inr ⟨_, rfl, hl, hm, by simpa using hz, hcell, hwz⟩⟩
  obtain ⟨a4, rfl, rfl, rfl, w4⟩ := open_int Tryd.underlying2 (hval 4 2 v4 rfl rfl) h4
  clear hA0 hval0
  refine (fnExactAcceptSlot_walk W (tab_of_laid hL) a0 w0 a1 a2 w2 a3 len3 cap3 z3 w3 a4 w4).mono fun e W' ⟨he, bel⟩ => ?_
  subst he
  exact ⟨_, rfl, _, _, _, [], _, _, hW', trodAll_mk1 (shut_bool Tryd.underlying4 _), (trodAll_cons_mk (Below.trod laidOut (by kernel_rfl) (of_decide_eq_true (by kernel_rfl)) g0 bel lt0) (trodAll_cons_mk (Below.trod laidOut (by kernel_rfl) (of_decide_eq_true (by kernel_rfl)) g1 bel lt1) (trodAll_cons_mk (Below.trod laidOut (by kernel_rfl) (of_decide_eq_true (by kernel_rfl)) g2 bel lt2) (trodAll_cons_mk (Below.trod laidOut (by kernel_rfl) (of_decide_eq_true (by kernel_rfl)) g3 bel lt3) (trodAll_cons_mk (Below.trod laidOut (by kernel_rfl) (of_decide_eq_true (by kernel_rfl)) g4 bel lt4) trodAll_mk0))))), Below.trodVars laidOut bel (by kernel_rfl) hV, bel.frame _, fun h => by cases h⟩

theorem fnExactAcceptSlot_row : Rows.FnExactAcceptSlotSaid :=
  OpenClaim.holds_of_wide 8 Tryd.f8 rfl rfl rfl rfl rfl rfl rfl ⟨rfl, rfl, rfl, rfl, rfl⟩ rfl rfl rfl rfl rfl (by kernel_rfl) Tryd.func8 (by kernel_rfl)
    (of_decide_eq_true (by kernel_rfl)) (by unfold Func.isWrapper; first | (rw [if_pos (by decide +kernel)]; kernel_rfl) | (rw [if_neg (by decide +kernel)]; exact ⟨rfl, rfl⟩))
    (fun os started H enc _ => fnExactAcceptSlot_lifted os started H enc)

theorem fnExactAcceptSlot_holds : Rows.FnExactAcceptSlotCardSaid :=
  Claim7.holds_tied_plain_at .later [] [.data] true Rows.fnExactAcceptSlotCard.stood.harness Rows.fnExactAcceptSlotCard.stood.looks
    fnExactAcceptSlot_row (fun _ h => by cases h) (by kernel_rfl) (fun _ h => by cases h) fnExactAcceptSlot_row_tie rfl ⟨rfl, rfl⟩ (by kernel_rfl) rfl
    (fun f fn hf hfn => by
      obtain rfl : f = 8 := Option.some.inj ((show Tryd.prog.funcNamed "loop.example/g00565/laws.FnExactAcceptSlot" = some 8 by kernel_rfl).symm.trans hf) |>.symm
      obtain rfl : fn = Tryd.f8 := (Option.some.inj (Tryd.func8.symm.trans hfn)).symm
      exact ⟨by kernel_rfl, fun j t ht => by
        rw [Tryd.params8] at ht
        have h3 : t = 4 ∨ t = 2 ∨ t = 27 := by
          match j, ht with
          | 0, ht => simp at ht; simp [← ht]
          | 1, ht => simp at ht; simp [← ht]
          | 2, ht => simp at ht; simp [← ht]
          | 3, ht => simp at ht; simp [← ht]
          | 4, ht => simp at ht; simp [← ht]
          | _ + 5, ht => simp at ht
        rcases h3 with rfl | rfl | rfl
        all_goals exact (show Tryd.prog.wantsStandIn _ = false by kernel_rfl)⟩)
    (by kernel_rfl)
#print axioms fnExactAcceptSlot_holds
end Go.Proofs.YtjjddjohckcmbaaDoor
