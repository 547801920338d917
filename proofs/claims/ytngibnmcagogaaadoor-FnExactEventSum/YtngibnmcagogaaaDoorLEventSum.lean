/- At every Event the program's EventSum answers as the specification's model of it and leaves its argument as it was; the table that begins pieces starts as the program's text lays it. -/
import Derived.Test.YtngibnmcagogaaaDoorEvSum
import Derived.Test.YtngibnmcagogaaaDoorMarkE
import Derived.Test.YtngibnmcagogaaaDoorEqInt
import Derived.Test.YtngibnmcagogaaaDoorAgg5
import Derived.Test.YtngibnmcagogaaaDoorDoor
import Derived.Deep.RegionHeld3
import Derived.Deep.DeepCutAuto
import Derived.Test.YtngibnmcagogaaaDoorDoor
namespace Go.Proofs.YtngibnmcagogaaaDoor
open Go.ChangeShapes Go.WideShapes Go.ChangeAt Go.RowKit
set_option linter.unusedVariables false
set_option linter.unusedSimpArgs false

set_option maxHeartbeats 4000000 in
theorem fnExactEventSum_walk (w : World) (hT : Tab w) (s0 v0 k0 x0 : Int) (a0 : Option Addr) (len0 cap0 : Nat) (z0 : List Int) (wx0 : (Lit.int .i64 x0).wf = true) (w0 : IsRow .u8 w a0 len0 cap0 z0) :
    Calls Tryd.prog 10 #[.agg #[.int .i64 s0, .int .i64 v0, .int .i64 k0, .int .i64 x0, .slice a0 len0 cap0]] w fun e w' => e = .returned (.bool true) ∧ Below w.heap.size w w' := by
  have hm : ∀ (k : IntKind) (a : Option Addr) (l c : Nat) (z : List Int), IsRow k w a l c z → l ≤ 9223372036854775807 := by
    intro k a l c z h
    rcases h with ⟨_, rfl, _, _⟩ | ⟨_, _, h1, h2, _⟩
    · omega
    · unfold maxLen at h2; omega
  have hl1 := hm _ _ _ _ _ w0
  have A0 := Has.of_row w0
  have bx := bounds_i64 wx0
  have hla := A0.1
  generalize z0.take len0 = zs at A0 hla
  subst hla
  clear w0 hm
  have FA : Hid (∀ wx : World, Below (w.heap.size + 1) (w.alloc (.cells #[.int .i64 s0, .int .i64 v0, .int .i64 k0, .int .i64 x0, .slice a0 zs.length cap0] 60)) wx → (wx.cell? ⟨w.heap.size, 0, none⟩ = some (.int .i64 s0) ∧ wx.cell? ⟨w.heap.size, 1, none⟩ = some (.int .i64 v0) ∧ wx.cell? ⟨w.heap.size, 2, none⟩ = some (.int .i64 k0) ∧ wx.cell? ⟨w.heap.size, 3, none⟩ = some (.int .i64 x0) ∧ wx.cell? ⟨w.heap.size, 4, none⟩ = some (.slice a0 zs.length cap0)) ∧ Has wx .u8 a0 zs.length zs ∧ Tab wx) := by
    intro wx h
    refine ⟨⟨?_, ?_, ?_, ?_, ?_⟩, (A0.alloc _).below h (by simp), (hT.alloc _).below h (by simp)⟩
    all_goals (refine (h.cell (by show w.heap.size < _; omega)).trans ?_; simp [go_sem])
  have SP : Hid (∀ (a : Option Addr) (c : Nat) (x : World), Has x .u8 a zs.length zs → Calls Tryd.prog 52 #[.agg #[.int .i64 s0, .int .i64 v0, .int .i64 k0, .int .i64 x0, .slice a zs.length c]] x fun r w' => r = .returned (.agg #[.int .i64 (evF s0 v0 k0 x0 zs.length), .int .i64 (esV s0 v0 k0 x0 zs)]) ∧ Below x.heap.size x w') := fun a c x h => specEventSum_any s0 v0 k0 x0 a c zs x h bx.1 bx.2 hl1
  have IM : Hid (∀ (a : Option Addr) (c : Nat) (x : World), Tab x → Has x .u8 a zs.length zs → Calls Tryd.prog 50 #[.agg #[.int .i64 s0, .int .i64 v0, .int .i64 k0, .int .i64 x0, .slice a zs.length c]] x fun r w' => r = .returned (.agg #[.int .i64 (evF s0 v0 k0 x0 zs.length), .int .i64 (esV s0 v0 k0 x0 zs)]) ∧ Below x.heap.size x w') := fun a c x t h => implEventSum_any s0 v0 k0 x0 a c zs x t h bx.1 bx.2 hl1
  generalize esV s0 v0 k0 x0 zs = vl at SP IM
  generalize evF s0 v0 k0 x0 zs.length = cd at SP IM
  clear A0 hT
  by_cases hbig : zs.length ≤ 1048576
  · have hif : (if (zs.length : Int) ≤ 1048576 then (1048576 : Int) - zs.length else -1) = 1048576 - zs.length := if_pos (by omega)
    have hnn : (0 : Int) ≤ 1048576 - zs.length := by omega
    go_enter Tryd.func10, Tryd.ntmps10
    go_wp2_with fail
    refine (szEventL_any s0 v0 k0 x0 a0 _ cap0 1048576 _ hl1 (by omega) (by omega)).mono ?_
    rintro r u1 ⟨rfl, hb1⟩
    rw [hif]
    have z1 := hb1.size
    simp at z1
    have P1 : Below (w.heap.size + 1) (w.alloc (.cells #[.int .i64 s0, .int .i64 v0, .int .i64 k0, .int .i64 x0, .slice a0 zs.length cap0] 60)) u1 := hb1.mono (by simp)
    obtain ⟨⟨c0, c1, c2, c3, c4⟩, A1, _⟩ := FA.out _ P1
    clear hb1
    go_wp2_with fail
    refine (toEventX_any s0 v0 k0 x0 a0 cap0 zs _ A1 hbig).mono ?_
    rintro r u2 ⟨g2, rfl, X2, gl2, gm2, hb2⟩
    have z2 := hb2.size
    have P2 := P1.trans (hb2.mono (by omega))
    clear c0 c1 c2 c3 c4 A1 hb2 P1 gl2 gm2
    go_wp2_with fail
    refine (SP.out _ _ _ X2).mono ?_
    rintro r u3 ⟨rfl, hb3⟩
    have z3 := hb3.size
    have P3 := P2.trans (hb3.mono (by omega))
    clear X2 P2 hb3
    obtain ⟨⟨c0, c1, c2, c3, c4⟩, A3, _⟩ := FA.out _ P3
    have q3 : w.heap.size < u3.heap.size := by omega
    go_wp2_with fail
    refine (toEventX_any s0 v0 k0 x0 a0 cap0 zs _ (A3.alloc _) hbig).mono ?_
    rintro r u4 ⟨g4, rfl, X4, gl4, gm4, hb4⟩
    have z4 := hb4.size
    simp at z4 gl4
    have P4 := (P3.alloc (by omega) (.cells #[.int .i64 cd, .int .i64 vl] 37)).trans (hb4.mono (by simp; omega))
    have r0 := (hb4.cell (p := ⟨u3.heap.size, 0, none⟩) (by simp)).trans (show _ = some (.int .i64 cd) by simp [go_sem])
    have r1 := (hb4.cell (p := ⟨u3.heap.size, 1, none⟩) (by simp)).trans (show _ = some (.int .i64 vl) by simp [go_sem])
    obtain ⟨_, _, T4⟩ := FA.out _ P4
    clear c0 c1 c2 c3 c4 A3 hb4
    have RR : Hid (u4.cell? ⟨u3.heap.size, 0, none⟩ = some (.int .i64 cd) ∧ u4.cell? ⟨u3.heap.size, 1, none⟩ = some (.int .i64 vl)) := ⟨r0, r1⟩
    clear r0 r1
    go_wp2_with fail
    refine (IM.out _ _ _ (T4.alloc _) (X4.alloc _)).mono ?_
    rintro r u5 ⟨rfl, hb5⟩
    have z5 := hb5.size
    simp at z5
    have VX : Hid (∀ wx : World, Below (u4.heap.size + 1) (u4.alloc (.cells #[.int .i64 s0, .int .i64 v0, .int .i64 k0, .int .i64 x0, .slice (some ⟨g4, 0, none⟩) zs.length zs.length] 46)) wx → (wx.cell? ⟨u4.heap.size, 0, none⟩ = some (.int .i64 s0) ∧ wx.cell? ⟨u4.heap.size, 1, none⟩ = some (.int .i64 v0) ∧ wx.cell? ⟨u4.heap.size, 2, none⟩ = some (.int .i64 k0) ∧ wx.cell? ⟨u4.heap.size, 3, none⟩ = some (.int .i64 x0) ∧ wx.cell? ⟨u4.heap.size, 4, none⟩ = some (.slice (some ⟨g4, 0, none⟩) zs.length zs.length)) ∧ Has wx .u8 (some ⟨g4, 0, none⟩) zs.length zs) := by
      intro wx h
      refine ⟨⟨?_, ?_, ?_, ?_, ?_⟩, (X4.alloc _).below h (by simp)⟩
      all_goals (refine (h.cell (by show u4.heap.size < _; omega)).trans ?_; simp [go_sem])
    have P5 := (P4.alloc (by omega) (.cells #[.int .i64 s0, .int .i64 v0, .int .i64 k0, .int .i64 x0, .slice (some ⟨g4, 0, none⟩) zs.length zs.length] 46)).trans (hb5.mono (by simp; omega))
    have X5 : Below (u4.heap.size + 1) (u4.alloc (.cells #[.int .i64 s0, .int .i64 v0, .int .i64 k0, .int .i64 x0, .slice (some ⟨g4, 0, none⟩) zs.length zs.length] 46)) u5 := hb5.mono (by simp)
    have R5 := ((Below.refl u4.heap.size u4).alloc (Nat.le_refl _) (.cells #[.int .i64 s0, .int .i64 v0, .int .i64 k0, .int .i64 x0, .slice (some ⟨g4, 0, none⟩) zs.length zs.length] 46)).trans (hb5.mono (by simp))
    have r0 := (R5.cell (p := ⟨u3.heap.size, 0, none⟩) (show u3.heap.size < _ by omega)).trans RR.out.1
    have r1 := (R5.cell (p := ⟨u3.heap.size, 1, none⟩) (show u3.heap.size < _ by omega)).trans RR.out.2
    have q5 : u3.heap.size < u5.heap.size := by omega
    clear hb5 P4 X4 T4 R5 RR
    go_wp2_with fail
    refine (eqInt_any cd vl _).mono ?_
    rintro r u6 ⟨rfl, hb6⟩
    have z6 := hb6.size
    simp at z6
    have P6 := (P5.alloc (by omega) (.cells #[.int .i64 cd, .int .i64 vl] 37)).trans (hb6.mono (by simp; omega))
    have X6 := (X5.alloc (by omega) (.cells #[.int .i64 cd, .int .i64 vl] 37)).trans (hb6.mono (by simp; omega))
    clear hb6 P5 X5 r0 r1
    have q6 : w.heap.size < u6.heap.size := by omega
    have q6' : u4.heap.size < u6.heap.size := by omega
    have K6 : Hid (∀ wx : World, Below u6.heap.size u6 wx → ((wx.cell? ⟨w.heap.size, 0, none⟩ = some (.int .i64 s0) ∧ wx.cell? ⟨w.heap.size, 1, none⟩ = some (.int .i64 v0) ∧ wx.cell? ⟨w.heap.size, 2, none⟩ = some (.int .i64 k0) ∧ wx.cell? ⟨w.heap.size, 3, none⟩ = some (.int .i64 x0) ∧ wx.cell? ⟨w.heap.size, 4, none⟩ = some (.slice a0 zs.length cap0)) ∧ (wx.cell? ⟨u4.heap.size, 0, none⟩ = some (.int .i64 s0) ∧ wx.cell? ⟨u4.heap.size, 1, none⟩ = some (.int .i64 v0) ∧ wx.cell? ⟨u4.heap.size, 2, none⟩ = some (.int .i64 k0) ∧ wx.cell? ⟨u4.heap.size, 3, none⟩ = some (.int .i64 x0) ∧ wx.cell? ⟨u4.heap.size, 4, none⟩ = some (.slice (some ⟨g4, 0, none⟩) zs.length zs.length))) ∧ Below u6.heap.size u6 wx) := fun wx h => by
      obtain ⟨h1, _⟩ := FA.out wx (P6.trans (h.mono (by omega)))
      obtain ⟨h3, _⟩ := VX.out wx (X6.trans (h.mono (by omega)))
      exact ⟨⟨h1, h3⟩, h⟩
    go_wp2
    have D0 : Below u6.heap.size u6 u6.drew := (Below.refl _ _).drew
    obtain ⟨_, A8, _⟩ := FA.out _ (P6.trans (D0.mono (by omega)))
    obtain ⟨_, Y8⟩ := VX.out _ (X6.trans (D0.mono (by omega)))
    have HH : Hid (Has u6.drew .u8 (some ⟨g4, 0, none⟩) zs.length zs) := Y8
    have HA : Hid (Has u6.drew .u8 a0 zs.length zs) := A8
    clear Y8 A8
    go_region_held3 (fun wx => ((wx.cell? ⟨w.heap.size, 0, none⟩ = some (.int .i64 s0) ∧ wx.cell? ⟨w.heap.size, 1, none⟩ = some (.int .i64 v0) ∧ wx.cell? ⟨w.heap.size, 2, none⟩ = some (.int .i64 k0) ∧ wx.cell? ⟨w.heap.size, 3, none⟩ = some (.int .i64 x0) ∧ wx.cell? ⟨w.heap.size, 4, none⟩ = some (.slice a0 zs.length cap0)) ∧ (wx.cell? ⟨u4.heap.size, 0, none⟩ = some (.int .i64 s0) ∧ wx.cell? ⟨u4.heap.size, 1, none⟩ = some (.int .i64 v0) ∧ wx.cell? ⟨u4.heap.size, 2, none⟩ = some (.int .i64 k0) ∧ wx.cell? ⟨u4.heap.size, 3, none⟩ = some (.int .i64 x0) ∧ wx.cell? ⟨u4.heap.size, 4, none⟩ = some (.slice (some ⟨g4, 0, none⟩) zs.length zs.length))) ∧ Below u6.heap.size u6 wx)
      ((first | exact K6.out _ D0 | exact K6.out _ D1 | exact K6.out _ D2))
      (first | ((go_at_call 53; refine (toEventX_any s0 v0 k0 x0 a0 cap0 zs _ HA.out hbig).mono ?_; rintro r u7 ⟨g7, rfl, X7, gl7, gm7, hb7⟩; have D1 := D0.trans (hb7.mono D0.size); have Y9 := HH.out.below hb7 (Nat.le_refl _))) | ((go_at_call 54; refine (eqEvent_any s0 v0 k0 x0 _ _ _ _ zs _ Y9 X7 hbig).mono ?_; rintro r u8 ⟨rfl, hb8⟩; have D2 := D1.trans (hb8.mono D1.size))))
    go_wp2
    go_ret
    refine ⟨rfl, ?_⟩
    exact ((Below.refl w.heap.size w).alloc (Nat.le_refl _) (.cells #[.int .i64 s0, .int .i64 v0, .int .i64 k0, .int .i64 x0, .slice a0 zs.length cap0] 60)).trans ((P6.trans (D2.mono (by omega))).mono (by omega))
  · have hif : (if (zs.length : Int) ≤ 1048576 then (1048576 : Int) - zs.length else -1) = -1 := if_neg (by omega)
    go_enter Tryd.func10, Tryd.ntmps10
    go_wp2_with fail
    refine (szEventL_any s0 v0 k0 x0 a0 _ cap0 1048576 _ hl1 (by omega) (by omega)).mono ?_
    rintro r u1 ⟨rfl, hb1⟩
    rw [hif]
    go_wp2
    go_ret
    exact ⟨rfl, ((Below.refl w.heap.size w).alloc (Nat.le_refl _) _).trans (hb1.mono (by simp))⟩

set_option maxRecDepth 100000 in
theorem fnExactEventSum_lifted (os : Os) (started : os.Started) (H : Type) (enc : TypeId × Value → H) :
    ReturnsInHanded {} Tryd.checked os 10 .any (fun w args => (Rows.fnExactEventSumSpec.pre enc Tryd.prog Tryd.f10 [] false w args ∧ laidMetH Tryd.prog [("loop.example/g00565/impl.pieceStarts", Rows.laid_loop_example_g00565_impl_pieceStarts)] w) ∧ sizedMet enc Tryd.prog Tryd.f10 (OpenSpec.ofChange Rows.fnExactEventSumSpec) false w args) (Rows.fnExactEventSumSpec.post enc Tryd.prog Tryd.f10 false true false false) := by
  refine returnsInHanded_of_change_and (C := Tryd.checked) (X := fun w _ => laidMetH Tryd.prog [("loop.example/g00565/impl.pieceStarts", Rows.laid_loop_example_g00565_impl_pieceStarts)] w) (fun _ _ _ hh h => h.of_heap hh) own started (by kernel_rfl) Tryd.func10
    (ChangeSpec.witness_shaped (enc := enc) (C := Tryd.checked) (os := os) (X := fun w _ => laidMetH Tryd.prog [("loop.example/g00565/impl.pieceStarts", Rows.laid_loop_example_g00565_impl_pieceStarts)] w) false (World.doorLaid Tryd.prog 400 os) #[.agg #[.int .i64 0, .int .i64 0, .int .i64 0, .int .i64 0, .slice none 0 0]] 8 rfl (World.shaped_of_RefB (by kernel_rfl) (by kernel_rfl)) (by kernel_rfl) (by kernel_rfl) (by kernel_rfl) (door_met os _)) ?_
  intro W base args ds gs before hval0 hW _ _ hL _
  have hval : ∀ (j : Nat) t v, Tryd.f10.params[j]? = some t → args[j]? = some v → Value.okWide Tryd.prog W .any base t v := hval0
  have hW' := hW
  obtain ⟨p, q, hA0, hV, rfl, hfz, hnd⟩ := hW
  have hA : DataW.TrodAll enc Tryd.prog W 0 (fun _ => true) true Tryd.f10.params.toList args.toList ds p := hA0
  rw [Tryd.params10] at hA hval
  obtain ⟨v0, vs0, d0, ds0, p0, q0, hargs, rfl, rfl, h0, r0⟩ := trodAll_cons hA
  obtain ⟨rfl, rfl, rfl⟩ := trodAll_nil r0
  obtain rfl : args = #[v0] := by cases args; simp_all
  obtain ⟨g, rfl⟩ : ∃ g, gs = [g] := by obtain ⟨_, _, _, _, d, _, e, _⟩ := trodVars_one hV; exact ⟨d, e⟩
  have g0 := h0
  have lt0 : ∀ x ∈ p0, x.block < W.heap.size := by obtain ⟨m, hm⟩ := g0; exact DataW.trod_lt m _ _ _ hm
  obtain ⟨t0, t1, t2, t3, t4, y0, y1, y2, y3, y4, fu, rfl, hy0, hy1, hy2, hy3, hy4⟩ := open_five Tryd.underlying60 (by kernel_rfl) (by kernel_rfl) (hval 0 60 v0 rfl rfl) h0
  obtain ⟨s0, q0, rfl, ws0⟩ := DataW.trod_int Tryd.underlying2 hy0
  obtain ⟨v0, q1, rfl, wv0⟩ := DataW.trod_int Tryd.underlying2 hy1
  obtain ⟨k0, q2, rfl, wk0⟩ := DataW.trod_int Tryd.underlying2 hy2
  obtain ⟨x0, q3, rfl, wx0⟩ := DataW.trod_int Tryd.underlying2 hy3
  obtain ⟨a0, len0, cap0, z0, q4, w0⟩ := row_of_trod Tryd.underlying22 Tryd.underlying5 (by kernel_rfl) hy4
  simp at q0 q1 q2 q3
  subst q0 q1 q2 q3 q4
  clear hA0 hval0
  refine (fnExactEventSum_walk W (tab_of_laid hL) s0 v0 k0 x0 a0 len0 cap0 z0 wx0 w0).mono fun e W' ⟨he, bel⟩ => ?_
  subst he
  exact ⟨_, rfl, _, _, _, [], _, _, hW', trodAll_mk1 (shut_bool Tryd.underlying4 _), (trodAll_cons_mk (Below.trod laidOut (by kernel_rfl) (of_decide_eq_true (by kernel_rfl)) g0 bel lt0) trodAll_mk0), Below.trodVars laidOut bel (by kernel_rfl) hV, bel.frame _, fun h => by cases h⟩

theorem fnExactEventSum_row : Rows.FnExactEventSumSaid :=
  OpenClaim.holds_of_wide 10 Tryd.f10 rfl rfl rfl rfl rfl rfl rfl ⟨rfl, rfl, rfl, rfl, rfl⟩ rfl rfl rfl rfl rfl (by kernel_rfl) Tryd.func10 (by kernel_rfl)
    (of_decide_eq_true (by kernel_rfl)) (by unfold Func.isWrapper; first | (rw [if_pos (by decide +kernel)]; kernel_rfl) | (rw [if_neg (by decide +kernel)]; exact ⟨rfl, rfl⟩))
    (fun os started H enc _ => fnExactEventSum_lifted os started H enc)

theorem fnExactEventSum_holds : Rows.FnExactEventSumCardSaid :=
  Claim7.holds_tied_plain_at .later [] [.data] true Rows.fnExactEventSumCard.stood.harness false
    fnExactEventSum_row (fun _ h => by cases h) (by kernel_rfl) (fun _ h => by cases h) fnExactEventSum_row_tie rfl ⟨rfl, rfl⟩ (by kernel_rfl) rfl
    (fun f fn hf hfn => by
      obtain rfl : f = 10 := Option.some.inj ((show Tryd.prog.funcNamed "loop.example/g00565/laws.FnExactEventSum" = some 10 by kernel_rfl).symm.trans hf) |>.symm
      obtain rfl : fn = Tryd.f10 := (Option.some.inj (Tryd.func10.symm.trans hfn)).symm
      exact ⟨by kernel_rfl, fun j t ht => by
        rw [Tryd.params10] at ht
        have h3 : t = 60 := by
          match j, ht with
          | 0, ht => simp at ht; simp [← ht]
          | _ + 1, ht => simp at ht
        rcases h3 with rfl
        all_goals exact (show Tryd.prog.wantsStandIn _ = false by kernel_rfl)⟩)
    (by kernel_rfl)
#print axioms fnExactEventSum_holds
end Go.Proofs.YtngibnmcagogaaaDoor
