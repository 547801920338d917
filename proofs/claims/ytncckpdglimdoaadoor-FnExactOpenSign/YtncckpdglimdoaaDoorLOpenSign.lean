/- At every signature and number the program's OpenSign answers as the specification's model of it, and leaves the signature as it was. -/
import Derived.Test.YtncckpdglimdoaaDoorKyOp
import Derived.Test.YtncckpdglimdoaaDoorKyO
import Derived.Test.YtncckpdglimdoaaDoorKyE
import Derived.Test.YtncckpdglimdoaaDoorEqInt
import Derived.Test.YtncckpdglimdoaaDoorMarkE
import Derived.Test.YtncckpdglimdoaaDoorDoor
import Derived.Deep.RegionHeld3
import Derived.Deep.DeepCutAuto
import Derived.Test.YtncckpdglimdoaaDoorDoor
namespace Go.Proofs.YtncckpdglimdoaaDoor
open Go.ChangeShapes Go.WideShapes Go.ChangeAt Go.RowKit
set_option linter.unusedVariables false
set_option linter.unusedSimpArgs false

set_option maxRecDepth 100000 in
set_option maxHeartbeats 8000000 in
theorem fnExactOpenSign_walk (w : World) (hT : Tab w) (i0 : Int) (a0 b0 : Option Addr) (la0 ca0 lb0 cb0 : Nat) (z0 y0 : List Int) (wi0 : (Lit.int .i64 i0).wf = true) (wa0 : IsRow .i64 w a0 la0 ca0 z0) (wb0 : IsRow .i64 w b0 lb0 cb0 y0) (a1 : Int) (w1 : (Lit.int .i64 a1).wf = true) :
    Calls Tryd.prog 10 #[.agg #[.int .i64 i0, .slice a0 la0 ca0, .slice b0 lb0 cb0], .int .i64 a1] w fun e w' => e = .returned (.bool true) ∧ Below w.heap.size w w' := by
  have hm : ∀ (k : IntKind) (a : Option Addr) (l c : Nat) (z : List Int), IsRow k w a l c z → l ≤ 9223372036854775807 := by
    intro k a l c z h
    rcases h with ⟨_, rfl, _, _⟩ | ⟨_, _, h1, h2, _⟩
    · omega
    · unfold maxLen at h2; omega
  have hl1 := hm _ _ _ _ _ wa0
  have hl2 := hm _ _ _ _ _ wb0
  have Ash := Has.of_row wa0
  have hla := Ash.1
  generalize z0.take la0 = sh at Ash hla
  subst hla
  clear wa0
  have Aot := Has.of_row wb0
  have hla := Aot.1
  generalize y0.take lb0 = ot at Aot hla
  subst hla
  clear wb0
  clear hm
  have FA : Hid (∀ wx : World, Below (w.heap.size + 1) (w.alloc (.cells #[.int .i64 i0, .slice a0 sh.length ca0, .slice b0 ot.length cb0] 65)) wx → (wx.cell? ⟨w.heap.size, 0, none⟩ = some (.int .i64 i0) ∧ wx.cell? ⟨w.heap.size, 1, none⟩ = some (.slice a0 sh.length ca0) ∧ wx.cell? ⟨w.heap.size, 2, none⟩ = some (.slice b0 ot.length cb0)) ∧ (Has wx .i64 a0 sh.length sh ∧ Has wx .i64 b0 ot.length ot) ∧ Tab wx) := by
    intro wx h
    refine ⟨⟨?_, ?_, ?_⟩, ⟨(Ash.alloc _).below h (by simp), (Aot.alloc _).below h (by simp)⟩, (hT.alloc _).below h (by simp)⟩
    all_goals (refine (h.cell (by show w.heap.size < _; omega)).trans ?_; simp [go_sem])
  clear Ash Aot hT
  by_cases hbig : sh.length + ot.length ≤ 1048576
  case pos =>
    have s1 : sh.length ≤ 1048576 := by omega
    have s2 : ot.length ≤ 1048576 := by omega
    obtain ⟨cd, hcd⟩ : ∃ c, c = opC i0 sh ot a1 := ⟨_, rfl⟩
    obtain ⟨cv, hcv⟩ : ∃ c, c = opV i0 sh ot a1 := ⟨_, rfl⟩
    have SP : Hid (∀ (a : Option Addr) (c : Nat) (b : Option Addr) (d : Nat) (x : World), Has x .i64 a sh.length sh → Has x .i64 b ot.length ot → Calls Tryd.prog 34 #[.agg #[.int .i64 i0, .slice a sh.length c, .slice b ot.length d], .int .i64 a1] x fun r w' => r = .returned (.agg #[.int .i64 cd, .int .i64 cv]) ∧ Below x.heap.size x w') := by
      show ∀ (a : Option Addr) (c : Nat) (b : Option Addr) (d : Nat) (x : World), Has x .i64 a sh.length sh → Has x .i64 b ot.length ot → Calls Tryd.prog 34 #[.agg #[.int .i64 i0, .slice a sh.length c, .slice b ot.length d], .int .i64 a1] x fun r w' => r = .returned (.agg #[.int .i64 cd, .int .i64 cv]) ∧ Below x.heap.size x w'
      rw [hcv, hcd]
      exact fun a c b d x hs ho => specOpenSign_any i0 a1 a b c d sh ot x hs ho s1 s2
    have IM : Hid (∀ (a : Option Addr) (c : Nat) (b : Option Addr) (d : Nat) (x : World), Tab x → Has x .i64 a sh.length sh → Has x .i64 b ot.length ot → Calls Tryd.prog 27 #[.agg #[.int .i64 i0, .slice a sh.length c, .slice b ot.length d], .int .i64 a1] x fun r w' => r = .returned (.agg #[.int .i64 cd, .int .i64 cv]) ∧ Below x.heap.size x w') := by
      show ∀ (a : Option Addr) (c : Nat) (b : Option Addr) (d : Nat) (x : World), Tab x → Has x .i64 a sh.length sh → Has x .i64 b ot.length ot → Calls Tryd.prog 27 #[.agg #[.int .i64 i0, .slice a sh.length c, .slice b ot.length d], .int .i64 a1] x fun r w' => r = .returned (.agg #[.int .i64 cd, .int .i64 cv]) ∧ Below x.heap.size x w'
      rw [hcv, hcd]
      exact fun a c b d x t hs ho => implOpenSign_any i0 a1 a b c d sh ot x t hs ho s1 s2
    clear hcv hcd
    have hif : (if sh.length + ot.length ≤ 1048576 then (1048576 : Int) - sh.length - ot.length else -1) = 1048576 - sh.length - ot.length := if_pos hbig
    have hnn : (0 : Int) ≤ 1048576 - sh.length - ot.length := by omega
    clear hbig
    go_enter Tryd.func10, Tryd.ntmps10
    go_wp2_with fail
    refine (szSign_any i0 a0 b0 _ _ ca0 cb0 _ hl1 hl2).mono ?_
    rintro r u1 ⟨rfl, hb1⟩
    rw [hif]
    have z1 := hb1.size
    simp at z1
    have P1 : Below (w.heap.size + 1) (w.alloc (.cells #[.int .i64 i0, .slice a0 sh.length ca0, .slice b0 ot.length cb0] 65)) u1 := hb1.mono (by simp)
    obtain ⟨⟨c0, c1, c2⟩, A1, _⟩ := FA.out _ P1
    clear hb1
    go_wp2_with fail
    refine (toSign_any i0 a0 b0 ca0 cb0 sh ot _ A1.1 A1.2 s1 s2).mono ?_
    rintro r u2 ⟨g2, k2, rfl, X2, Y2, _, _, gm2, hb2⟩
    have z2 := hb2.size
    have P2 := P1.trans (hb2.mono (by omega))
    clear c0 c1 c2 A1 hb2 P1 gm2
    go_wp2_with fail
    refine (SP.out _ _ _ _ _ X2 Y2).mono ?_
    rintro r u3 ⟨rfl, hb3⟩
    have z3 := hb3.size
    have P3 := P2.trans (hb3.mono (by omega))
    clear X2 Y2 P2 hb3
    obtain ⟨⟨c0, c1, c2⟩, A3, _⟩ := FA.out _ P3
    have q3 : w.heap.size < u3.heap.size := by omega
    go_wp2_with fail
    refine (toSign_any i0 a0 b0 ca0 cb0 sh ot _ (A3.1.alloc _) (A3.2.alloc _) s1 s2).mono ?_
    rintro r u4 ⟨g4, k4, rfl, X4, Y4, gl4, gn4, gm4, hb4⟩
    have z4 := hb4.size
    simp at z4 gl4
    have P4 := (P3.alloc (by omega) (.cells #[.int .i64 cd, .int .i64 cv] 38)).trans (hb4.mono (by simp; omega))
    have r0 := (hb4.cell (p := ⟨u3.heap.size, 0, none⟩) (by simp)).trans (show _ = some (.int .i64 cd) by simp [go_sem])
    have r1 := (hb4.cell (p := ⟨u3.heap.size, 1, none⟩) (by simp)).trans (show _ = some (.int .i64 cv) by simp [go_sem])
    have RR : Hid (u4.cell? ⟨u3.heap.size, 0, none⟩ = some (.int .i64 cd) ∧ u4.cell? ⟨u3.heap.size, 1, none⟩ = some (.int .i64 cv)) := ⟨r0, r1⟩
    clear r0 r1
    have T4 := (FA.out _ P4).2.2
    have E4 : Below (w.heap.size + 1) (w.alloc (.cells #[.int .i64 i0, .slice a0 sh.length ca0, .slice b0 ot.length cb0] 65)) (u4.alloc (.cells #[.int .i64 i0, .slice (some ⟨g4, 0, none⟩) sh.length sh.length, .slice (some ⟨k4, 0, none⟩) ot.length ot.length] 28)) := P4.alloc (by omega) _
    clear c0 c1 c2 A3 hb4 gl4 gn4 gm4
    go_wp2_with fail
    refine (IM.out _ _ _ _ _ (T4.alloc _) (X4.alloc _) (Y4.alloc _)).mono ?_
    rintro r u5 ⟨rfl, hb5⟩
    have z5 := hb5.size
    simp at z5
    have G5 : Below (u4.heap.size + 1) (u4.alloc (.cells #[.int .i64 i0, .slice (some ⟨g4, 0, none⟩) sh.length sh.length, .slice (some ⟨k4, 0, none⟩) ot.length ot.length] 28)) u5 := hb5.mono (by simp)
    have P5 := E4.trans (hb5.mono (by simp; omega))
    clear hb5 E4
    have VX : Hid (∀ wx : World, Below (u4.heap.size + 1) (u4.alloc (.cells #[.int .i64 i0, .slice (some ⟨g4, 0, none⟩) sh.length sh.length, .slice (some ⟨k4, 0, none⟩) ot.length ot.length] 28)) wx → (wx.cell? ⟨u4.heap.size, 0, none⟩ = some (.int .i64 i0) ∧ wx.cell? ⟨u4.heap.size, 1, none⟩ = some (.slice (some ⟨g4, 0, none⟩) sh.length sh.length) ∧ wx.cell? ⟨u4.heap.size, 2, none⟩ = some (.slice (some ⟨k4, 0, none⟩) ot.length ot.length)) ∧ Has wx .i64 (some ⟨g4, 0, none⟩) sh.length sh ∧ Has wx .i64 (some ⟨k4, 0, none⟩) ot.length ot) := by
      intro wx h
      refine ⟨⟨?_, ?_, ?_⟩, (X4.alloc _).below h (by simp), (Y4.alloc _).below h (by simp)⟩
      all_goals (refine (h.cell (by show u4.heap.size < _; omega)).trans ?_; simp [go_sem])
    clear X4 Y4 P4 T4
    have R5 : Below u4.heap.size u4 u5 := ((Below.refl u4.heap.size u4).alloc (Nat.le_refl _) (.cells #[.int .i64 i0, .slice (some ⟨g4, 0, none⟩) sh.length sh.length, .slice (some ⟨k4, 0, none⟩) ot.length ot.length] 28)).trans (G5.mono (by omega))
    have r0 := (R5.cell (p := ⟨u3.heap.size, 0, none⟩) (show u3.heap.size < _ by omega)).trans RR.out.1
    have r1 := (R5.cell (p := ⟨u3.heap.size, 1, none⟩) (show u3.heap.size < _ by omega)).trans RR.out.2
    have q5 : u3.heap.size < u5.heap.size := by omega
    clear R5 RR
    go_wp2_with fail
    refine (eqInt_any cd cv _).mono ?_
    rintro r u6 ⟨rfl, hb6⟩
    have z6 := hb6.size
    simp at z6
    have P6 := (P5.alloc (by omega) (.cells #[.int .i64 cd, .int .i64 cv] 38)).trans (hb6.mono (by simp; omega))
    have G6 := (G5.alloc (by omega) (.cells #[.int .i64 cd, .int .i64 cv] 38)).trans (hb6.mono (by simp; omega))
    clear hb6 P5 G5 r0 r1
    have q6 : w.heap.size < u6.heap.size := by omega
    have q7 : u4.heap.size < u6.heap.size := by omega
    have K6 : Hid (∀ wx : World, Below u6.heap.size u6 wx → ((wx.cell? ⟨w.heap.size, 0, none⟩ = some (.int .i64 i0) ∧ wx.cell? ⟨w.heap.size, 1, none⟩ = some (.slice a0 sh.length ca0) ∧ wx.cell? ⟨w.heap.size, 2, none⟩ = some (.slice b0 ot.length cb0)) ∧ (wx.cell? ⟨u4.heap.size, 0, none⟩ = some (.int .i64 i0) ∧ wx.cell? ⟨u4.heap.size, 1, none⟩ = some (.slice (some ⟨g4, 0, none⟩) sh.length sh.length) ∧ wx.cell? ⟨u4.heap.size, 2, none⟩ = some (.slice (some ⟨k4, 0, none⟩) ot.length ot.length))) ∧ Below u6.heap.size u6 wx) := fun wx h => by
      have h1 := FA.out wx (P6.trans (h.mono (by omega)))
      have h3 := VX.out wx (G6.trans (h.mono (by omega)))
      exact ⟨⟨h1.1, h3.1⟩, h⟩
    go_wp2
    have D0 : Below u6.heap.size u6 u6.drew := (Below.refl _ _).drew
    have A8 := (FA.out _ (P6.trans (D0.mono (by omega)))).2.1
    have Y8 := (VX.out _ (G6.trans (D0.mono (by omega)))).2
    have HH : Hid (Has u6.drew .i64 (some ⟨g4, 0, none⟩) sh.length sh ∧ Has u6.drew .i64 (some ⟨k4, 0, none⟩) ot.length ot) := ⟨Y8.1, Y8.2⟩
    have HA : Hid (Has u6.drew .i64 a0 sh.length sh ∧ Has u6.drew .i64 b0 ot.length ot) := ⟨A8.1, A8.2⟩
    clear Y8 A8
    go_region_held3 (fun wx => ((wx.cell? ⟨w.heap.size, 0, none⟩ = some (.int .i64 i0) ∧ wx.cell? ⟨w.heap.size, 1, none⟩ = some (.slice a0 sh.length ca0) ∧ wx.cell? ⟨w.heap.size, 2, none⟩ = some (.slice b0 ot.length cb0)) ∧ (wx.cell? ⟨u4.heap.size, 0, none⟩ = some (.int .i64 i0) ∧ wx.cell? ⟨u4.heap.size, 1, none⟩ = some (.slice (some ⟨g4, 0, none⟩) sh.length sh.length) ∧ wx.cell? ⟨u4.heap.size, 2, none⟩ = some (.slice (some ⟨k4, 0, none⟩) ot.length ot.length))) ∧ Below u6.heap.size u6 wx)
      ((first | exact K6.out _ D0 | exact K6.out _ D1 | exact K6.out _ D2))
      (first | ((go_at_call 48; refine (toSign_any i0 a0 b0 ca0 cb0 sh ot _ HA.out.1 HA.out.2 s1 s2).mono ?_; rintro r u7 ⟨g7, k7, rfl, X7, Y7, gl7, gn7, gm7, hb7⟩; have D1 := D0.trans (hb7.mono D0.size); have Y9 := HH.out.1.below hb7 (Nat.le_refl _); have Z9 := HH.out.2.below hb7 (Nat.le_refl _))) | ((go_at_call 49; refine (eqSign_any i0 _ _ _ _ _ _ _ _ sh ot _ Y9 Z9 X7 Y7 s1 s2).mono ?_; rintro r u8 ⟨rfl, hb8⟩; have D2 := D1.trans (hb8.mono D1.size))))
    go_wp2
    go_ret
    refine ⟨rfl, ?_⟩
    exact ((Below.refl w.heap.size w).alloc (Nat.le_refl _) (.cells #[.int .i64 i0, .slice a0 sh.length ca0, .slice b0 ot.length cb0] 65)).trans ((P6.trans (D2.mono (by omega))).mono (by omega))
  case neg =>
    have hif : (if sh.length + ot.length ≤ 1048576 then (1048576 : Int) - sh.length - ot.length else -1) = -1 := if_neg hbig
    clear hbig
    go_enter Tryd.func10, Tryd.ntmps10
    go_wp2_with fail
    refine (szSign_any i0 a0 b0 _ _ ca0 cb0 _ hl1 hl2).mono ?_
    rintro r u1 ⟨rfl, hb1⟩
    rw [hif]
    go_wp2
    go_ret
    exact ⟨rfl, ((Below.refl w.heap.size w).alloc (Nat.le_refl _) _).trans (hb1.mono (by simp))⟩

set_option maxRecDepth 100000 in
theorem fnExactOpenSign_lifted (os : Os) (started : os.Started) (H : Type) (enc : TypeId × Value → H) :
    ReturnsInHanded {} Tryd.checked os 10 .any (fun w args => (Rows.fnExactOpenSignSpec.pre enc Tryd.prog Tryd.f10 [] false w args ∧ laidMetH Tryd.prog [("loop.example/g00565/impl.pieceStarts", Rows.laid_loop_example_g00565_impl_pieceStarts)] w) ∧ sizedMet enc Tryd.prog Tryd.f10 (OpenSpec.ofChange Rows.fnExactOpenSignSpec) false w args) (Rows.fnExactOpenSignSpec.post enc Tryd.prog Tryd.f10 false true false false) := by
  refine returnsInHanded_of_change_and (C := Tryd.checked) (X := fun w _ => laidMetH Tryd.prog [("loop.example/g00565/impl.pieceStarts", Rows.laid_loop_example_g00565_impl_pieceStarts)] w) (fun _ _ _ hh h => h.of_heap hh) own started (by kernel_rfl) Tryd.func10
    (ChangeSpec.witness_shaped (enc := enc) (C := Tryd.checked) (os := os) (X := fun w _ => laidMetH Tryd.prog [("loop.example/g00565/impl.pieceStarts", Rows.laid_loop_example_g00565_impl_pieceStarts)] w) false (World.doorLaid Tryd.prog 400 os) #[.agg #[.int .i64 0, .slice none 0 0, .slice none 0 0], .int .i64 0] 8 rfl (World.shaped_of_RefB (by kernel_rfl) (by kernel_rfl)) (by kernel_rfl) (by kernel_rfl) (by kernel_rfl) (door_met os _)) ?_
  intro W base args ds gs before hval0 hW _ _ hL _
  have hval : ∀ (j : Nat) t v, Tryd.f10.params[j]? = some t → args[j]? = some v → Value.okWide Tryd.prog W .any base t v := hval0
  have hW' := hW
  obtain ⟨p, q, hA0, hV, rfl, hfz, hnd⟩ := hW
  have hA : DataW.TrodAll enc Tryd.prog W 0 (fun _ => true) true Tryd.f10.params.toList args.toList ds p := hA0
  rw [Tryd.params10] at hA hval
  obtain ⟨v0, vs0, d0, ds0, p0, q0, hargs, rfl, rfl, h0, r0⟩ := trodAll_cons hA
  obtain ⟨v1, vs1, d1, ds1, p1, q1, rfl, rfl, rfl, h1, r1⟩ := trodAll_cons r0
  obtain ⟨rfl, rfl, rfl⟩ := trodAll_nil r1
  obtain rfl : args = #[v0, v1] := by cases args; simp_all
  obtain ⟨g, rfl⟩ : ∃ g, gs = [g] := by obtain ⟨_, _, _, _, d, _, e, _⟩ := trodVars_one hV; exact ⟨d, e⟩
  have g0 := h0
  have lt0 : ∀ x ∈ p0, x.block < W.heap.size := by obtain ⟨m, hm⟩ := g0; exact DataW.trod_lt m _ _ _ hm
  have g1 := h1
  have lt1 : ∀ x ∈ p1, x.block < W.heap.size := by obtain ⟨m, hm⟩ := g1; exact DataW.trod_lt m _ _ _ hm
  obtain ⟨t0, t1, t2, y0, y1, y2, fu, rfl, rfl, rfl, hy0, hy1, hy2⟩ := Go.Joins.open_agg3 Tryd.underlying65 (by kernel_rfl) (by kernel_rfl) (hval 0 65 v0 rfl rfl) h0
  obtain ⟨i0, q0, rfl, wi0⟩ := DataW.trod_int Tryd.underlying2 hy0
  obtain ⟨a0, la0, ca0, z0, q1, wa0⟩ := row_of_trod Tryd.underlying26 Tryd.underlying2 (by kernel_rfl) hy1
  obtain ⟨b0, lb0, cb0, y0, q2, wb0⟩ := row_of_trod Tryd.underlying26 Tryd.underlying2 (by kernel_rfl) hy2
  simp at q0
  subst q0 q1 q2
  obtain ⟨a1, rfl, rfl, rfl, w1⟩ := open_int Tryd.underlying2 (hval 1 2 v1 rfl rfl) h1
  clear hA0 hval0
  refine (fnExactOpenSign_walk W (tab_of_laid hL) i0 a0 b0 la0 ca0 lb0 cb0 z0 y0 wi0 wa0 wb0 a1 w1).mono fun e W' ⟨he, bel⟩ => ?_
  subst he
  exact ⟨_, rfl, _, _, _, [], _, _, hW', trodAll_mk1 (shut_bool Tryd.underlying4 _), (trodAll_cons_mk (Below.trod laidOut (by kernel_rfl) (of_decide_eq_true (by kernel_rfl)) g0 bel lt0) (trodAll_cons_mk (Below.trod laidOut (by kernel_rfl) (of_decide_eq_true (by kernel_rfl)) g1 bel lt1) trodAll_mk0)), Below.trodVars laidOut bel (by kernel_rfl) hV, bel.frame _, fun h => by cases h⟩

theorem fnExactOpenSign_row : Rows.FnExactOpenSignSaid :=
  OpenClaim.holds_of_wide 10 Tryd.f10 rfl rfl rfl rfl rfl rfl rfl ⟨rfl, rfl, rfl, rfl, rfl⟩ rfl rfl rfl rfl rfl (by kernel_rfl) Tryd.func10 (by kernel_rfl)
    (of_decide_eq_true (by kernel_rfl)) (by unfold Func.isWrapper; first | (rw [if_pos (by decide +kernel)]; kernel_rfl) | (rw [if_neg (by decide +kernel)]; exact ⟨rfl, rfl⟩))
    (fun os started H enc _ => fnExactOpenSign_lifted os started H enc)

theorem fnExactOpenSign_holds : Rows.FnExactOpenSignCardSaid :=
  Claim7.holds_tied_plain_at .later [] [.data] true Rows.fnExactOpenSignCard.stood.harness Rows.fnExactOpenSignCard.stood.looks
    fnExactOpenSign_row (fun _ h => by cases h) (by kernel_rfl) (fun _ h => by cases h) fnExactOpenSign_row_tie rfl ⟨rfl, rfl⟩ (by kernel_rfl) rfl
    (fun f fn hf hfn => by
      obtain rfl : f = 10 := Option.some.inj ((show Tryd.prog.funcNamed "loop.example/g00565/laws.FnExactOpenSign" = some 10 by kernel_rfl).symm.trans hf) |>.symm
      obtain rfl : fn = Tryd.f10 := (Option.some.inj (Tryd.func10.symm.trans hfn)).symm
      exact ⟨by kernel_rfl, fun j t ht => by
        rw [Tryd.params10] at ht
        have h3 : t = 2 ∨ t = 65 := by
          match j, ht with
          | 0, ht => simp at ht; simp [← ht]
          | 1, ht => simp at ht; simp [← ht]
          | _ + 2, ht => simp at ht
        rcases h3 with rfl | rfl
        all_goals exact (show Tryd.prog.wantsStandIn _ = false by kernel_rfl)⟩)
    (by kernel_rfl)
#print axioms fnExactOpenSign_holds
end Go.Proofs.YtncckpdglimdoaaDoor
