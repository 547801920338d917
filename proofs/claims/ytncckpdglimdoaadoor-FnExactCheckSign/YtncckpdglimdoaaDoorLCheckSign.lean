/- At every signature, number, count, path and root the program's CheckSign answers as the specification's model of it, and leaves what it was given as it was. -/
import Derived.Test.YtncckpdglimdoaaDoorKyOp
import Derived.Test.YtncckpdglimdoaaDoorKyC
import Derived.Test.YtncckpdglimdoaaDoorKyE
import Derived.Test.YtncckpdglimdoaaDoorEqInt
import Derived.Test.YtncckpdglimdoaaDoorMarkE
import Derived.Test.YtncckpdglimdoaaDoorDoor
import Derived.Deep.RegionHeld3
import Derived.Deep.DeepCutAuto
import Derived.Test.YtncckpdglimdoaaDoorDoor
namespace Go.Proofs.YtncckpdglimdoaaDoor
open Go.ChangeShapes Go.WideShapes Go.ChangeAt Go.RowKit
set_option linter.unusedVariables false
set_option linter.unusedSimpArgs false

set_option maxRecDepth 100000 in
set_option maxHeartbeats 8000000 in
theorem fnExactCheckSign_walk (w : World) (hT : Tab w) (i0 : Int) (a0 b0 : Option Addr) (la0 ca0 lb0 cb0 : Nat) (z0 y0 : List Int) (wi0 : (Lit.int .i64 i0).wf = true) (wa0 : IsRow .i64 w a0 la0 ca0 z0) (wb0 : IsRow .i64 w b0 lb0 cb0 y0) (a1 : Int) (w1 : (Lit.int .i64 a1).wf = true) (a2 : Int) (w2 : (Lit.int .i64 a2).wf = true) (a3 : Option Addr) (len3 cap3 : Nat) (z3 : List Int) (w3 : IsRow .i64 w a3 len3 cap3 z3) (a4 : Int) (w4 : (Lit.int .i64 a4).wf = true) :
    Calls Tryd.prog 11 #[.agg #[.int .i64 i0, .slice a0 la0 ca0, .slice b0 lb0 cb0], .int .i64 a1, .int .i64 a2, .slice a3 len3 cap3, .int .i64 a4] w fun e w' => e = .returned (.bool true) ∧ Below w.heap.size w w' := by
  have hm : ∀ (k : IntKind) (a : Option Addr) (l c : Nat) (z : List Int), IsRow k w a l c z → l ≤ 9223372036854775807 := by
    intro k a l c z h
    rcases h with ⟨_, rfl, _, _⟩ | ⟨_, _, h1, h2, _⟩
    · omega
    · unfold maxLen at h2; omega
  have hl1 := hm _ _ _ _ _ wa0
  have hl2 := hm _ _ _ _ _ wb0
  have Ash := Has.of_row wa0
  have hla := Ash.1
  generalize z0.take la0 = sh at Ash hla
  subst hla
  clear wa0
  have Aot := Has.of_row wb0
  have hla := Aot.1
  generalize y0.take lb0 = ot at Aot hla
  subst hla
  clear wb0
  have hlq := hm _ _ _ _ _ w3
  have Ap := Has.of_row w3
  have hla := Ap.1
  generalize z3.take len3 = dp at Ap hla
  subst hla
  clear w3
  clear hm
  by_cases bigq : 1048576 < dp.length
  · have bigq' : (1048576 : Int) < (dp.length : Int) := by omega
    go_enter Tryd.func11, Tryd.ntmps11
    go_wp2
    go_ret
    exact ⟨rfl, (Below.refl _ _).alloc (Nat.le_refl _) _⟩
  have hq : dp.length ≤ 1048576 := by omega
  have hq' : (dp.length : Int) ≤ 1048576 := by omega
  clear bigq
  have hmq : dp.length ≤ maxLen := by unfold maxLen; omega
  have FA : Hid (∀ wx : World, Below (w.heap.size + 1) (w.alloc (.cells #[.int .i64 i0, .slice a0 sh.length ca0, .slice b0 ot.length cb0] 65)) wx → (wx.cell? ⟨w.heap.size, 0, none⟩ = some (.int .i64 i0) ∧ wx.cell? ⟨w.heap.size, 1, none⟩ = some (.slice a0 sh.length ca0) ∧ wx.cell? ⟨w.heap.size, 2, none⟩ = some (.slice b0 ot.length cb0)) ∧ (Has wx .i64 a0 sh.length sh ∧ Has wx .i64 b0 ot.length ot ∧ Has wx .i64 a3 dp.length dp) ∧ Tab wx) := by
    intro wx h
    refine ⟨⟨?_, ?_, ?_⟩, ⟨(Ash.alloc _).below h (by simp), (Aot.alloc _).below h (by simp), (Ap.alloc _).below h (by simp)⟩, (hT.alloc _).below h (by simp)⟩
    all_goals (refine (h.cell (by show w.heap.size < _; omega)).trans ?_; simp [go_sem])
  clear Ash Aot Ap hT
  by_cases hbig : sh.length + ot.length ≤ 1048576
  case pos =>
    have s1 : sh.length ≤ 1048576 := by omega
    have s2 : ot.length ≤ 1048576 := by omega
    obtain ⟨cd, hcd⟩ : ∃ c, c = ckB i0 sh ot a1 a2 dp a4 := ⟨_, rfl⟩
    have SP : Hid (∀ (a : Option Addr) (c : Nat) (b : Option Addr) (d : Nat) (p : Option Addr) (x : World), Has x .i64 a sh.length sh → Has x .i64 b ot.length ot → Has x .i64 p dp.length dp → Calls Tryd.prog 35 #[.agg #[.int .i64 i0, .slice a sh.length c, .slice b ot.length d], .int .i64 a1, .int .i64 a2, .slice p dp.length dp.length, .int .i64 a4] x fun r w' => r = .returned (.bool cd) ∧ Below x.heap.size x w') := by
      show ∀ (a : Option Addr) (c : Nat) (b : Option Addr) (d : Nat) (p : Option Addr) (x : World), Has x .i64 a sh.length sh → Has x .i64 b ot.length ot → Has x .i64 p dp.length dp → Calls Tryd.prog 35 #[.agg #[.int .i64 i0, .slice a sh.length c, .slice b ot.length d], .int .i64 a1, .int .i64 a2, .slice p dp.length dp.length, .int .i64 a4] x fun r w' => r = .returned (.bool cd) ∧ Below x.heap.size x w'
      rw [hcd]
      exact fun a c b d p x hs ho hp => specCheckSign_any i0 a1 a2 a4 a b p c d dp.length sh ot dp x hs ho hp s1 s2 hq (Nat.le_refl _) hmq (bounds_i64 w2)
    have IM : Hid (∀ (a : Option Addr) (c : Nat) (b : Option Addr) (d : Nat) (p : Option Addr) (x : World), Tab x → Has x .i64 a sh.length sh → Has x .i64 b ot.length ot → Has x .i64 p dp.length dp → Calls Tryd.prog 29 #[.agg #[.int .i64 i0, .slice a sh.length c, .slice b ot.length d], .int .i64 a1, .int .i64 a2, .slice p dp.length dp.length, .int .i64 a4] x fun r w' => r = .returned (.bool cd) ∧ Below x.heap.size x w') := by
      show ∀ (a : Option Addr) (c : Nat) (b : Option Addr) (d : Nat) (p : Option Addr) (x : World), Tab x → Has x .i64 a sh.length sh → Has x .i64 b ot.length ot → Has x .i64 p dp.length dp → Calls Tryd.prog 29 #[.agg #[.int .i64 i0, .slice a sh.length c, .slice b ot.length d], .int .i64 a1, .int .i64 a2, .slice p dp.length dp.length, .int .i64 a4] x fun r w' => r = .returned (.bool cd) ∧ Below x.heap.size x w'
      rw [hcd]
      exact fun a c b d p x t hs ho hp => implCheckSign_any i0 a1 a2 a4 a b p c d dp.length sh ot dp x t hs ho hp s1 s2 hq (Nat.le_refl _) hmq
    clear hcd
    have hif : (if sh.length + ot.length ≤ 1048576 then (1048576 : Int) - sh.length - ot.length else -1) = 1048576 - sh.length - ot.length := if_pos hbig
    have hnn : (0 : Int) ≤ 1048576 - sh.length - ot.length := by omega
    clear hbig
    go_enter Tryd.func11, Tryd.ntmps11
    go_wp2_with fail
    refine (szSign_any i0 a0 b0 _ _ ca0 cb0 _ hl1 hl2).mono ?_
    rintro r u1 ⟨rfl, hb1⟩
    rw [hif]
    have z1 := hb1.size
    simp at z1
    have P1 : Below (w.heap.size + 1) (w.alloc (.cells #[.int .i64 i0, .slice a0 sh.length ca0, .slice b0 ot.length cb0] 65)) u1 := hb1.mono (by simp)
    obtain ⟨⟨c0, c1, c2⟩, A1, _⟩ := FA.out _ P1
    clear hb1
    go_wp2_with fail
    refine (toSign_any i0 a0 b0 ca0 cb0 sh ot _ A1.1 A1.2.1 s1 s2).mono ?_
    rintro r u2 ⟨g2, k2, rfl, X2, Y2, _, _, gm2, hb2⟩
    have z2 := hb2.size
    have P2 := P1.trans (hb2.mono (by omega))
    clear c0 c1 c2 A1 hb2 P1 gm2
    have A2 := (FA.out _ P2).2.1.2.2
    go_wp2_with fail
    refine (toInts_has a3 cap3 dp _ A2 hq).mono ?_
    rintro r v2 ⟨rfl, hc2, W2, y2⟩
    replace X2 := X2.below hc2 (Nat.le_refl _)
    replace Y2 := Y2.below hc2 (Nat.le_refl _)
    have zz2 := hc2.size
    have Q2 := P2.trans (hc2.mono (by omega))
    clear A2 hc2 P2 y2
    go_wp2_with fail
    refine (SP.out _ _ _ _ _ _ X2 Y2 W2).mono ?_
    rintro r u3 ⟨rfl, hb3⟩
    have z3 := hb3.size
    have P3 := Q2.trans (hb3.mono (by omega))
    clear X2 Y2 W2 Q2 hb3
    obtain ⟨⟨c0, c1, c2⟩, A3, _⟩ := FA.out _ P3
    have q3 : w.heap.size < u3.heap.size := by omega
    go_wp2_with fail
    refine (toSign_any i0 a0 b0 ca0 cb0 sh ot _ A3.1 A3.2.1 s1 s2).mono ?_
    rintro r u4 ⟨g4, k4, rfl, X4, Y4, gl4, gn4, gm4, hb4⟩
    have z4 := hb4.size
    have P4 := P3.trans (hb4.mono (by omega))
    have T4 := (FA.out _ P4).2.2
    have E4 : Below (w.heap.size + 1) (w.alloc (.cells #[.int .i64 i0, .slice a0 sh.length ca0, .slice b0 ot.length cb0] 65)) (u4.alloc (.cells #[.int .i64 i0, .slice (some ⟨g4, 0, none⟩) sh.length sh.length, .slice (some ⟨k4, 0, none⟩) ot.length ot.length] 28)) := P4.alloc (by omega) _
    clear c0 c1 c2 A3 hb4 gl4 gn4 gm4
    have A5 := (FA.out _ E4).2.1.2.2
    go_wp2_with fail
    refine (toInts_has a3 cap3 dp _ A5 hq).mono ?_
    rintro r v4 ⟨rfl, hc4, W4, y4⟩
    have W4' : Has v4 .i64 (some ⟨u4.heap.size + 1, 0, none⟩) dp.length dp := by simpa using W4
    clear W4
    have zz4 := hc4.size
    simp at zz4
    have F4 : Below (w.heap.size + 1) (w.alloc (.cells #[.int .i64 i0, .slice a0 sh.length ca0, .slice b0 ot.length cb0] 65)) v4 := E4.trans (hc4.mono (by simp; omega))
    have X5 := (X4.alloc (.cells #[.int .i64 i0, .slice (some ⟨g4, 0, none⟩) sh.length sh.length, .slice (some ⟨k4, 0, none⟩) ot.length ot.length] 28)).below hc4 (Nat.le_refl _)
    have Y5 := (Y4.alloc (.cells #[.int .i64 i0, .slice (some ⟨g4, 0, none⟩) sh.length sh.length, .slice (some ⟨k4, 0, none⟩) ot.length ot.length] 28)).below hc4 (Nat.le_refl _)
    have x0 := (hc4.cell (p := ⟨u4.heap.size, 0, none⟩) (by simp)).trans (show _ = some (.int .i64 i0) by simp [go_sem])
    have x1 := (hc4.cell (p := ⟨u4.heap.size, 1, none⟩) (by simp)).trans (show _ = some (.slice (some ⟨g4, 0, none⟩) sh.length sh.length) by simp [go_sem])
    have x2 := (hc4.cell (p := ⟨u4.heap.size, 2, none⟩) (by simp)).trans (show _ = some (.slice (some ⟨k4, 0, none⟩) ot.length ot.length) by simp [go_sem])
    have q4 : u4.heap.size < v4.heap.size := by omega
    clear A5
    go_wp2_with fail
    refine (IM.out _ _ _ _ _ _ (FA.out _ F4).2.2 X5 Y5 W4').mono ?_
    rintro r u5 ⟨rfl, hb5⟩
    have z5 := hb5.size
    have G5 : Below (u4.heap.size + 1) (u4.alloc (.cells #[.int .i64 i0, .slice (some ⟨g4, 0, none⟩) sh.length sh.length, .slice (some ⟨k4, 0, none⟩) ot.length ot.length] 28)) u5 := (hc4.mono (by simp)).trans (hb5.mono (by omega))
    have P5 := F4.trans (hb5.mono (by omega))
    have W5 := W4'.below hb5 (Nat.le_refl _)
    have WH : Hid (Has u5 .i64 (some ⟨u4.heap.size + 1, 0, none⟩) dp.length dp) := W5
    clear hb5 hc4 W4' W5 X5 Y5 E4 F4 x0 x1 x2 q4 y4
    have VX : Hid (∀ wx : World, Below (u4.heap.size + 1) (u4.alloc (.cells #[.int .i64 i0, .slice (some ⟨g4, 0, none⟩) sh.length sh.length, .slice (some ⟨k4, 0, none⟩) ot.length ot.length] 28)) wx → (wx.cell? ⟨u4.heap.size, 0, none⟩ = some (.int .i64 i0) ∧ wx.cell? ⟨u4.heap.size, 1, none⟩ = some (.slice (some ⟨g4, 0, none⟩) sh.length sh.length) ∧ wx.cell? ⟨u4.heap.size, 2, none⟩ = some (.slice (some ⟨k4, 0, none⟩) ot.length ot.length)) ∧ Has wx .i64 (some ⟨g4, 0, none⟩) sh.length sh ∧ Has wx .i64 (some ⟨k4, 0, none⟩) ot.length ot) := by
      intro wx h
      refine ⟨⟨?_, ?_, ?_⟩, (X4.alloc _).below h (by simp), (Y4.alloc _).below h (by simp)⟩
      all_goals (refine (h.cell (by show u4.heap.size < _; omega)).trans ?_; simp [go_sem])
    clear X4 Y4 P4 T4
    have hne : (cd != cd) = false := by simp
    have q6 : w.heap.size < u5.heap.size := by omega
    have q7 : u4.heap.size < u5.heap.size := by omega
    have K6 : Hid (∀ wx : World, Below u5.heap.size u5 wx → ((wx.cell? ⟨w.heap.size, 0, none⟩ = some (.int .i64 i0) ∧ wx.cell? ⟨w.heap.size, 1, none⟩ = some (.slice a0 sh.length ca0) ∧ wx.cell? ⟨w.heap.size, 2, none⟩ = some (.slice b0 ot.length cb0)) ∧ (wx.cell? ⟨u4.heap.size, 0, none⟩ = some (.int .i64 i0) ∧ wx.cell? ⟨u4.heap.size, 1, none⟩ = some (.slice (some ⟨g4, 0, none⟩) sh.length sh.length) ∧ wx.cell? ⟨u4.heap.size, 2, none⟩ = some (.slice (some ⟨k4, 0, none⟩) ot.length ot.length))) ∧ Below u5.heap.size u5 wx) := fun wx h => by
      have h1 := FA.out wx (P5.trans (h.mono (by omega)))
      have h3 := VX.out wx (G5.trans (h.mono (by omega)))
      exact ⟨⟨h1.1, h3.1⟩, h⟩
    go_wp2
    have D0 : Below u5.heap.size u5 u5.drew := (Below.refl _ _).drew
    have A8 := (FA.out _ (P5.trans (D0.mono (by omega)))).2.1
    have Y8 := (VX.out _ (G5.trans (D0.mono (by omega)))).2
    have HH : Hid (Has u5.drew .i64 (some ⟨g4, 0, none⟩) sh.length sh ∧ Has u5.drew .i64 (some ⟨k4, 0, none⟩) ot.length ot) := ⟨Y8.1, Y8.2⟩
    have HA : Hid (Has u5.drew .i64 a0 sh.length sh ∧ Has u5.drew .i64 b0 ot.length ot) := ⟨A8.1, A8.2.1⟩
    clear Y8 A8
    go_region_held3 (fun wx => ((wx.cell? ⟨w.heap.size, 0, none⟩ = some (.int .i64 i0) ∧ wx.cell? ⟨w.heap.size, 1, none⟩ = some (.slice a0 sh.length ca0) ∧ wx.cell? ⟨w.heap.size, 2, none⟩ = some (.slice b0 ot.length cb0)) ∧ (wx.cell? ⟨u4.heap.size, 0, none⟩ = some (.int .i64 i0) ∧ wx.cell? ⟨u4.heap.size, 1, none⟩ = some (.slice (some ⟨g4, 0, none⟩) sh.length sh.length) ∧ wx.cell? ⟨u4.heap.size, 2, none⟩ = some (.slice (some ⟨k4, 0, none⟩) ot.length ot.length))) ∧ Below u5.heap.size u5 wx)
      ((first | exact K6.out _ D0 | exact K6.out _ D1 | exact K6.out _ D2))
      (first | ((go_at_call 48; refine (toSign_any i0 a0 b0 ca0 cb0 sh ot _ HA.out.1 HA.out.2 s1 s2).mono ?_; rintro r u7 ⟨g7, k7, rfl, X7, Y7, gl7, gn7, gm7, hb7⟩; have D1 := D0.trans (hb7.mono D0.size); have Y9 := HH.out.1.below hb7 (Nat.le_refl _); have Z9 := HH.out.2.below hb7 (Nat.le_refl _))) | ((go_at_call 49; refine (eqSign_any i0 _ _ _ _ _ _ _ _ sh ot _ Y9 Z9 X7 Y7 s1 s2).mono ?_; rintro r u8 ⟨rfl, hb8⟩; have D2 := D1.trans (hb8.mono D1.size))))
    have T9 := WH.out.below D2 (Nat.le_refl _)
    have A9 := (FA.out _ (P5.trans (D2.mono (by omega)))).2.1.2.2
    go_wp2_with fail
    refine (toInts_has a3 cap3 dp _ A9 hq).mono ?_
    rintro r u9 ⟨rfl, hb9, W9, y9⟩
    replace T9 := T9.below hb9 (Nat.le_refl _)
    have D3 := D2.trans (hb9.mono D2.size)
    clear A9 hb9 y9
    go_wp2_with fail
    refine (eqInts_any _ _ _ _ dp _ T9 W9 hq).mono ?_
    rintro r u10 ⟨rfl, hb10⟩
    have D4 := D3.trans (hb10.mono D3.size)
    clear T9 W9 hb10
    go_wp2
    go_ret
    refine ⟨rfl, ?_⟩
    exact ((Below.refl w.heap.size w).alloc (Nat.le_refl _) (.cells #[.int .i64 i0, .slice a0 sh.length ca0, .slice b0 ot.length cb0] 65)).trans ((P5.trans (D4.mono (by omega))).mono (by omega))
  case neg =>
    have hif : (if sh.length + ot.length ≤ 1048576 then (1048576 : Int) - sh.length - ot.length else -1) = -1 := if_neg hbig
    clear hbig
    go_enter Tryd.func11, Tryd.ntmps11
    go_wp2_with fail
    refine (szSign_any i0 a0 b0 _ _ ca0 cb0 _ hl1 hl2).mono ?_
    rintro r u1 ⟨rfl, hb1⟩
    rw [hif]
    go_wp2
    go_ret
    exact ⟨rfl, ((Below.refl w.heap.size w).alloc (Nat.le_refl _) _).trans (hb1.mono (by simp))⟩

set_option maxRecDepth 100000 in
theorem fnExactCheckSign_lifted (os : Os) (started : os.Started) (H : Type) (enc : TypeId × Value → H) :
    ReturnsInHanded {} Tryd.checked os 11 .any (fun w args => (Rows.fnExactCheckSignSpec.pre enc Tryd.prog Tryd.f11 [] false w args ∧ laidMetH Tryd.prog [("loop.example/g00565/impl.pieceStarts", Rows.laid_loop_example_g00565_impl_pieceStarts)] w) ∧ sizedMet enc Tryd.prog Tryd.f11 (OpenSpec.ofChange Rows.fnExactCheckSignSpec) false w args) (Rows.fnExactCheckSignSpec.post enc Tryd.prog Tryd.f11 false true false false) := by
  refine returnsInHanded_of_change_and (C := Tryd.checked) (X := fun w _ => laidMetH Tryd.prog [("loop.example/g00565/impl.pieceStarts", Rows.laid_loop_example_g00565_impl_pieceStarts)] w) (fun _ _ _ hh h => h.of_heap hh) own started (by kernel_rfl) Tryd.func11
    (ChangeSpec.witness_shaped (enc := enc) (C := Tryd.checked) (os := os) (X := fun w _ => laidMetH Tryd.prog [("loop.example/g00565/impl.pieceStarts", Rows.laid_loop_example_g00565_impl_pieceStarts)] w) false (World.doorLaid Tryd.prog 400 os) #[.agg #[.int .i64 0, .slice none 0 0, .slice none 0 0], .int .i64 0, .int .i64 0, .slice none 0 0, .int .i64 0] 8 rfl (World.shaped_of_RefB (by kernel_rfl) (by kernel_rfl)) (by kernel_rfl) (by kernel_rfl) (by kernel_rfl) (door_met os _)) ?_
  intro W base args ds gs before hval0 hW _ _ hL _
  have hval : ∀ (j : Nat) t v, Tryd.f11.params[j]? = some t → args[j]? = some v → Value.okWide Tryd.prog W .any base t v := hval0
  have hW' := hW
  obtain ⟨p, q, hA0, hV, rfl, hfz, hnd⟩ := hW
  have hA : DataW.TrodAll enc Tryd.prog W 0 (fun _ => true) true Tryd.f11.params.toList args.toList ds p := hA0
  rw [Tryd.params11] at hA hval
  obtain ⟨v0, vs0, d0, ds0, p0, q0, hargs, rfl, rfl, h0, r0⟩ := trodAll_cons hA
  obtain ⟨v1, vs1, d1, ds1, p1, q1, rfl, rfl, rfl, h1, r1⟩ := trodAll_cons r0
  obtain ⟨v2, vs2, d2, ds2, p2, q2, rfl, rfl, rfl, h2, r2⟩ := trodAll_cons r1
  obtain ⟨v3, vs3, d3, ds3, p3, q3, rfl, rfl, rfl, h3, r3⟩ := trodAll_cons r2
  obtain ⟨v4, vs4, d4, ds4, p4, q4, rfl, rfl, rfl, h4, r4⟩ := trodAll_cons r3
  obtain ⟨rfl, rfl, rfl⟩ := trodAll_nil r4
  obtain rfl : args = #[v0, v1, v2, v3, v4] := by cases args; simp_all
  obtain ⟨g, rfl⟩ : ∃ g, gs = [g] := by obtain ⟨_, _, _, _, d, _, e, _⟩ := trodVars_one hV; exact ⟨d, e⟩
  have g0 := h0
  have lt0 : ∀ x ∈ p0, x.block < W.heap.size := by obtain ⟨m, hm⟩ := g0; exact DataW.trod_lt m _ _ _ hm
  have g1 := h1
  have lt1 : ∀ x ∈ p1, x.block < W.heap.size := by obtain ⟨m, hm⟩ := g1; exact DataW.trod_lt m _ _ _ hm
  have g2 := h2
  have lt2 : ∀ x ∈ p2, x.block < W.heap.size := by obtain ⟨m, hm⟩ := g2; exact DataW.trod_lt m _ _ _ hm
  have g3 := h3
  have lt3 : ∀ x ∈ p3, x.block < W.heap.size := by obtain ⟨m, hm⟩ := g3; exact DataW.trod_lt m _ _ _ hm
  have g4 := h4
  have lt4 : ∀ x ∈ p4, x.block < W.heap.size := by obtain ⟨m, hm⟩ := g4; exact DataW.trod_lt m _ _ _ hm
  obtain ⟨t0, t1, t2, y0, y1, y2, fu, rfl, rfl, rfl, hy0, hy1, hy2⟩ := Go.Joins.open_agg3 Tryd.underlying65 (by kernel_rfl) (by kernel_rfl) (hval 0 65 v0 rfl rfl) h0
  obtain ⟨i0, q0, rfl, wi0⟩ := DataW.trod_int Tryd.underlying2 hy0
  obtain ⟨a0, la0, ca0, z0, q1, wa0⟩ := row_of_trod Tryd.underlying26 Tryd.underlying2 (by kernel_rfl) hy1
  obtain ⟨b0, lb0, cb0, y0, q2, wb0⟩ := row_of_trod Tryd.underlying26 Tryd.underlying2 (by kernel_rfl) hy2
  simp at q0
  subst q0 q1 q2
  obtain ⟨a1, rfl, rfl, rfl, w1⟩ := open_int Tryd.underlying2 (hval 1 2 v1 rfl rfl) h1
  obtain ⟨a2, rfl, rfl, rfl, w2⟩ := open_int Tryd.underlying2 (hval 2 2 v2 rfl rfl) h2
  obtain ⟨a3, len3, cap3, rfl⟩ := okWide_slice Tryd.underlying26 (hval 3 26 v3 rfl rfl)
  obtain ⟨z3, w3⟩ : ∃ zs, IsRow .i64 W a3 len3 cap3 zs := by
    obtain ⟨fuel, hf⟩ := h3
    rcases open_ints Tryd.underlying26 Tryd.underlying2 (by kernel_rfl) hf with ⟨hcs, _⟩ | ⟨x, l, c, zs, hcs, _, hl, hm, hz, _, hcell, hwz⟩
    · simp [Value.cells] at hcs
      obtain ⟨rfl, rfl, rfl⟩ := hcs
      exact ⟨[], .inl ⟨rfl, rfl, rfl, rfl⟩⟩
    · simp [Value.cells] at hcs
      obtain ⟨rfl, rfl, rfl⟩ := hcs
      exact ⟨zs, .inr ⟨_, rfl, hl, hm, by simpa using hz, hcell, hwz⟩⟩
  obtain ⟨a4, rfl, rfl, rfl, w4⟩ := open_int Tryd.underlying2 (hval 4 2 v4 rfl rfl) h4
  clear hA0 hval0
  refine (fnExactCheckSign_walk W (tab_of_laid hL) i0 a0 b0 la0 ca0 lb0 cb0 z0 y0 wi0 wa0 wb0 a1 w1 a2 w2 a3 len3 cap3 z3 w3 a4 w4).mono fun e W' ⟨he, bel⟩ => ?_
  subst he
  exact ⟨_, rfl, _, _, _, [], _, _, hW', trodAll_mk1 (shut_bool Tryd.underlying4 _), (trodAll_cons_mk (Below.trod laidOut (by kernel_rfl) (of_decide_eq_true (by kernel_rfl)) g0 bel lt0) (trodAll_cons_mk (Below.trod laidOut (by kernel_rfl) (of_decide_eq_true (by kernel_rfl)) g1 bel lt1) (trodAll_cons_mk (Below.trod laidOut (by kernel_rfl) (of_decide_eq_true (by kernel_rfl)) g2 bel lt2) (trodAll_cons_mk (Below.trod laidOut (by kernel_rfl) (of_decide_eq_true (by kernel_rfl)) g3 bel lt3) (trodAll_cons_mk (Below.trod laidOut (by kernel_rfl) (of_decide_eq_true (by kernel_rfl)) g4 bel lt4) trodAll_mk0))))), Below.trodVars laidOut bel (by kernel_rfl) hV, bel.frame _, fun h => by cases h⟩

theorem fnExactCheckSign_row : Rows.FnExactCheckSignSaid :=
  OpenClaim.holds_of_wide 11 Tryd.f11 rfl rfl rfl rfl rfl rfl rfl ⟨rfl, rfl, rfl, rfl, rfl⟩ rfl rfl rfl rfl rfl (by kernel_rfl) Tryd.func11 (by kernel_rfl)
    (of_decide_eq_true (by kernel_rfl)) (by unfold Func.isWrapper; first | (rw [if_pos (by decide +kernel)]; kernel_rfl) | (rw [if_neg (by decide +kernel)]; exact ⟨rfl, rfl⟩))
    (fun os started H enc _ => fnExactCheckSign_lifted os started H enc)

theorem fnExactCheckSign_holds : Rows.FnExactCheckSignCardSaid :=
  Claim7.holds_tied_plain_at .later [] [.data] true Rows.fnExactCheckSignCard.stood.harness Rows.fnExactCheckSignCard.stood.looks
    fnExactCheckSign_row (fun _ h => by cases h) (by kernel_rfl) (fun _ h => by cases h) fnExactCheckSign_row_tie rfl ⟨rfl, rfl⟩ (by kernel_rfl) rfl
    (fun f fn hf hfn => by
      obtain rfl : f = 11 := Option.some.inj ((show Tryd.prog.funcNamed "loop.example/g00565/laws.FnExactCheckSign" = some 11 by kernel_rfl).symm.trans hf) |>.symm
      obtain rfl : fn = Tryd.f11 := (Option.some.inj (Tryd.func11.symm.trans hfn)).symm
      exact ⟨by kernel_rfl, fun j t ht => by
        rw [Tryd.params11] at ht
        have h3 : t = 2 ∨ t = 26 ∨ t = 65 := by
          match j, ht with
          | 0, ht => simp at ht; simp [← ht]
          | 1, ht => simp at ht; simp [← ht]
          | 2, ht => simp at ht; simp [← ht]
          | 3, ht => simp at ht; simp [← ht]
          | 4, ht => simp at ht; simp [← ht]
          | _ + 5, ht => simp at ht
        rcases h3 with rfl | rfl | rfl
        all_goals exact (show Tryd.prog.wantsStandIn _ = false by kernel_rfl)⟩)
    (by kernel_rfl)
#print axioms fnExactCheckSign_holds
end Go.Proofs.YtncckpdglimdoaaDoor
