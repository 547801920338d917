/- At every root, count and signed head the program's CheckHead answers as the specification's model of it, and leaves the signed head as it was. -/
import Derived.Test.YtffidkoejlebeaaDoorHdE
import Derived.Test.YtffidkoejlebeaaDoorAgg8
import Derived.Test.YtffidkoejlebeaaDoorIHc
import Derived.Test.YtffidkoejlebeaaDoorDoor
import Derived.Deep.RegionHeld3
import Derived.Deep.DeepCutAuto
import Derived.Test.YtffidkoejlebeaaDoorDoor
namespace Go.Proofs.YtffidkoejlebeaaDoor
open Go.ChangeShapes Go.WideShapes Go.ChangeAt Go.RowKit
set_option linter.unusedVariables false
set_option linter.unusedSimpArgs false

set_option maxRecDepth 100000 in
set_option maxHeartbeats 8000000 in
theorem fnExactCheckHead_walk (w : World) (hT : Tab w) (a0 : Int) (w0 : (Lit.int .i64 a0).wf = true) (a1 : Int) (w1 : (Lit.int .i64 a1).wf = true) (z2 r2 m2 k2 i2 : Int) (a2 b2 c2 : Option Addr) (la2 ca2 lb2 cb2 lc2 cc2 : Nat) (sh2 ot2 p2 : List Int) (wa2 : IsRow .i64 w a2 la2 ca2 sh2) (wb2 : IsRow .i64 w b2 lb2 cb2 ot2) (wc2 : IsRow .i64 w c2 lc2 cc2 p2) :
    Calls Tryd.prog 7 #[.int .i64 a0, .int .i64 a1, .agg #[.int .i64 z2, .int .i64 r2, .int .i64 m2, .int .i64 k2, .int .i64 i2, .slice a2 la2 ca2, .slice b2 lb2 cb2, .slice c2 lc2 cc2]] w fun e w' => e = .returned (.bool true) ∧ Below w.heap.size w w' := by
  have hm : ∀ (k : IntKind) (a : Option Addr) (l c : Nat) (z : List Int), IsRow k w a l c z → l ≤ 9223372036854775807 := by
    intro k a l c z h
    rcases h with ⟨_, rfl, _, _⟩ | ⟨_, _, h1, h2, _⟩
    · omega
    · unfold maxLen at h2; omega
  have hl1 := hm _ _ _ _ _ wa2
  have hl2 := hm _ _ _ _ _ wb2
  have hl3 := hm _ _ _ _ _ wc2
  have A1 := Has.of_row wa2
  have hla := A1.1
  generalize sh2.take la2 = sh at A1 hla
  subst hla
  have A2 := Has.of_row wb2
  have hla := A2.1
  generalize ot2.take lb2 = ot at A2 hla
  subst hla
  have A3 := Has.of_row wc2
  have hla := A3.1
  generalize p2.take lc2 = p at A3 hla
  subst hla
  clear wa2 wb2 wc2 hm
  obtain ⟨V, hV⟩ : ∃ V, V = w.heap.size := ⟨_, rfl⟩
  obtain ⟨E, hE⟩ : ∃ E, E = w.alloc (.cells #[.int .i64 z2, .int .i64 r2, .int .i64 m2, .int .i64 k2, .int .i64 i2, .slice a2 sh.length ca2, .slice b2 ot.length cb2, .slice c2 p.length cc2] 57) := ⟨_, rfl⟩
  have BE : Below w.heap.size w E := by rw [hE]; exact (Below.refl _ _).alloc (Nat.le_refl _) _
  have RE : Blk E V #[.int .i64 z2, .int .i64 r2, .int .i64 m2, .int .i64 k2, .int .i64 i2, .slice a2 sh.length ca2, .slice b2 ot.length cb2, .slice c2 p.length cc2] 57 := by rw [hE, hV]; exact Blk.new _ _ _
  have e0 := RE.cell 0
  have e1 := RE.cell 1
  have e2 := RE.cell 2
  have e3 := RE.cell 3
  have e4 := RE.cell 4
  have e5 := RE.cell 5
  have e6 := RE.cell 6
  have e7 := RE.cell 7
  have e9 := RE.lt
  simp at e0 e1 e2 e3 e4 e5 e6 e7
  have FA : Hid (∀ wx : World, Below E.heap.size E wx → Blk wx V #[.int .i64 z2, .int .i64 r2, .int .i64 m2, .int .i64 k2, .int .i64 i2, .slice a2 sh.length ca2, .slice b2 ot.length cb2, .slice c2 p.length cc2] 57 ∧ Has wx .i64 a2 sh.length sh ∧ Has wx .i64 b2 ot.length ot ∧ Has wx .i64 c2 p.length p) := fun wx h => by
    have h' := BE.trans (h.mono BE.size)
    exact ⟨RE.below h RE.lt, A1.below h' (Nat.le_refl _), A2.below h' (Nat.le_refl _), A3.below h' (Nat.le_refl _)⟩
  have FT : Hid (∀ wx : World, Below E.heap.size E wx → Tab wx) := fun wx h => hT.below (BE.trans (h.mono BE.size)) (Nat.le_refl _)
  have bn := bounds_i64 w1
  clear A1 A2 A3 RE hT w0 w1
  by_cases hbig : sh.length + ot.length + p.length ≤ 1048576
  case neg =>
    have hif : (if sh.length + ot.length + p.length ≤ 1048576 then (1048576 : Int) - sh.length - ot.length - p.length else -1) = -1 := if_neg hbig
    clear hbig bn
    go_enter Tryd.func7, Tryd.ntmps7
    go_wp2_with fail
    simp only [← hV, ← hE]
    clear hV hE
    refine (szSigned_any z2 r2 m2 k2 i2 a2 b2 c2 _ _ _ ca2 cb2 cc2 _ hl1 hl2 hl3).mono ?_
    rintro r u1 ⟨rfl, hb1⟩
    rw [hif]
    go_wp2
    go_ret
    exact ⟨rfl, BE.trans (hb1.mono BE.size)⟩
  case pos =>
    have s1 : sh.length ≤ 1048576 := by omega
    have s2 : ot.length ≤ 1048576 := by omega
    have s3 : p.length ≤ 1048576 := by omega
    obtain ⟨cd, hcd⟩ : ∃ c, c = chB a0 a1 z2 r2 m2 k2 i2 sh ot p := ⟨_, rfl⟩
    have SP : Hid (∀ (a b c : Option Addr) (x : World), Has x .i64 a sh.length sh → Has x .i64 b ot.length ot → Has x .i64 c p.length p → Calls Tryd.prog 28 #[.int .i64 a0, .int .i64 a1, .agg #[.int .i64 z2, .int .i64 r2, .int .i64 m2, .int .i64 k2, .int .i64 i2, .slice a sh.length sh.length, .slice b ot.length ot.length, .slice c p.length p.length]] x fun r w' => r = .returned (.bool cd) ∧ Below x.heap.size x w') := by
      rw [hcd]
      exact fun a b c x h1 h2 h3 => specCheckHead_any a0 a1 z2 r2 m2 k2 i2 a b c sh.length ot.length p.length sh ot p x h1 h2 h3 s1 s2 s3 (Nat.le_refl _) (by unfold maxLen; omega) bn
    have IM : Hid (∀ (a b c : Option Addr) (x : World), Tab x → Has x .i64 a sh.length sh → Has x .i64 b ot.length ot → Has x .i64 c p.length p → Calls Tryd.prog 30 #[.int .i64 a0, .int .i64 a1, .agg #[.int .i64 z2, .int .i64 r2, .int .i64 m2, .int .i64 k2, .int .i64 i2, .slice a sh.length sh.length, .slice b ot.length ot.length, .slice c p.length p.length]] x fun r w' => r = .returned (.bool cd) ∧ Below x.heap.size x w') := by
      rw [hcd]
      exact fun a b c x ht h1 h2 h3 => implCheckHead_any a0 a1 z2 r2 m2 k2 i2 a b c sh.length ot.length p.length sh ot p x ht h1 h2 h3 s1 s2 s3 (Nat.le_refl _) (by unfold maxLen; omega)
    clear hcd bn
    have hif : (if sh.length + ot.length + p.length ≤ 1048576 then (1048576 : Int) - sh.length - ot.length - p.length else -1) = 1048576 - sh.length - ot.length - p.length := if_pos hbig
    have hnn : (0 : Int) ≤ 1048576 - sh.length - ot.length - p.length := by omega
    clear hbig
    go_enter Tryd.func7, Tryd.ntmps7
    go_wp2_with fail
    simp only [← hV, ← hE]
    clear hV hE e0 e1 e2 e3 e4 e5 e6 e7
    refine (szSigned_any z2 r2 m2 k2 i2 a2 b2 c2 _ _ _ ca2 cb2 cc2 _ hl1 hl2 hl3).mono ?_
    rintro r u1 ⟨rfl, hb1⟩
    rw [hif]
    have D1 := hb1
    obtain ⟨R1, H1, H2, H3⟩ := FA.out _ D1
    have e0 := R1.cell 0
    have e1 := R1.cell 1
    have e2 := R1.cell 2
    have e3 := R1.cell 3
    have e4 := R1.cell 4
    have e5 := R1.cell 5
    have e6 := R1.cell 6
    have e7 := R1.cell 7
    have e9 := R1.lt
    simp at e0 e1 e2 e3 e4 e5 e6 e7
    clear hb1 R1
    go_wp2_with fail
    refine (toSigned_any z2 r2 m2 k2 i2 a2 b2 c2 ca2 cb2 cc2 sh ot p _ H1 H2 H3 s1 s2 s3).mono ?_
    rintro r u2 ⟨g1, g2, g3, rfl, X1, X2, X3, hb2⟩
    have D2 := D1.trans (hb2.mono D1.size)
    clear H1 H2 H3 e0 e1 e2 e3 e4 e5 e6 e7 hb2
    go_wp2_with fail
    refine (SP.out _ _ _ _ X1 X2 X3).mono ?_
    rintro r u3 ⟨rfl, hb3⟩
    have D3 := D2.trans (hb3.mono D2.size)
    obtain ⟨R3, H1, H2, H3⟩ := FA.out _ D3
    have e0 := R3.cell 0
    have e1 := R3.cell 1
    have e2 := R3.cell 2
    have e3 := R3.cell 3
    have e4 := R3.cell 4
    have e5 := R3.cell 5
    have e6 := R3.cell 6
    have e7 := R3.cell 7
    have e9 := R3.lt
    simp at e0 e1 e2 e3 e4 e5 e6 e7
    clear hb3 R3 X1 X2 X3 D1 D2
    go_wp2_with fail
    refine (toSigned_any z2 r2 m2 k2 i2 a2 b2 c2 ca2 cb2 cc2 sh ot p _ H1 H2 H3 s1 s2 s3).mono ?_
    rintro r u4 ⟨g1, g2, g3, rfl, X1, X2, X3, hb4⟩
    have D4 := D3.trans (hb4.mono D3.size)
    clear H1 H2 H3 e0 e1 e2 e3 e4 e5 e6 e7 hb4 D3
    obtain ⟨G, hG⟩ : ∃ G, G = u4.heap.size := ⟨_, rfl⟩
    obtain ⟨F, hF⟩ : ∃ F, F = u4.alloc (.cells #[.int .i64 z2, .int .i64 r2, .int .i64 m2, .int .i64 k2, .int .i64 i2, .slice (some ⟨g1, 0, none⟩) sh.length sh.length, .slice (some ⟨g2, 0, none⟩) ot.length ot.length, .slice (some ⟨g3, 0, none⟩) p.length p.length] 48) := ⟨_, rfl⟩
    have BF : Below u4.heap.size u4 F := by rw [hF]; exact (Below.refl _ _).alloc (Nat.le_refl _) _
    have RF : Blk F G #[.int .i64 z2, .int .i64 r2, .int .i64 m2, .int .i64 k2, .int .i64 i2, .slice (some ⟨g1, 0, none⟩) sh.length sh.length, .slice (some ⟨g2, 0, none⟩) ot.length ot.length, .slice (some ⟨g3, 0, none⟩) p.length p.length] 48 := by rw [hF, hG]; exact Blk.new _ _ _
    have D5 := D4.trans (BF.mono D4.size)
    have VX : Hid (∀ wx : World, Below F.heap.size F wx → Blk wx G #[.int .i64 z2, .int .i64 r2, .int .i64 m2, .int .i64 k2, .int .i64 i2, .slice (some ⟨g1, 0, none⟩) sh.length sh.length, .slice (some ⟨g2, 0, none⟩) ot.length ot.length, .slice (some ⟨g3, 0, none⟩) p.length p.length] 48 ∧ Has wx .i64 (some ⟨g1, 0, none⟩) sh.length sh ∧ Has wx .i64 (some ⟨g2, 0, none⟩) ot.length ot ∧ Has wx .i64 (some ⟨g3, 0, none⟩) p.length p) := fun wx h => by
      have h' := BF.trans (h.mono BF.size)
      exact ⟨RF.below h RF.lt, X1.below h' (Nat.le_refl _), X2.below h' (Nat.le_refl _), X3.below h' (Nat.le_refl _)⟩
    clear X1 X2 X3 BF
    obtain ⟨RG, Y1, Y2, Y3⟩ := VX.out _ (Below.refl _ _)
    have e0 := RG.cell 0
    have e1 := RG.cell 1
    have e2 := RG.cell 2
    have e3 := RG.cell 3
    have e4 := RG.cell 4
    have e5 := RG.cell 5
    have e6 := RG.cell 6
    have e7 := RG.cell 7
    have e9 := RG.lt
    simp at e0 e1 e2 e3 e4 e5 e6 e7
    clear RG RF D4
    go_wp2_with fail
    simp only [← hG, ← hF]
    clear hG hF e0 e1 e2 e3 e4 e5 e6 e7
    refine (IM.out _ _ _ _ (FT.out _ D5) Y1 Y2 Y3).mono ?_
    rintro r u5 ⟨rfl, hb5⟩
    clear Y1 Y2 Y3
    have hne : (cd != cd) = false := by simp
    have K6 : Hid (∀ wx : World, Below u5.heap.size u5 wx → ((wx.cell? ⟨V, 0, none⟩ = some (.int .i64 z2) ∧ wx.cell? ⟨V, 1, none⟩ = some (.int .i64 r2) ∧ wx.cell? ⟨V, 2, none⟩ = some (.int .i64 m2) ∧ wx.cell? ⟨V, 3, none⟩ = some (.int .i64 k2) ∧ wx.cell? ⟨V, 4, none⟩ = some (.int .i64 i2) ∧ wx.cell? ⟨V, 5, none⟩ = some (.slice a2 sh.length ca2) ∧ wx.cell? ⟨V, 6, none⟩ = some (.slice b2 ot.length cb2) ∧ wx.cell? ⟨V, 7, none⟩ = some (.slice c2 p.length cc2)) ∧ (wx.cell? ⟨G, 0, none⟩ = some (.int .i64 z2) ∧ wx.cell? ⟨G, 1, none⟩ = some (.int .i64 r2) ∧ wx.cell? ⟨G, 2, none⟩ = some (.int .i64 m2) ∧ wx.cell? ⟨G, 3, none⟩ = some (.int .i64 k2) ∧ wx.cell? ⟨G, 4, none⟩ = some (.int .i64 i2) ∧ wx.cell? ⟨G, 5, none⟩ = some (.slice (some ⟨g1, 0, none⟩) sh.length sh.length) ∧ wx.cell? ⟨G, 6, none⟩ = some (.slice (some ⟨g2, 0, none⟩) ot.length ot.length) ∧ wx.cell? ⟨G, 7, none⟩ = some (.slice (some ⟨g3, 0, none⟩) p.length p.length))) ∧ Below u5.heap.size u5 wx) := fun wx h => by
      have h1 := hb5.trans (h.mono hb5.size)
      have q1 := (FA.out wx (D5.trans (h1.mono D5.size))).1
      have q2 := (VX.out wx h1).1
      refine ⟨⟨⟨?_, ?_, ?_, ?_, ?_, ?_, ?_, ?_⟩, ?_, ?_, ?_, ?_, ?_, ?_, ?_, ?_⟩, h⟩
      all_goals (first | exact (q1.cell _).trans rfl | exact (q2.cell _).trans rfl)
    have D0 : Below u5.heap.size u5 u5.drew := (Below.refl _ _).drew
    have hd := hb5.trans (D0.mono hb5.size)
    have HH := (VX.out _ hd).2
    have HA := (FA.out _ (D5.trans (hd.mono D5.size))).2
    have HHk : Hid (Has u5.drew .i64 (some ⟨g1, 0, none⟩) sh.length sh ∧ Has u5.drew .i64 (some ⟨g2, 0, none⟩) ot.length ot ∧ Has u5.drew .i64 (some ⟨g3, 0, none⟩) p.length p) := HH
    have HAk : Hid (Has u5.drew .i64 a2 sh.length sh ∧ Has u5.drew .i64 b2 ot.length ot ∧ Has u5.drew .i64 c2 p.length p) := HA
    have BW : Below w.heap.size w u5 := BE.trans ((D5.trans (hb5.mono D5.size)).mono BE.size)
    clear HH HA hd
    go_wp2_with fail
    go_region_held3 (fun wx => ((wx.cell? ⟨V, 0, none⟩ = some (.int .i64 z2) ∧ wx.cell? ⟨V, 1, none⟩ = some (.int .i64 r2) ∧ wx.cell? ⟨V, 2, none⟩ = some (.int .i64 m2) ∧ wx.cell? ⟨V, 3, none⟩ = some (.int .i64 k2) ∧ wx.cell? ⟨V, 4, none⟩ = some (.int .i64 i2) ∧ wx.cell? ⟨V, 5, none⟩ = some (.slice a2 sh.length ca2) ∧ wx.cell? ⟨V, 6, none⟩ = some (.slice b2 ot.length cb2) ∧ wx.cell? ⟨V, 7, none⟩ = some (.slice c2 p.length cc2)) ∧ (wx.cell? ⟨G, 0, none⟩ = some (.int .i64 z2) ∧ wx.cell? ⟨G, 1, none⟩ = some (.int .i64 r2) ∧ wx.cell? ⟨G, 2, none⟩ = some (.int .i64 m2) ∧ wx.cell? ⟨G, 3, none⟩ = some (.int .i64 k2) ∧ wx.cell? ⟨G, 4, none⟩ = some (.int .i64 i2) ∧ wx.cell? ⟨G, 5, none⟩ = some (.slice (some ⟨g1, 0, none⟩) sh.length sh.length) ∧ wx.cell? ⟨G, 6, none⟩ = some (.slice (some ⟨g2, 0, none⟩) ot.length ot.length) ∧ wx.cell? ⟨G, 7, none⟩ = some (.slice (some ⟨g3, 0, none⟩) p.length p.length))) ∧ Below u5.heap.size u5 wx)
      ((first | exact K6.out _ D0 | exact K6.out _ D1 | exact K6.out _ D2))
      (first | ((go_at_call 29; refine (toSigned_any z2 r2 m2 k2 i2 a2 b2 c2 ca2 cb2 cc2 sh ot p _ HAk.out.1 HAk.out.2.1 HAk.out.2.2 s1 s2 s3).mono ?_; rintro r u7 ⟨x1, x2, x3, rfl, X1, X2, X3, hb7⟩; have D1 := D0.trans (hb7.mono D0.size); have Y1 := HHk.out.1.below hb7 (Nat.le_refl _); have Y2 := HHk.out.2.1.below hb7 (Nat.le_refl _); have Y3 := HHk.out.2.2.below hb7 (Nat.le_refl _))) | ((go_at_call 31; refine (eqSigned_any z2 r2 m2 k2 i2 _ _ _ _ _ _ _ _ _ _ _ _ sh ot p _ Y1 Y2 Y3 X1 X2 X3 s1 s2 s3).mono ?_; rintro r u8 ⟨rfl, hb8⟩; have D2 := D1.trans (hb8.mono D1.size))))
    go_wp2
    go_ret
    exact ⟨rfl, BW.trans (D2.mono BW.size)⟩

set_option maxRecDepth 100000 in
theorem fnExactCheckHead_lifted (os : Os) (started : os.Started) (H : Type) (enc : TypeId × Value → H) :
    ReturnsInHanded {} Tryd.checked os 7 .any (fun w args => (Rows.fnExactCheckHeadSpec.pre enc Tryd.prog Tryd.f7 [] false w args ∧ laidMetH Tryd.prog [("loop.example/g00565/impl.pieceStarts", Rows.laid_loop_example_g00565_impl_pieceStarts)] w) ∧ sizedMet enc Tryd.prog Tryd.f7 (OpenSpec.ofChange Rows.fnExactCheckHeadSpec) false w args) (Rows.fnExactCheckHeadSpec.post enc Tryd.prog Tryd.f7 false true false false) := by
  refine returnsInHanded_of_change_and (C := Tryd.checked) (X := fun w _ => laidMetH Tryd.prog [("loop.example/g00565/impl.pieceStarts", Rows.laid_loop_example_g00565_impl_pieceStarts)] w) (fun _ _ _ hh h => h.of_heap hh) own started (by kernel_rfl) Tryd.func7
    (ChangeSpec.witness_shaped (enc := enc) (C := Tryd.checked) (os := os) (X := fun w _ => laidMetH Tryd.prog [("loop.example/g00565/impl.pieceStarts", Rows.laid_loop_example_g00565_impl_pieceStarts)] w) false (World.doorLaid Tryd.prog 400 os) #[.int .i64 0, .int .i64 0, .agg #[.int .i64 0, .int .i64 0, .int .i64 0, .int .i64 0, .int .i64 0, .slice none 0 0, .slice none 0 0, .slice none 0 0]] 8 rfl (World.shaped_of_RefB (by kernel_rfl) (by kernel_rfl)) (by kernel_rfl) (by kernel_rfl) (by kernel_rfl) (door_met os _)) ?_
  intro W base args ds gs before hval0 hW _ _ hL _
  have hval : ∀ (j : Nat) t v, Tryd.f7.params[j]? = some t → args[j]? = some v → Value.okWide Tryd.prog W .any base t v := hval0
  have hW' := hW
  obtain ⟨p, q, hA0, hV, rfl, hfz, hnd⟩ := hW
  have hA : DataW.TrodAll enc Tryd.prog W 0 (fun _ => true) true Tryd.f7.params.toList args.toList ds p := hA0
  rw [Tryd.params7] at hA hval
  obtain ⟨v0, vs0, d0, ds0, p0, q0, hargs, rfl, rfl, h0, tr0⟩ := trodAll_cons hA
  obtain ⟨v1, vs1, d1, ds1, p1, q1, rfl, rfl, rfl, h1, tr1⟩ := trodAll_cons tr0
  obtain ⟨v2, vs2, d2, ds2, p2, q2, rfl, rfl, rfl, h2, tr2⟩ := trodAll_cons tr1
  obtain ⟨rfl, rfl, rfl⟩ := trodAll_nil tr2
  obtain rfl : args = #[v0, v1, v2] := by cases args; simp_all
  obtain ⟨g, rfl⟩ : ∃ g, gs = [g] := by obtain ⟨_, _, _, _, d, _, e, _⟩ := trodVars_one hV; exact ⟨d, e⟩
  have g0 := h0
  have lt0 : ∀ x ∈ p0, x.block < W.heap.size := by obtain ⟨m, hm⟩ := g0; exact DataW.trod_lt m _ _ _ hm
  have g1 := h1
  have lt1 : ∀ x ∈ p1, x.block < W.heap.size := by obtain ⟨m, hm⟩ := g1; exact DataW.trod_lt m _ _ _ hm
  have g2 := h2
  have lt2 : ∀ x ∈ p2, x.block < W.heap.size := by obtain ⟨m, hm⟩ := g2; exact DataW.trod_lt m _ _ _ hm
  obtain ⟨a0, rfl, rfl, rfl, w0⟩ := open_int Tryd.underlying2 (hval 0 2 v0 rfl rfl) h0
  obtain ⟨a1, rfl, rfl, rfl, w1⟩ := open_int Tryd.underlying2 (hval 1 2 v1 rfl rfl) h1
  obtain ⟨t0, t1, t2, t3, t4, t5, t6, t7, y0, y1, y2, y3, y4, y5, y6, y7, fu, fv, fw, rfl, ⟨hy0, hy1, hy2, hy3⟩, ⟨hy4, hy5, hy6⟩, hy7⟩ := open_signed Tryd.underlying57 Tryd.underlying23 Tryd.underlying55 (by kernel_rfl) (by kernel_rfl) (by kernel_rfl) (by kernel_rfl) (by kernel_rfl) (hval 2 57 v2 rfl rfl) h2
  obtain ⟨z2, q0, rfl, wz2⟩ := DataW.trod_int Tryd.underlying2 hy0
  obtain ⟨r2, q1, rfl, wr2⟩ := DataW.trod_int Tryd.underlying2 hy1
  obtain ⟨m2, q2, rfl, wm2⟩ := DataW.trod_int Tryd.underlying2 hy2
  obtain ⟨k2, q3, rfl, wk2⟩ := DataW.trod_int Tryd.underlying2 hy3
  obtain ⟨i2, q4, rfl, wi2⟩ := DataW.trod_int Tryd.underlying2 hy4
  obtain ⟨a2, la2, ca2, sh2, q5, wa2⟩ := row_of_trod Tryd.underlying44 Tryd.underlying2 (by kernel_rfl) hy5
  obtain ⟨b2, lb2, cb2, ot2, q6, wb2⟩ := row_of_trod Tryd.underlying44 Tryd.underlying2 (by kernel_rfl) hy6
  obtain ⟨c2, lc2, cc2, p2, q7, wc2⟩ := row_of_trod Tryd.underlying44 Tryd.underlying2 (by kernel_rfl) hy7
  simp at q0 q1 q2 q3 q4
  subst q0 q1 q2 q3 q4 q5 q6 q7
  clear hA0 hval0
  refine (fnExactCheckHead_walk W (tab_of_laid hL) a0 w0 a1 w1 z2 r2 m2 k2 i2 a2 b2 c2 la2 ca2 lb2 cb2 lc2 cc2 sh2 ot2 p2 wa2 wb2 wc2).mono fun e W' ⟨he, bel⟩ => ?_
  subst he
  exact ⟨_, rfl, _, _, _, [], _, _, hW', trodAll_mk1 (shut_bool Tryd.underlying4 _), (trodAll_cons_mk (Below.trod laidOut (by kernel_rfl) (of_decide_eq_true (by kernel_rfl)) g0 bel lt0) (trodAll_cons_mk (Below.trod laidOut (by kernel_rfl) (of_decide_eq_true (by kernel_rfl)) g1 bel lt1) (trodAll_cons_mk (Below.trod laidOut (by kernel_rfl) (of_decide_eq_true (by kernel_rfl)) g2 bel lt2) trodAll_mk0))), Below.trodVars laidOut bel (by kernel_rfl) hV, bel.frame _, fun h => by cases h⟩

theorem fnExactCheckHead_row : Rows.FnExactCheckHeadSaid :=
  OpenClaim.holds_of_wide 7 Tryd.f7 rfl rfl rfl rfl rfl rfl rfl ⟨rfl, rfl, rfl, rfl, rfl⟩ rfl rfl rfl rfl rfl (by kernel_rfl) Tryd.func7 (by kernel_rfl)
    (of_decide_eq_true (by kernel_rfl)) (by unfold Func.isWrapper; first | (rw [if_pos (by decide +kernel)]; kernel_rfl) | (rw [if_neg (by decide +kernel)]; exact ⟨rfl, rfl⟩))
    (fun os started H enc _ => fnExactCheckHead_lifted os started H enc)

theorem fnExactCheckHead_holds : Rows.FnExactCheckHeadCardSaid :=
  Claim7.holds_tied_plain_at .later [] [.data] true Rows.fnExactCheckHeadCard.stood.harness Rows.fnExactCheckHeadCard.stood.looks
    fnExactCheckHead_row (fun _ h => by cases h) (by kernel_rfl) (fun _ h => by cases h) fnExactCheckHead_row_tie rfl ⟨rfl, rfl⟩ (by kernel_rfl) rfl
    (fun f fn hf hfn => by
      obtain rfl : f = 7 := Option.some.inj ((show Tryd.prog.funcNamed "loop.example/g00565/laws.FnExactCheckHead" = some 7 by kernel_rfl).symm.trans hf) |>.symm
      obtain rfl : fn = Tryd.f7 := (Option.some.inj (Tryd.func7.symm.trans hfn)).symm
      exact ⟨by kernel_rfl, fun j t ht => by
        rw [Tryd.params7] at ht
        have h3 : t = 2 ∨ t = 57 := by
          match j, ht with
          | 0, ht => simp at ht; simp [← ht]
          | 1, ht => simp at ht; simp [← ht]
          | 2, ht => simp at ht; simp [← ht]
          | _ + 3, ht => simp at ht
        rcases h3 with rfl | rfl
        all_goals exact (show Tryd.prog.wantsStandIn _ = false by kernel_rfl)⟩)
    (by kernel_rfl)
#print axioms fnExactCheckHead_holds
end Go.Proofs.YtffidkoejlebeaaDoor
