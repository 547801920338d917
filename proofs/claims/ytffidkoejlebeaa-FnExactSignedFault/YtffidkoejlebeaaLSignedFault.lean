/- At every signed head the program's SignedFault answers as the specification's model of it, and leaves the signed head as it was. -/
import Derived.Test.YtffidkoejlebeaaHdE
import Derived.Test.YtffidkoejlebeaaAgg8
import Derived.Test.YtffidkoejlebeaaIHd
import Derived.Deep.RegionHeld3
import Derived.Deep.DeepCutAuto
namespace Go.Proofs.Ytffidkoejlebeaa
open Go.ChangeShapes Go.WideShapes Go.ChangeAt Go.RowKit
set_option linter.unusedVariables false
set_option linter.unusedSimpArgs false

set_option maxRecDepth 100000 in
set_option maxHeartbeats 8000000 in
theorem fnExactSignedFault_walk (w : World) (z0 r0 m0 k0 i0 : Int) (a0 b0 c0 : Option Addr) (la0 ca0 lb0 cb0 lc0 cc0 : Nat) (sh0 ot0 p0 : List Int) (wa0 : IsRow .i64 w a0 la0 ca0 sh0) (wb0 : IsRow .i64 w b0 lb0 cb0 ot0) (wc0 : IsRow .i64 w c0 lc0 cc0 p0) :
    Calls Try.prog 4 #[.agg #[.int .i64 z0, .int .i64 r0, .int .i64 m0, .int .i64 k0, .int .i64 i0, .slice a0 la0 ca0, .slice b0 lb0 cb0, .slice c0 lc0 cc0]] w fun e w' => e = .returned (.bool true) ∧ Below w.heap.size w w' := by
  have hm : ∀ (k : IntKind) (a : Option Addr) (l c : Nat) (z : List Int), IsRow k w a l c z → l ≤ 9223372036854775807 := by
    intro k a l c z h
    rcases h with ⟨_, rfl, _, _⟩ | ⟨_, _, h1, h2, _⟩
    · omega
    · unfold maxLen at h2; omega
  have hl1 := hm _ _ _ _ _ wa0
  have hl2 := hm _ _ _ _ _ wb0
  have hl3 := hm _ _ _ _ _ wc0
  have A1 := Has.of_row wa0
  have hla := A1.1
  generalize sh0.take la0 = sh at A1 hla
  subst hla
  have A2 := Has.of_row wb0
  have hla := A2.1
  generalize ot0.take lb0 = ot at A2 hla
  subst hla
  have A3 := Has.of_row wc0
  have hla := A3.1
  generalize p0.take lc0 = p at A3 hla
  subst hla
  clear wa0 wb0 wc0 hm
  obtain ⟨V, hV⟩ : ∃ V, V = w.heap.size := ⟨_, rfl⟩
  obtain ⟨E, hE⟩ : ∃ E, E = w.alloc (.cells #[.int .i64 z0, .int .i64 r0, .int .i64 m0, .int .i64 k0, .int .i64 i0, .slice a0 sh.length ca0, .slice b0 ot.length cb0, .slice c0 p.length cc0] 32) := ⟨_, rfl⟩
  have BE : Below w.heap.size w E := by rw [hE]; exact (Below.refl _ _).alloc (Nat.le_refl _) _
  have RE : Blk E V #[.int .i64 z0, .int .i64 r0, .int .i64 m0, .int .i64 k0, .int .i64 i0, .slice a0 sh.length ca0, .slice b0 ot.length cb0, .slice c0 p.length cc0] 32 := by rw [hE, hV]; exact Blk.new _ _ _
  have e0 := RE.cell 0
  have e1 := RE.cell 1
  have e2 := RE.cell 2
  have e3 := RE.cell 3
  have e4 := RE.cell 4
  have e5 := RE.cell 5
  have e6 := RE.cell 6
  have e7 := RE.cell 7
  have e9 := RE.lt
  simp at e0 e1 e2 e3 e4 e5 e6 e7
  have FA : Hid (∀ wx : World, Below E.heap.size E wx → Blk wx V #[.int .i64 z0, .int .i64 r0, .int .i64 m0, .int .i64 k0, .int .i64 i0, .slice a0 sh.length ca0, .slice b0 ot.length cb0, .slice c0 p.length cc0] 32 ∧ Has wx .i64 a0 sh.length sh ∧ Has wx .i64 b0 ot.length ot ∧ Has wx .i64 c0 p.length p) := fun wx h => by
    have h' := BE.trans (h.mono BE.size)
    exact ⟨RE.below h RE.lt, A1.below h' (Nat.le_refl _), A2.below h' (Nat.le_refl _), A3.below h' (Nat.le_refl _)⟩
  clear A1 A2 A3 RE
  by_cases hbig : sh.length + ot.length + p.length ≤ 1048576
  case neg =>
    have hif : (if sh.length + ot.length + p.length ≤ 1048576 then (1048576 : Int) - sh.length - ot.length - p.length else -1) = -1 := if_neg hbig
    clear hbig
    go_enter Try.func4, Try.ntmps4
    go_wp2_with fail
    simp only [← hV, ← hE]
    clear hV hE
    refine (szSigned_any z0 r0 m0 k0 i0 a0 b0 c0 _ _ _ ca0 cb0 cc0 _ hl1 hl2 hl3).mono ?_
    rintro r u1 ⟨rfl, hb1⟩
    rw [hif]
    go_wp2
    go_ret
    exact ⟨rfl, BE.trans (hb1.mono BE.size)⟩
  case pos =>
    have s1 : sh.length ≤ 1048576 := by omega
    have s2 : ot.length ≤ 1048576 := by omega
    have s3 : p.length ≤ 1048576 := by omega
    obtain ⟨cd, hcd⟩ : ∃ c, c = sdF z0 r0 m0 k0 i0 sh ot p := ⟨_, rfl⟩
    have SP : Hid (∀ (a b c : Option Addr) (ca cb cc : Nat) (x : World), Has x .i64 a sh.length sh → Has x .i64 b ot.length ot → Has x .i64 c p.length p → Calls Try.prog 10 #[.agg #[.int .i64 z0, .int .i64 r0, .int .i64 m0, .int .i64 k0, .int .i64 i0, .slice a sh.length ca, .slice b ot.length cb, .slice c p.length cc]] x fun r w' => r = .returned (.int .i64 cd) ∧ Below x.heap.size x w') := by
      rw [hcd]
      exact fun a b c ca cb cc x h1 h2 h3 => specSignedFault_any z0 r0 m0 k0 i0 a b c ca cb cc sh ot p x h1 h2 h3 s1 s2 s3
    have IM : Hid (∀ (a b c : Option Addr) (ca cb cc : Nat) (x : World), Has x .i64 a sh.length sh → Has x .i64 b ot.length ot → Has x .i64 c p.length p → Calls Try.prog 12 #[.agg #[.int .i64 z0, .int .i64 r0, .int .i64 m0, .int .i64 k0, .int .i64 i0, .slice a sh.length ca, .slice b ot.length cb, .slice c p.length cc]] x fun r w' => r = .returned (.int .i64 cd) ∧ Below x.heap.size x w') := by
      rw [hcd]
      exact fun a b c ca cb cc x h1 h2 h3 => implSignedFault_any z0 r0 m0 k0 i0 a b c ca cb cc sh ot p x h1 h2 h3 s1 s2 s3
    clear hcd
    have hif : (if sh.length + ot.length + p.length ≤ 1048576 then (1048576 : Int) - sh.length - ot.length - p.length else -1) = 1048576 - sh.length - ot.length - p.length := if_pos hbig
    have hnn : (0 : Int) ≤ 1048576 - sh.length - ot.length - p.length := by omega
    clear hbig
    go_enter Try.func4, Try.ntmps4
    go_wp2_with fail
    simp only [← hV, ← hE]
    clear hV hE e0 e1 e2 e3 e4 e5 e6 e7
    refine (szSigned_any z0 r0 m0 k0 i0 a0 b0 c0 _ _ _ ca0 cb0 cc0 _ hl1 hl2 hl3).mono ?_
    rintro r u1 ⟨rfl, hb1⟩
    rw [hif]
    have D1 := hb1
    obtain ⟨R1, H1, H2, H3⟩ := FA.out _ D1
    have e0 := R1.cell 0
    have e1 := R1.cell 1
    have e2 := R1.cell 2
    have e3 := R1.cell 3
    have e4 := R1.cell 4
    have e5 := R1.cell 5
    have e6 := R1.cell 6
    have e7 := R1.cell 7
    have e9 := R1.lt
    simp at e0 e1 e2 e3 e4 e5 e6 e7
    clear hb1 R1
    go_wp2_with fail
    refine (toSigned_any z0 r0 m0 k0 i0 a0 b0 c0 ca0 cb0 cc0 sh ot p _ H1 H2 H3 s1 s2 s3).mono ?_
    rintro r u2 ⟨g1, g2, g3, rfl, X1, X2, X3, hb2⟩
    have D2 := D1.trans (hb2.mono D1.size)
    clear H1 H2 H3 e0 e1 e2 e3 e4 e5 e6 e7 hb2
    go_wp2_with fail
    refine (SP.out _ _ _ _ _ _ _ X1 X2 X3).mono ?_
    rintro r u3 ⟨rfl, hb3⟩
    have D3 := D2.trans (hb3.mono D2.size)
    obtain ⟨R3, H1, H2, H3⟩ := FA.out _ D3
    have e0 := R3.cell 0
    have e1 := R3.cell 1
    have e2 := R3.cell 2
    have e3 := R3.cell 3
    have e4 := R3.cell 4
    have e5 := R3.cell 5
    have e6 := R3.cell 6
    have e7 := R3.cell 7
    have e9 := R3.lt
    simp at e0 e1 e2 e3 e4 e5 e6 e7
    clear hb3 R3 X1 X2 X3 D1 D2
    go_wp2_with fail
    refine (toSigned_any z0 r0 m0 k0 i0 a0 b0 c0 ca0 cb0 cc0 sh ot p _ H1 H2 H3 s1 s2 s3).mono ?_
    rintro r u4 ⟨g1, g2, g3, rfl, X1, X2, X3, hb4⟩
    have D4 := D3.trans (hb4.mono D3.size)
    clear H1 H2 H3 e0 e1 e2 e3 e4 e5 e6 e7 hb4 D3
    obtain ⟨G, hG⟩ : ∃ G, G = u4.heap.size := ⟨_, rfl⟩
    obtain ⟨F, hF⟩ : ∃ F, F = u4.alloc (.cells #[.int .i64 z0, .int .i64 r0, .int .i64 m0, .int .i64 k0, .int .i64 i0, .slice (some ⟨g1, 0, none⟩) sh.length sh.length, .slice (some ⟨g2, 0, none⟩) ot.length ot.length, .slice (some ⟨g3, 0, none⟩) p.length p.length] 37) := ⟨_, rfl⟩
    have BF : Below u4.heap.size u4 F := by rw [hF]; exact (Below.refl _ _).alloc (Nat.le_refl _) _
    have RF : Blk F G #[.int .i64 z0, .int .i64 r0, .int .i64 m0, .int .i64 k0, .int .i64 i0, .slice (some ⟨g1, 0, none⟩) sh.length sh.length, .slice (some ⟨g2, 0, none⟩) ot.length ot.length, .slice (some ⟨g3, 0, none⟩) p.length p.length] 37 := by rw [hF, hG]; exact Blk.new _ _ _
    have D5 := D4.trans (BF.mono D4.size)
    have VX : Hid (∀ wx : World, Below F.heap.size F wx → Blk wx G #[.int .i64 z0, .int .i64 r0, .int .i64 m0, .int .i64 k0, .int .i64 i0, .slice (some ⟨g1, 0, none⟩) sh.length sh.length, .slice (some ⟨g2, 0, none⟩) ot.length ot.length, .slice (some ⟨g3, 0, none⟩) p.length p.length] 37 ∧ Has wx .i64 (some ⟨g1, 0, none⟩) sh.length sh ∧ Has wx .i64 (some ⟨g2, 0, none⟩) ot.length ot ∧ Has wx .i64 (some ⟨g3, 0, none⟩) p.length p) := fun wx h => by
      have h' := BF.trans (h.mono BF.size)
      exact ⟨RF.below h RF.lt, X1.below h' (Nat.le_refl _), X2.below h' (Nat.le_refl _), X3.below h' (Nat.le_refl _)⟩
    clear X1 X2 X3 BF
    obtain ⟨RG, Y1, Y2, Y3⟩ := VX.out _ (Below.refl _ _)
    have e0 := RG.cell 0
    have e1 := RG.cell 1
    have e2 := RG.cell 2
    have e3 := RG.cell 3
    have e4 := RG.cell 4
    have e5 := RG.cell 5
    have e6 := RG.cell 6
    have e7 := RG.cell 7
    have e9 := RG.lt
    simp at e0 e1 e2 e3 e4 e5 e6 e7
    clear RG RF D4
    go_wp2_with fail
    simp only [← hG, ← hF]
    clear hG hF e0 e1 e2 e3 e4 e5 e6 e7
    refine (IM.out _ _ _ _ _ _ _ Y1 Y2 Y3).mono ?_
    rintro r u5 ⟨rfl, hb5⟩
    clear Y1 Y2 Y3
    have hne : (cd != cd) = false := by simp
    have K6 : Hid (∀ wx : World, Below u5.heap.size u5 wx → ((wx.cell? ⟨V, 0, none⟩ = some (.int .i64 z0) ∧ wx.cell? ⟨V, 1, none⟩ = some (.int .i64 r0) ∧ wx.cell? ⟨V, 2, none⟩ = some (.int .i64 m0) ∧ wx.cell? ⟨V, 3, none⟩ = some (.int .i64 k0) ∧ wx.cell? ⟨V, 4, none⟩ = some (.int .i64 i0) ∧ wx.cell? ⟨V, 5, none⟩ = some (.slice a0 sh.length ca0) ∧ wx.cell? ⟨V, 6, none⟩ = some (.slice b0 ot.length cb0) ∧ wx.cell? ⟨V, 7, none⟩ = some (.slice c0 p.length cc0)) ∧ (wx.cell? ⟨G, 0, none⟩ = some (.int .i64 z0) ∧ wx.cell? ⟨G, 1, none⟩ = some (.int .i64 r0) ∧ wx.cell? ⟨G, 2, none⟩ = some (.int .i64 m0) ∧ wx.cell? ⟨G, 3, none⟩ = some (.int .i64 k0) ∧ wx.cell? ⟨G, 4, none⟩ = some (.int .i64 i0) ∧ wx.cell? ⟨G, 5, none⟩ = some (.slice (some ⟨g1, 0, none⟩) sh.length sh.length) ∧ wx.cell? ⟨G, 6, none⟩ = some (.slice (some ⟨g2, 0, none⟩) ot.length ot.length) ∧ wx.cell? ⟨G, 7, none⟩ = some (.slice (some ⟨g3, 0, none⟩) p.length p.length))) ∧ Below u5.heap.size u5 wx) := fun wx h => by
      have h1 := hb5.trans (h.mono hb5.size)
      have q1 := (FA.out wx (D5.trans (h1.mono D5.size))).1
      have q2 := (VX.out wx h1).1
      refine ⟨⟨⟨?_, ?_, ?_, ?_, ?_, ?_, ?_, ?_⟩, ?_, ?_, ?_, ?_, ?_, ?_, ?_, ?_⟩, h⟩
      all_goals (first | exact (q1.cell _).trans rfl | exact (q2.cell _).trans rfl)
    have D0 : Below u5.heap.size u5 u5.drew := (Below.refl _ _).drew
    have hd := hb5.trans (D0.mono hb5.size)
    have HH := (VX.out _ hd).2
    have HA := (FA.out _ (D5.trans (hd.mono D5.size))).2
    have HHk : Hid (Has u5.drew .i64 (some ⟨g1, 0, none⟩) sh.length sh ∧ Has u5.drew .i64 (some ⟨g2, 0, none⟩) ot.length ot ∧ Has u5.drew .i64 (some ⟨g3, 0, none⟩) p.length p) := HH
    have HAk : Hid (Has u5.drew .i64 a0 sh.length sh ∧ Has u5.drew .i64 b0 ot.length ot ∧ Has u5.drew .i64 c0 p.length p) := HA
    have BW : Below w.heap.size w u5 := BE.trans ((D5.trans (hb5.mono D5.size)).mono BE.size)
    clear HH HA hd
    go_wp2_with fail
    go_region_held3 (fun wx => ((wx.cell? ⟨V, 0, none⟩ = some (.int .i64 z0) ∧ wx.cell? ⟨V, 1, none⟩ = some (.int .i64 r0) ∧ wx.cell? ⟨V, 2, none⟩ = some (.int .i64 m0) ∧ wx.cell? ⟨V, 3, none⟩ = some (.int .i64 k0) ∧ wx.cell? ⟨V, 4, none⟩ = some (.int .i64 i0) ∧ wx.cell? ⟨V, 5, none⟩ = some (.slice a0 sh.length ca0) ∧ wx.cell? ⟨V, 6, none⟩ = some (.slice b0 ot.length cb0) ∧ wx.cell? ⟨V, 7, none⟩ = some (.slice c0 p.length cc0)) ∧ (wx.cell? ⟨G, 0, none⟩ = some (.int .i64 z0) ∧ wx.cell? ⟨G, 1, none⟩ = some (.int .i64 r0) ∧ wx.cell? ⟨G, 2, none⟩ = some (.int .i64 m0) ∧ wx.cell? ⟨G, 3, none⟩ = some (.int .i64 k0) ∧ wx.cell? ⟨G, 4, none⟩ = some (.int .i64 i0) ∧ wx.cell? ⟨G, 5, none⟩ = some (.slice (some ⟨g1, 0, none⟩) sh.length sh.length) ∧ wx.cell? ⟨G, 6, none⟩ = some (.slice (some ⟨g2, 0, none⟩) ot.length ot.length) ∧ wx.cell? ⟨G, 7, none⟩ = some (.slice (some ⟨g3, 0, none⟩) p.length p.length))) ∧ Below u5.heap.size u5 wx)
      ((first | exact K6.out _ D0 | exact K6.out _ D1 | exact K6.out _ D2))
      (first | ((go_at_call 11; refine (toSigned_any z0 r0 m0 k0 i0 a0 b0 c0 ca0 cb0 cc0 sh ot p _ HAk.out.1 HAk.out.2.1 HAk.out.2.2 s1 s2 s3).mono ?_; rintro r u7 ⟨x1, x2, x3, rfl, X1, X2, X3, hb7⟩; have D1 := D0.trans (hb7.mono D0.size); have Y1 := HHk.out.1.below hb7 (Nat.le_refl _); have Y2 := HHk.out.2.1.below hb7 (Nat.le_refl _); have Y3 := HHk.out.2.2.below hb7 (Nat.le_refl _))) | ((go_at_call 13; refine (eqSigned_any z0 r0 m0 k0 i0 _ _ _ _ _ _ _ _ _ _ _ _ sh ot p _ Y1 Y2 Y3 X1 X2 X3 s1 s2 s3).mono ?_; rintro r u8 ⟨rfl, hb8⟩; have D2 := D1.trans (hb8.mono D1.size))))
    go_wp2
    go_ret
    exact ⟨rfl, BW.trans (D2.mono BW.size)⟩

set_option maxRecDepth 100000 in
theorem fnExactSignedFault_lifted (os : Os) (started : os.Started) (H : Type) (enc : TypeId × Value → H) :
    ReturnsInHanded {} Try.checked os 4 .any (Rows.fnExactSignedFaultSpec.pre6 enc Try.prog Try.f4 Rows.fnExactSignedFaultRow.domain false) (Rows.fnExactSignedFaultSpec.post enc Try.prog Try.f4 false true false false) := by
  refine returnsInHanded_of_change (C := Try.checked) own started (by kernel_rfl) Try.func4
    (ChangeSpec.witness6 (enc := enc) (C := Try.checked) false ⟨#[], #[.agg #[.int .i64 0, .int .i64 0, .int .i64 0, .int .i64 0, .int .i64 0, .slice none 0 0, .slice none 0 0, .slice none 0 0]], []⟩ 8 (by kernel_rfl) (by kernel_rfl) (by kernel_rfl) (by kernel_rfl)) ?_
  intro W base args ds gs before hval0 hW hcnd _
  have hval : ∀ (j : Nat) t v, Try.f4.params[j]? = some t → args[j]? = some v → Value.okWide Try.prog W .any base t v := hval0
  have hW' := hW
  obtain ⟨p, q, hA0, hV, rfl, hfz, hnd⟩ := hW
  have hA : DataW.TrodAll enc Try.prog W 0 (fun _ => true) true Try.f4.params.toList args.toList ds p := hA0
  rw [Try.params4] at hA hval
  obtain ⟨v0, vs0, d0, ds0, p0, q0, hargs, rfl, rfl, h0, r0⟩ := trodAll_cons hA
  obtain ⟨rfl, rfl, rfl⟩ := trodAll_nil r0
  obtain rfl : args = #[v0] := by cases args; simp_all
  obtain ⟨rfl, rfl⟩ := trodVars_none hV
  have g0 := h0
  have lt0 : ∀ x ∈ p0, x.block < W.heap.size := by obtain ⟨m, hm⟩ := g0; exact DataW.trod_lt m _ _ _ hm
  obtain ⟨t0, t1, t2, t3, t4, t5, t6, t7, y0, y1, y2, y3, y4, y5, y6, y7, fu, fv, fw, rfl, ⟨hy0, hy1, hy2, hy3⟩, ⟨hy4, hy5, hy6⟩, hy7⟩ := open_signed Try.underlying32 Try.underlying23 Try.underlying30 (by kernel_rfl) (by kernel_rfl) (by kernel_rfl) (by kernel_rfl) (by kernel_rfl) (hval 0 32 v0 rfl rfl) h0
  obtain ⟨z0, q0, rfl, wz0⟩ := DataW.trod_int Try.underlying2 hy0
  obtain ⟨r0, q1, rfl, wr0⟩ := DataW.trod_int Try.underlying2 hy1
  obtain ⟨m0, q2, rfl, wm0⟩ := DataW.trod_int Try.underlying2 hy2
  obtain ⟨k0, q3, rfl, wk0⟩ := DataW.trod_int Try.underlying2 hy3
  obtain ⟨i0, q4, rfl, wi0⟩ := DataW.trod_int Try.underlying2 hy4
  obtain ⟨a0, la0, ca0, sh0, q5, wa0⟩ := row_of_trod Try.underlying28 Try.underlying2 (by kernel_rfl) hy5
  obtain ⟨b0, lb0, cb0, ot0, q6, wb0⟩ := row_of_trod Try.underlying28 Try.underlying2 (by kernel_rfl) hy6
  obtain ⟨c0, lc0, cc0, p0, q7, wc0⟩ := row_of_trod Try.underlying28 Try.underlying2 (by kernel_rfl) hy7
  simp at q0 q1 q2 q3 q4
  subst q0 q1 q2 q3 q4 q5 q6 q7
  clear hA0 hval0
  refine (fnExactSignedFault_walk W z0 r0 m0 k0 i0 a0 b0 c0 la0 ca0 lb0 cb0 lc0 cc0 sh0 ot0 p0 wa0 wb0 wc0).mono fun e W' ⟨he, bel⟩ => ?_
  subst he
  exact ⟨_, rfl, _, _, _, [], _, [], hW', trodAll_mk1 (shut_bool Try.underlying4 _), (trodAll_cons_mk (Below.trod laidOut (by kernel_rfl) (of_decide_eq_true (by kernel_rfl)) g0 bel lt0) trodAll_mk0), rfl, bel.frame _, fun h => by cases h⟩

theorem fnExactSignedFault_holds : Rows.FnExactSignedFaultSaid :=
  OpenClaim.holds_of_wide 4 Try.f4 rfl rfl rfl rfl rfl rfl rfl ⟨rfl, rfl, rfl, rfl, rfl⟩ rfl rfl rfl rfl rfl (by kernel_rfl) Try.func4 (by kernel_rfl)
    (of_decide_eq_true (by kernel_rfl)) (by unfold Func.isWrapper; first | (rw [if_pos (by decide +kernel)]; kernel_rfl) | (rw [if_neg (by decide +kernel)]; exact ⟨rfl, rfl⟩))
    (fun os started H enc _ => fnExactSignedFault_lifted os started H enc)
#print axioms fnExactSignedFault_holds
end Go.Proofs.Ytffidkoejlebeaa
