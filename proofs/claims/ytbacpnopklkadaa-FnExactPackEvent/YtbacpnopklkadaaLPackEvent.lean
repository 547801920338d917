/- At every Event the program's PackEvent answers as the specification's model of it, leaves its argument as it was and answers in memory of its own; no condition. -/
import Derived.Test.YtbacpnopklkadaaIPack
import Derived.Test.YtbacpnopklkadaaMarkE
import Derived.Test.YtbacpnopklkadaaAgg5
import Derived.Deep.RegionHeld3
import Derived.Deep.DeepCutAuto
namespace Go.Proofs.Ytbacpnopklkadaa
open Go.ChangeShapes Go.WideShapes Go.ChangeAt Go.RowKit
set_option linter.unusedVariables false
set_option linter.unusedSimpArgs false

set_option maxHeartbeats 4000000 in
theorem fnExactPackEvent_walk (w : World) (s0 v0 k0 x0 : Int) (a0 : Option Addr) (len0 cap0 : Nat) (z0 : List Int) (wx0 : (Lit.int .i64 x0).wf = true) (w0 : IsRow .u8 w a0 len0 cap0 z0) :
    Calls Try.prog 4 #[.agg #[.int .i64 s0, .int .i64 v0, .int .i64 k0, .int .i64 x0, .slice a0 len0 cap0]] w fun e w' => e = .returned (.bool true) ∧ Below w.heap.size w w' := by
  have hm : ∀ (k : IntKind) (a : Option Addr) (l c : Nat) (z : List Int), IsRow k w a l c z → l ≤ 9223372036854775807 := by
    intro k a l c z h
    rcases h with ⟨_, rfl, _, _⟩ | ⟨_, _, h1, h2, _⟩
    · omega
    · unfold maxLen at h2; omega
  have hl1 := hm _ _ _ _ _ w0
  have A0 := Has.of_row w0
  have bx := bounds_i64 wx0
  have hla := A0.1
  generalize z0.take len0 = zs at A0 hla
  subst hla
  clear w0 hm
  have FA : Hid (∀ wx : World, Below (w.heap.size + 1) (w.alloc (.cells #[.int .i64 s0, .int .i64 v0, .int .i64 k0, .int .i64 x0, .slice a0 zs.length cap0] 24)) wx → (wx.cell? ⟨w.heap.size, 0, none⟩ = some (.int .i64 s0) ∧ wx.cell? ⟨w.heap.size, 1, none⟩ = some (.int .i64 v0) ∧ wx.cell? ⟨w.heap.size, 2, none⟩ = some (.int .i64 k0) ∧ wx.cell? ⟨w.heap.size, 3, none⟩ = some (.int .i64 x0) ∧ wx.cell? ⟨w.heap.size, 4, none⟩ = some (.slice a0 zs.length cap0)) ∧ Has wx .u8 a0 zs.length zs) := by
    intro wx h
    refine ⟨⟨?_, ?_, ?_, ?_, ?_⟩, (A0.alloc _).below h (by simp)⟩
    all_goals (refine (h.cell (by show w.heap.size < _; omega)).trans ?_; simp [go_sem])
  have SP : Hid (∀ (a : Option Addr) (c : Nat) (x : World), Has x .u8 a zs.length zs → Calls Try.prog 12 #[.agg #[.int .i64 s0, .int .i64 v0, .int .i64 k0, .int .i64 x0, .slice a zs.length c]] x fun r w' => ∃ a' c', r = .returned (.agg #[.int .i64 (evF s0 v0 k0 x0 zs.length), .slice a' (packB s0 v0 k0 x0 zs).length c']) ∧ w'.ownsRow x.heap.size 5 1 (.slice a' (packB s0 v0 k0 x0 zs).length c') (packB s0 v0 k0 x0 zs).length ((packB s0 v0 k0 x0 zs).map (.int .u8)) ∧ Below x.heap.size x w') := fun a c x h => specPackEvent_any s0 v0 k0 x0 a c zs x h bx.1 bx.2 hl1
  have IM : Hid (∀ (a : Option Addr) (c : Nat) (x : World), Has x .u8 a zs.length zs → Calls Try.prog 13 #[.agg #[.int .i64 s0, .int .i64 v0, .int .i64 k0, .int .i64 x0, .slice a zs.length c]] x fun r w' => ∃ a' c', r = .returned (.agg #[.int .i64 (evF s0 v0 k0 x0 zs.length), .slice a' (packB s0 v0 k0 x0 zs).length c']) ∧ w'.ownsRow x.heap.size 5 1 (.slice a' (packB s0 v0 k0 x0 zs).length c') (packB s0 v0 k0 x0 zs).length ((packB s0 v0 k0 x0 zs).map (.int .u8)) ∧ Below x.heap.size x w') := fun a c x h => implPackEvent_any s0 v0 k0 x0 a c zs x h bx.1 bx.2 hl1
  have YL : Hid ((packB s0 v0 k0 x0 zs).length ≤ 1048576) := Nat.le_trans packB_len (by decide)
  have YW : Hid (∀ n ∈ packB s0 v0 k0 x0 zs, (Lit.int .u8 n).wf = true) := packB_wf A0.2.1
  have ZW : Hid (∀ n ∈ zs, (Lit.int .u8 n).wf = true) := A0.2.1
  generalize packB s0 v0 k0 x0 zs = ys at SP IM YL YW
  generalize evF s0 v0 k0 x0 zs.length = cd at SP IM
  have yl : ys.length ≤ 1048576 := YL.out
  clear A0
  by_cases hbig : zs.length ≤ 1048576
  · have hif : (if (zs.length : Int) ≤ 1048576 then (1048576 : Int) - zs.length else -1) = 1048576 - zs.length := if_pos (by omega)
    have hnn : (0 : Int) ≤ 1048576 - zs.length := by omega
    have hge : (0 : Int) ≤ 1 + (ys.length : Int) := by omega
    have hgz : (0 : Int) ≤ 1 + (zs.length : Int) := by omega
    have hne : ((1 + (ys.length : Int)) != (1 + (ys.length : Int))) = false := by simp
    go_enter Try.func4, Try.ntmps4
    go_wp2_with fail
    refine (szEventL_any s0 v0 k0 x0 a0 _ cap0 1048576 _ hl1 (by omega) (by omega)).mono ?_
    rintro r u1 ⟨rfl, hb1⟩
    rw [hif]
    have z1 := hb1.size
    simp at z1
    have P1 : Below (w.heap.size + 1) (w.alloc (.cells #[.int .i64 s0, .int .i64 v0, .int .i64 k0, .int .i64 x0, .slice a0 zs.length cap0] 24)) u1 := hb1.mono (by simp)
    obtain ⟨⟨c0, c1, c2, c3, c4⟩, A1⟩ := FA.out _ P1
    clear hb1
    go_wp2_with fail
    refine (toEventX_any s0 v0 k0 x0 a0 cap0 zs _ A1 hbig).mono ?_
    rintro r u2 ⟨g2, rfl, X2, gl2, gm2, hb2⟩
    have z2 := hb2.size
    have P2 := P1.trans (hb2.mono (by omega))
    clear c0 c1 c2 c3 c4 A1 hb2 P1 gl2 gm2
    go_wp2_with fail
    refine (SP.out _ _ _ X2).mono ?_
    rintro r u3 ⟨b1, e1, rfl, O3, hb3⟩
    have z3 := hb3.size
    have P3 := P2.trans (hb3.mono (by omega))
    have Y3 := has_of_own O3 YW.out
    clear X2 P2 hb3 O3
    have GA : Hid (∀ wx : World, Below (u3.heap.size + 1) (u3.alloc (.cells #[.int .i64 cd, .slice b1 ys.length e1] 32)) wx → ((wx.cell? ⟨w.heap.size, 0, none⟩ = some (.int .i64 s0) ∧ wx.cell? ⟨w.heap.size, 1, none⟩ = some (.int .i64 v0) ∧ wx.cell? ⟨w.heap.size, 2, none⟩ = some (.int .i64 k0) ∧ wx.cell? ⟨w.heap.size, 3, none⟩ = some (.int .i64 x0) ∧ wx.cell? ⟨w.heap.size, 4, none⟩ = some (.slice a0 zs.length cap0)) ∧ Has wx .u8 a0 zs.length zs) ∧ VarAt wx u3.heap.size cd b1 ys.length e1 ∧ Has wx .u8 b1 ys.length ys) := fun wx h =>
      ⟨FA.out wx ((P3.alloc (by omega) _).trans (h.mono (by omega))), (VarAt.new u3 cd b1 ys.length e1 32).below h (by omega), (Y3.alloc _).below h (by simp)⟩
    obtain ⟨⟨c0, c1, c2, c3, c4⟩, A3⟩ := FA.out _ P3
    have q3 : w.heap.size < u3.heap.size := by omega
    go_wp2_with fail
    refine (toEventO_any s0 v0 k0 x0 a0 cap0 zs _ (A3.alloc _) hbig).mono ?_
    rintro r u4 ⟨g4, rfl, O4, gl4, gm4, hb4⟩
    have z4 := hb4.size
    simp at z4 gl4
    have W4 : Below (u3.heap.size + 1) (u3.alloc (.cells #[.int .i64 cd, .slice b1 ys.length e1] 32)) u4 := hb4.mono (by simp)
    have X4 := has_of_own O4 ZW.out
    clear c0 c1 c2 c3 c4 A3 hb4 Y3
    go_wp2_with fail
    refine (IM.out _ _ _ (X4.alloc _)).mono ?_
    rintro r u5 ⟨b2, e2, rfl, O5, hb5⟩
    have z5 := hb5.size
    simp at z5
    have VX : Hid (∀ wx : World, Below (u4.heap.size + 1) (u4.alloc (.cells #[.int .i64 s0, .int .i64 v0, .int .i64 k0, .int .i64 x0, .slice (some ⟨g4, 0, none⟩) zs.length zs.length] 27)) wx → (wx.cell? ⟨u4.heap.size, 0, none⟩ = some (.int .i64 s0) ∧ wx.cell? ⟨u4.heap.size, 1, none⟩ = some (.int .i64 v0) ∧ wx.cell? ⟨u4.heap.size, 2, none⟩ = some (.int .i64 k0) ∧ wx.cell? ⟨u4.heap.size, 3, none⟩ = some (.int .i64 x0) ∧ wx.cell? ⟨u4.heap.size, 4, none⟩ = some (.slice (some ⟨g4, 0, none⟩) zs.length zs.length)) ∧ World.ownsRow wx (u3.heap.size + 1 + 1) 5 1 (.slice (some ⟨g4, 0, none⟩) zs.length zs.length) zs.length (zs.map (.int .u8))) := by
      intro wx h
      refine ⟨⟨?_, ?_, ?_, ?_, ?_⟩, ?_⟩
      iterate 5 (refine (h.cell (by show u4.heap.size < _; omega)).trans ?_; simp [go_sem])
      exact own_below (own_below (by simpa using O4) ((Below.refl _ _).alloc (Nat.le_refl _) _)) (h.mono (by simp))
    have W5 := (W4.alloc (by omega) (.cells #[.int .i64 s0, .int .i64 v0, .int .i64 k0, .int .i64 x0, .slice (some ⟨g4, 0, none⟩) zs.length zs.length] 27)).trans (hb5.mono (by simp; omega))
    have X5 : Below (u4.heap.size + 1) (u4.alloc (.cells #[.int .i64 s0, .int .i64 v0, .int .i64 k0, .int .i64 x0, .slice (some ⟨g4, 0, none⟩) zs.length zs.length] 27)) u5 := hb5.mono (by simp)
    have O5' : World.ownsRow u5 (u4.heap.size + 1) 5 1 (.slice b2 ys.length e2) ys.length (ys.map (.int .u8)) := by simpa using O5
    have Q5 := has_of_own O5' YW.out
    have g2 := own_lt O5'
    have g2b := own_base O5'
    obtain ⟨_, ⟨v0a, v0b⟩, Y5⟩ := GA.out _ W5
    have q5 : u3.heap.size < u5.heap.size := by omega
    clear O5 hb5 O4 W4 X4
    go_wp2_with fail
    refine (eqBytesR_any cd b2 b1 e2 e1 ys _ (Q5.alloc _) (Y5.alloc _) yl).mono ?_
    rintro r u6 ⟨rfl, hb6⟩
    have z6 := hb6.size
    simp at z6
    have V6 := (VarAt.new u5 cd b2 ys.length e2 32).below hb6 (by simp)
    have O6 := own_below (own_below O5' ((Below.refl _ _).alloc (Nat.le_refl _) (.cells #[.int .i64 cd, .slice b2 ys.length e2] 32))) hb6
    have W6 := (W5.alloc (by omega) (.cells #[.int .i64 cd, .slice b2 ys.length e2] 32)).trans (hb6.mono (by simp; omega))
    have X6 := (X5.alloc (by omega) (.cells #[.int .i64 cd, .slice b2 ys.length e2] 32)).trans (hb6.mono (by simp; omega))
    clear hb6 W5 X5 O5' Q5 Y5 v0a v0b
    have q6 : w.heap.size < u6.heap.size := by omega
    have q6' : u4.heap.size < u6.heap.size := by omega
    have K6 : Hid (∀ wx : World, Below u6.heap.size u6 wx → ((wx.cell? ⟨w.heap.size, 0, none⟩ = some (.int .i64 s0) ∧ wx.cell? ⟨w.heap.size, 1, none⟩ = some (.int .i64 v0) ∧ wx.cell? ⟨w.heap.size, 2, none⟩ = some (.int .i64 k0) ∧ wx.cell? ⟨w.heap.size, 3, none⟩ = some (.int .i64 x0) ∧ wx.cell? ⟨w.heap.size, 4, none⟩ = some (.slice a0 zs.length cap0)) ∧ (wx.cell? ⟨u4.heap.size, 0, none⟩ = some (.int .i64 s0) ∧ wx.cell? ⟨u4.heap.size, 1, none⟩ = some (.int .i64 v0) ∧ wx.cell? ⟨u4.heap.size, 2, none⟩ = some (.int .i64 k0) ∧ wx.cell? ⟨u4.heap.size, 3, none⟩ = some (.int .i64 x0) ∧ wx.cell? ⟨u4.heap.size, 4, none⟩ = some (.slice (some ⟨g4, 0, none⟩) zs.length zs.length))) ∧ Below u6.heap.size u6 wx) := fun wx h => by
      obtain ⟨⟨h1, _⟩, _⟩ := GA.out wx (W6.trans (h.mono (by omega)))
      obtain ⟨h3, _⟩ := VX.out wx (X6.trans (h.mono (by omega)))
      exact ⟨⟨h1, h3⟩, h⟩
    go_wp2
    have D0 : Below u6.heap.size u6 u6.drew := (Below.refl _ _).drew
    obtain ⟨⟨_, A8⟩, _⟩ := GA.out _ (W6.trans (D0.mono (by omega)))
    obtain ⟨_, Y8o⟩ := VX.out _ (X6.trans (D0.mono (by omega)))
    have Y8 := has_of_own Y8o ZW.out
    have HH : Hid (Has u6.drew .u8 (some ⟨g4, 0, none⟩) zs.length zs) := Y8
    have HA : Hid (Has u6.drew .u8 a0 zs.length zs) := A8
    clear Y8 Y8o A8
    go_region_held3 (fun wx => ((wx.cell? ⟨w.heap.size, 0, none⟩ = some (.int .i64 s0) ∧ wx.cell? ⟨w.heap.size, 1, none⟩ = some (.int .i64 v0) ∧ wx.cell? ⟨w.heap.size, 2, none⟩ = some (.int .i64 k0) ∧ wx.cell? ⟨w.heap.size, 3, none⟩ = some (.int .i64 x0) ∧ wx.cell? ⟨w.heap.size, 4, none⟩ = some (.slice a0 zs.length cap0)) ∧ (wx.cell? ⟨u4.heap.size, 0, none⟩ = some (.int .i64 s0) ∧ wx.cell? ⟨u4.heap.size, 1, none⟩ = some (.int .i64 v0) ∧ wx.cell? ⟨u4.heap.size, 2, none⟩ = some (.int .i64 k0) ∧ wx.cell? ⟨u4.heap.size, 3, none⟩ = some (.int .i64 x0) ∧ wx.cell? ⟨u4.heap.size, 4, none⟩ = some (.slice (some ⟨g4, 0, none⟩) zs.length zs.length))) ∧ Below u6.heap.size u6 wx)
      ((first | exact K6.out _ D0 | exact K6.out _ D1 | exact K6.out _ D2))
      (first | ((go_at_call 9; refine (toEventX_any s0 v0 k0 x0 a0 cap0 zs _ HA.out hbig).mono ?_; rintro r u7 ⟨g7, rfl, X7, gl7, gm7, hb7⟩; have D1 := D0.trans (hb7.mono D0.size); have Y9 := HH.out.below hb7 (Nat.le_refl _))) | ((go_at_call 11; refine (eqEvent_any s0 v0 k0 x0 _ _ _ _ zs _ Y9 X7 hbig).mono ?_; rintro r u8 ⟨rfl, hb8⟩; have D2 := D1.trans (hb8.mono D1.size))))
    have z8 := D2.size
    have W8 := W6.trans (D2.mono (by omega))
    have X8 := X6.trans (D2.mono (by omega))
    have V8 := V6.below D2 (by omega)
    have O8 := own_below O6 D2
    clear K6 D0 D1 D2 hb7 hb8 X7 Y9 HA HH W6 X6 V6 O6 gl7 gm7
    obtain ⟨⟨c0, c1, c2, c3, c4⟩, N8⟩ := VX.out _ X8
    have N8' : Hid (_ ∧ _) := N8
    clear N8
    go_wp2_with fail
    refine (markEvent_any _ s0 v0 k0 x0 _ _ zs _ N8'.out (by omega)).mono ?_
    rintro r u9 ⟨rfl, O9n, hm9⟩
    have z9 := hm9.size
    simp at z9
    have W9 := (W8.alloc (by omega) (.cells #[.int .i64 s0, .int .i64 v0, .int .i64 k0, .int .i64 x0, .slice (some ⟨g4, 0, none⟩) zs.length zs.length] 27)).trans (hm9.below (B := u3.heap.size + 1) (fun ad had => by cases had; show _ ≤ g4; omega))
    have V9 := (VarAt.below V8 ((Below.refl u8.heap.size u8).alloc (Nat.le_refl _) (.cells #[.int .i64 s0, .int .i64 v0, .int .i64 k0, .int .i64 x0, .slice (some ⟨g4, 0, none⟩) zs.length zs.length] 27)) (by omega)).mk hm9 (fun ad had => by cases had; show _ ≠ g4; omega)
    have O9 := hm9.own (own_below O8 ((Below.refl _ _).alloc (Nat.le_refl _) (.cells #[.int .i64 s0, .int .i64 v0, .int .i64 k0, .int .i64 x0, .slice (some ⟨g4, 0, none⟩) zs.length zs.length] 27))) (fun ad had => by cases had; show g4 < _; omega)
    clear c0 c1 c2 c3 c4 N8' hm9 O9n O8 V8 W8 X8
    obtain ⟨_, ⟨v0a, v0b⟩, Y9⟩ := GA.out _ W9
    obtain ⟨v6a, v6b⟩ := V9
    have Q9 := has_of_own O9 YW.out
    have OO9 : Hid (_ ∧ _) := O9
    have q9 : u3.heap.size < u9.heap.size := by omega
    clear O9
    go_wp2_with fail
    refine (eqBytesR_any cd b2 b1 e2 e1 ys _ Q9 Y9 yl).mono ?_
    rintro r u10 ⟨rfl, hb10⟩
    have z10 := hb10.size
    have W10 := W9.trans (hb10.mono (by omega))
    have V10 := VarAt.below ⟨v6a, v6b⟩ hb10 (by omega)
    have O10 : World.ownsRow u10 (u4.heap.size + 1) 5 1 (.slice b2 ys.length e2) ys.length (ys.map (.int .u8)) := own_below OO9.out hb10
    have OO10 : Hid (_ ∧ _) := O10
    clear v0a v0b v6a v6b Y9 Q9 OO9 hb10 W9 O10
    obtain ⟨v6a, v6b⟩ := V10
    go_wp2_with fail
    refine (markBytesR_any _ cd b2 e2 ys _ OO10.out (by omega)).mono ?_
    rintro r u11 ⟨rfl, O11, hm11⟩
    have z11 := hm11.size
    simp at z11
    have W11 := (W10.alloc (by omega) (.cells #[.int .i64 cd, .slice b2 ys.length e2] 32)).trans (hm11.below (B := u3.heap.size + 1) (fun ad had => by have := g2b ad had; omega))
    have V11 := (VarAt.below ⟨v6a, v6b⟩ ((Below.refl u10.heap.size u10).alloc (Nat.le_refl _) (.cells #[.int .i64 cd, .slice b2 ys.length e2] 32)) (by omega)).mk hm11 (fun ad had => by have := g2 ad had; omega)
    have P11 := has_of_own O11 (markL_wf 1 ys.length)
    have OO11 : Hid (World.ownsRow u11 (u4.heap.size + 1) 5 1 (.slice b2 ys.length e2) ys.length ((markL 1 ys.length).map (.int .u8))) := O11
    clear v6a v6b OO10 hm11 W10 O11
    obtain ⟨v6a, v6b⟩ := V11
    go_wp2_with fail
    refine (heldBytesR_any cd b2 e2 ys.length _ P11 (by omega)).mono ?_
    rintro r u12 ⟨rfl, hb12⟩
    have z12 := hb12.size
    have W12 := W11.trans (hb12.mono (by omega))
    have V12 := VarAt.below ⟨v6a, v6b⟩ hb12 (by omega)
    have OO12 : Hid (World.ownsRow u12 (u4.heap.size + 1) 5 1 (.slice b2 ys.length e2) ys.length ((markL 1 ys.length).map (.int .u8))) := own_below OO11.out hb12
    clear v6a v6b OO11 hb12 W11 P11
    obtain ⟨⟨⟨c0, c1, c2, c3, c4⟩, A12⟩, _⟩ := GA.out _ W12
    go_wp2_with fail
    refine (toEventX_any s0 v0 k0 x0 a0 cap0 zs _ A12 hbig).mono ?_
    rintro r u13 ⟨g13, rfl, X13, gl13, gm13, hb13⟩
    have z13 := hb13.size
    have W13 := W12.trans (hb13.mono (by omega))
    have V13 := VarAt.below V12 hb13 (by omega)
    have OO13 : Hid (World.ownsRow u13 (u4.heap.size + 1) 5 1 (.slice b2 ys.length e2) ys.length ((markL 1 ys.length).map (.int .u8))) := own_below OO12.out hb13
    clear c0 c1 c2 c3 c4 A12 OO12 V12 W12 hb13 gl13 gm13
    go_wp2_with fail
    refine (IM.out _ _ _ X13).mono ?_
    rintro r u14 ⟨b3, e3, rfl, O14, hb14⟩
    have z14 := hb14.size
    have W14 := W13.trans (hb14.mono (by omega))
    have V14 := VarAt.below V13 hb14 (by omega)
    have OO14 : Hid (World.ownsRow u14 (u4.heap.size + 1) 5 1 (.slice b2 ys.length e2) ys.length ((markL 1 ys.length).map (.int .u8))) := own_below OO13.out hb14
    have Q14 := has_of_own O14 YW.out
    clear O14 OO13 V13 W13 hb14 X13
    obtain ⟨_, ⟨v0a, v0b⟩, Y14⟩ := GA.out _ W14
    obtain ⟨v6a, v6b⟩ := V14
    have q14 : u3.heap.size < u14.heap.size := by omega
    have q14' : u5.heap.size < u14.heap.size := by omega
    go_wp2_with fail
    refine (eqBytesR_any cd b3 b1 e3 e1 ys _ (Q14.alloc _) (Y14.alloc _) yl).mono ?_
    rintro r u15 ⟨rfl, hb15⟩
    have z15 := hb15.size
    simp at z15
    have W15 := (W14.alloc (by omega) (.cells #[.int .i64 cd, .slice b3 ys.length e3] 32)).trans (hb15.mono (by simp; omega))
    have V15 := (VarAt.below ⟨v6a, v6b⟩ ((Below.refl u14.heap.size u14).alloc (Nat.le_refl _) (.cells #[.int .i64 cd, .slice b3 ys.length e3] 32)) (by omega)).below hb15 (by simp; omega)
    have OO15 : Hid (World.ownsRow u15 (u4.heap.size + 1) 5 1 (.slice b2 ys.length e2) ys.length ((markL 1 ys.length).map (.int .u8))) := own_below (own_below OO14.out ((Below.refl _ _).alloc (Nat.le_refl _) (.cells #[.int .i64 cd, .slice b3 ys.length e3] 32))) hb15
    have P15 := has_of_own OO15.out (markL_wf 1 ys.length)
    clear v0a v0b v6a v6b OO14 W14 hb15 Q14 Y14
    obtain ⟨v6a, v6b⟩ := V15
    go_wp2_with fail
    refine (heldBytesR_any cd b2 e2 ys.length _ P15 (by omega)).mono ?_
    rintro r u16 ⟨rfl, hb16⟩
    go_wp2
    go_ret
    refine ⟨rfl, ?_⟩
    have W16 := W15.trans (hb16.mono (by omega))
    exact ((Below.refl w.heap.size w).alloc (Nat.le_refl _) (.cells #[.int .i64 s0, .int .i64 v0, .int .i64 k0, .int .i64 x0, .slice a0 zs.length cap0] 24)).trans (((P3.alloc (by omega) _).trans (W16.mono (by omega))).mono (by omega))
  · have hif : (if (zs.length : Int) ≤ 1048576 then (1048576 : Int) - zs.length else -1) = -1 := if_neg (by omega)
    go_enter Try.func4, Try.ntmps4
    go_wp2_with fail
    refine (szEventL_any s0 v0 k0 x0 a0 _ cap0 1048576 _ hl1 (by omega) (by omega)).mono ?_
    rintro r u1 ⟨rfl, hb1⟩
    rw [hif]
    go_wp2
    go_ret
    exact ⟨rfl, ((Below.refl w.heap.size w).alloc (Nat.le_refl _) _).trans (hb1.mono (by simp))⟩

set_option maxRecDepth 100000 in
theorem fnExactPackEvent_lifted (os : Os) (started : os.Started) (H : Type) (enc : TypeId × Value → H) :
    ReturnsInHanded {} Try.checked os 4 .any (Rows.fnExactPackEventSpec.pre6 enc Try.prog Try.f4 Rows.fnExactPackEventRow.domain false) (Rows.fnExactPackEventSpec.post enc Try.prog Try.f4 false true false false) := by
  refine returnsInHanded_of_change (C := Try.checked) own started (by kernel_rfl) Try.func4
    (ChangeSpec.witness6 (enc := enc) (C := Try.checked) false ⟨#[], #[.agg #[.int .i64 0, .int .i64 0, .int .i64 0, .int .i64 0, .slice none 0 0]], []⟩ 8 (by kernel_rfl) (by kernel_rfl) (by kernel_rfl) (by kernel_rfl)) ?_
  intro W base args ds gs before hval0 hW hcnd _
  have hval : ∀ (j : Nat) t v, Try.f4.params[j]? = some t → args[j]? = some v → Value.okWide Try.prog W .any base t v := hval0
  have hW' := hW
  obtain ⟨p, q, hA0, hV, rfl, hfz, hnd⟩ := hW
  have hA : DataW.TrodAll enc Try.prog W 0 (fun _ => true) true Try.f4.params.toList args.toList ds p := hA0
  rw [Try.params4] at hA hval
  obtain ⟨v0, vs0, d0, ds0, p0, q0, hargs, rfl, rfl, h0, r0⟩ := trodAll_cons hA
  obtain ⟨rfl, rfl, rfl⟩ := trodAll_nil r0
  obtain rfl : args = #[v0] := by cases args; simp_all
  obtain ⟨rfl, rfl⟩ := trodVars_none hV
  have g0 := h0
  have lt0 : ∀ x ∈ p0, x.block < W.heap.size := by obtain ⟨m, hm⟩ := g0; exact DataW.trod_lt m _ _ _ hm
  obtain ⟨t0, t1, t2, t3, t4, y0, y1, y2, y3, y4, fu, rfl, hy0, hy1, hy2, hy3, hy4⟩ := open_five Try.underlying24 (by kernel_rfl) (by kernel_rfl) (hval 0 24 v0 rfl rfl) h0
  obtain ⟨s0, q0, rfl, ws0⟩ := DataW.trod_int Try.underlying2 hy0
  obtain ⟨v0, q1, rfl, wv0⟩ := DataW.trod_int Try.underlying2 hy1
  obtain ⟨k0, q2, rfl, wk0⟩ := DataW.trod_int Try.underlying2 hy2
  obtain ⟨x0, q3, rfl, wx0⟩ := DataW.trod_int Try.underlying2 hy3
  obtain ⟨a0, len0, cap0, z0, q4, w0⟩ := row_of_trod Try.underlying22 Try.underlying5 (by kernel_rfl) hy4
  simp at q0 q1 q2 q3
  subst q0 q1 q2 q3 q4
  clear hA0 hval0
  refine (fnExactPackEvent_walk W s0 v0 k0 x0 a0 len0 cap0 z0 wx0 w0).mono fun e W' ⟨he, bel⟩ => ?_
  subst he
  exact ⟨_, rfl, _, _, _, [], _, [], hW', trodAll_mk1 (shut_bool Try.underlying4 _), (trodAll_cons_mk (Below.trod laidOut (by kernel_rfl) (of_decide_eq_true (by kernel_rfl)) g0 bel lt0) trodAll_mk0), rfl, bel.frame _, fun h => by cases h⟩

theorem fnExactPackEvent_holds : Rows.FnExactPackEventSaid :=
  OpenClaim.holds_of_wide 4 Try.f4 rfl rfl rfl rfl rfl rfl rfl ⟨rfl, rfl, rfl, rfl, rfl⟩ rfl rfl rfl rfl rfl (by kernel_rfl) Try.func4 (by kernel_rfl)
    (of_decide_eq_true (by kernel_rfl)) (by unfold Func.isWrapper; first | (rw [if_pos (by decide +kernel)]; kernel_rfl) | (rw [if_neg (by decide +kernel)]; exact ⟨rfl, rfl⟩))
    (fun os started H enc _ => fnExactPackEvent_lifted os started H enc)
#print axioms fnExactPackEvent_holds
end Go.Proofs.Ytbacpnopklkadaa
