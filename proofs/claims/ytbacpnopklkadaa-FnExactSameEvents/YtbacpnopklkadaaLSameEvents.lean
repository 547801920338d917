/- At every two Events the program's SameEvents answers as the specification's model of it, and leaves its arguments as they were; no condition. -/
import Derived.Test.YtbacpnopklkadaaIEvt
import Derived.Test.YtbacpnopklkadaaToEvent
import Derived.Test.YtbacpnopklkadaaAgg5
import Derived.Deep.RegionHeld3
import Derived.Deep.DeepCutAuto
namespace Go.Proofs.Ytbacpnopklkadaa
open Go.ChangeShapes Go.WideShapes Go.ChangeAt Go.RowKit
set_option linter.unusedVariables false
set_option linter.unusedSimpArgs false

set_option maxHeartbeats 4000000 in
theorem fnExactSameEvents_walk (w : World) (s0 v0 k0 x0 : Int) (a0 : Option Addr) (len0 cap0 : Nat) (z0 : List Int) (wx0 : (Lit.int .i64 x0).wf = true) (w0 : IsRow .u8 w a0 len0 cap0 z0) (s1 v1 k1 x1 : Int) (a1 : Option Addr) (len1 cap1 : Nat) (z1 : List Int) (wx1 : (Lit.int .i64 x1).wf = true) (w1 : IsRow .u8 w a1 len1 cap1 z1) :
    Calls Try.prog 6 #[.agg #[.int .i64 s0, .int .i64 v0, .int .i64 k0, .int .i64 x0, .slice a0 len0 cap0], .agg #[.int .i64 s1, .int .i64 v1, .int .i64 k1, .int .i64 x1, .slice a1 len1 cap1]] w fun e w' => e = .returned (.bool true) ∧ Below w.heap.size w w' := by
  have hm : ∀ (k : IntKind) (a : Option Addr) (l c : Nat) (z : List Int), IsRow k w a l c z → l ≤ 9223372036854775807 := by
    intro k a l c z h
    rcases h with ⟨_, rfl, _, _⟩ | ⟨_, _, h1, h2, _⟩
    · omega
    · unfold maxLen at h2; omega
  have hl1 := hm _ _ _ _ _ w0
  have hl2 := hm _ _ _ _ _ w1
  have A0 := Has.of_row w0
  have B0 := Has.of_row w1
  have hla := A0.1
  have hlb := B0.1
  generalize z0.take len0 = zs at A0 hla
  generalize z1.take len1 = ys at B0 hlb
  subst hla hlb
  clear w0 w1 hm
  have FW : ∀ wx : World, Below (w.heap.size + 2) ((w.alloc (.cells #[.int .i64 s0, .int .i64 v0, .int .i64 k0, .int .i64 x0, .slice a0 zs.length cap0] 24)).alloc (.cells #[.int .i64 s1, .int .i64 v1, .int .i64 k1, .int .i64 x1, .slice a1 ys.length cap1] 24)) wx → (wx.cell? ⟨w.heap.size, 0, none⟩ = some (.int .i64 s0) ∧ wx.cell? ⟨w.heap.size, 1, none⟩ = some (.int .i64 v0) ∧ wx.cell? ⟨w.heap.size, 2, none⟩ = some (.int .i64 k0) ∧ wx.cell? ⟨w.heap.size, 3, none⟩ = some (.int .i64 x0) ∧ wx.cell? ⟨w.heap.size, 4, none⟩ = some (.slice a0 zs.length cap0)) ∧ (wx.cell? ⟨w.heap.size + 1, 0, none⟩ = some (.int .i64 s1) ∧ wx.cell? ⟨w.heap.size + 1, 1, none⟩ = some (.int .i64 v1) ∧ wx.cell? ⟨w.heap.size + 1, 2, none⟩ = some (.int .i64 k1) ∧ wx.cell? ⟨w.heap.size + 1, 3, none⟩ = some (.int .i64 x1) ∧ wx.cell? ⟨w.heap.size + 1, 4, none⟩ = some (.slice a1 ys.length cap1)) ∧ Has wx .u8 a0 zs.length zs ∧ Has wx .u8 a1 ys.length ys := by
    intro wx h
    refine ⟨⟨?_, ?_, ?_, ?_, ?_⟩, ⟨?_, ?_, ?_, ?_, ?_⟩, ((A0.alloc _).alloc _).below h (by simp), ((B0.alloc _).alloc _).below h (by simp)⟩
    all_goals (refine (h.cell (by first | (show w.heap.size < _; omega) | (show w.heap.size + 1 < _; omega))).trans ?_; simp [go_sem])
  have FH : Hid (_) := FW
  clear FW
  have tok1 : True := trivial
  by_cases hbig : zs.length ≤ 1048576
  · have hif : (if (zs.length : Int) ≤ 1048576 then (1048576 : Int) - zs.length else -1) = 1048576 - zs.length := if_pos (by omega)
    have hnn : (0 : Int) ≤ 1048576 - zs.length := by omega
    by_cases hbig2 : (ys.length : Int) ≤ 1048576 - zs.length
    · have hif2 : (if (ys.length : Int) ≤ 1048576 - zs.length then (1048576 : Int) - zs.length - ys.length else -1) = 1048576 - zs.length - ys.length := if_pos hbig2
      have hnn2 : (0 : Int) ≤ 1048576 - zs.length - ys.length := by omega
      have hy : ys.length ≤ 1048576 := by omega
      go_enter Try.func6, Try.ntmps6
      go_upto_region 10 with (first | (go_at_call 7; have _t := tok1; refine (szEventL_any s0 v0 k0 x0 a0 _ cap0 1048576 _ hl1 (by omega) (by omega)).mono ?_; rintro r u1 ⟨rfl, hb1⟩; rw [hif]; clear tok1 _t; obtain ⟨hc1, hf1⟩ := bcell hb1; have hz1 := hb1.size) | (go_at_call 7; refine (szEventL_any s1 v1 k1 x1 a1 _ cap1 (1048576 - zs.length) _ hl2 (by omega) (by omega)).mono ?_; rintro r u2 ⟨rfl, hb2⟩; rw [hif2]))
      have hz2 := hb2.size
      simp at hz1
      have P2 : Below (w.heap.size + 2) ((w.alloc (.cells #[.int .i64 s0, .int .i64 v0, .int .i64 k0, .int .i64 x0, .slice a0 zs.length cap0] 24)).alloc (.cells #[.int .i64 s1, .int .i64 v1, .int .i64 k1, .int .i64 x1, .slice a1 ys.length cap1] 24)) u2 := (hb1.mono (by simp)).trans (hb2.mono (by omega))
      clear hc1 hf1 hb1 hb2
      have K2 : Hid (∀ wx : World, Below u2.heap.size u2 wx → (wx.cell? ⟨w.heap.size, 0, none⟩ = some (.int .i64 s0) ∧ wx.cell? ⟨w.heap.size, 1, none⟩ = some (.int .i64 v0) ∧ wx.cell? ⟨w.heap.size, 2, none⟩ = some (.int .i64 k0) ∧ wx.cell? ⟨w.heap.size, 3, none⟩ = some (.int .i64 x0) ∧ wx.cell? ⟨w.heap.size, 4, none⟩ = some (.slice a0 zs.length cap0)) ∧ (wx.cell? ⟨w.heap.size + 1, 0, none⟩ = some (.int .i64 s1) ∧ wx.cell? ⟨w.heap.size + 1, 1, none⟩ = some (.int .i64 v1) ∧ wx.cell? ⟨w.heap.size + 1, 2, none⟩ = some (.int .i64 k1) ∧ wx.cell? ⟨w.heap.size + 1, 3, none⟩ = some (.int .i64 x1) ∧ wx.cell? ⟨w.heap.size + 1, 4, none⟩ = some (.slice a1 ys.length cap1)) ∧ Below u2.heap.size u2 wx) := fun wx h => by
        obtain ⟨h1, h2, _, _⟩ := FH.out wx (P2.trans (h.mono (by omega)))
        exact ⟨h1, h2, h⟩
      obtain ⟨_, _, A2, B2⟩ := FH.out _ P2
      have D0 : Below u2.heap.size u2 u2.drew := (Below.refl _ _).drew
      have A3 := A2.below D0 (Nat.le_refl _)
      have B3 := B2.below D0 (Nat.le_refl _)
      clear A2 B2
      have tok2 : True := trivial
      go_region_held3 (fun wx => (wx.cell? ⟨w.heap.size, 0, none⟩ = some (.int .i64 s0) ∧ wx.cell? ⟨w.heap.size, 1, none⟩ = some (.int .i64 v0) ∧ wx.cell? ⟨w.heap.size, 2, none⟩ = some (.int .i64 k0) ∧ wx.cell? ⟨w.heap.size, 3, none⟩ = some (.int .i64 x0) ∧ wx.cell? ⟨w.heap.size, 4, none⟩ = some (.slice a0 zs.length cap0)) ∧ (wx.cell? ⟨w.heap.size + 1, 0, none⟩ = some (.int .i64 s1) ∧ wx.cell? ⟨w.heap.size + 1, 1, none⟩ = some (.int .i64 v1) ∧ wx.cell? ⟨w.heap.size + 1, 2, none⟩ = some (.int .i64 k1) ∧ wx.cell? ⟨w.heap.size + 1, 3, none⟩ = some (.int .i64 x1) ∧ wx.cell? ⟨w.heap.size + 1, 4, none⟩ = some (.slice a1 ys.length cap1)) ∧ Below u2.heap.size u2 wx)
        ((first | exact K2.out _ D0 | exact K2.out _ D1 | exact K2.out _ D2 | exact K2.out _ D3))
        (first | ((go_at_call 9; have _t := tok2; refine (toEventX_any s0 v0 k0 x0 a0 cap0 zs _ A3 hbig).mono ?_; rintro r u3 ⟨g3, rfl, X3, gl3, gm3, hb3⟩; clear tok2 _t; have D1 := D0.trans (hb3.mono D0.size); have B4 := B3.below hb3 (Nat.le_refl _))) | ((go_at_call 9; refine (toEventX_any s1 v1 k1 x1 a1 cap1 ys _ B4 hy).mono ?_; rintro r u4 ⟨g4, rfl, X4, gl4, gm4, hb4⟩; have D2 := D1.trans (hb4.mono D1.size); have X3' := X3.below hb4 (Nat.le_refl _))) | ((go_at_call 26; refine (specSameEvents_any s0 v0 k0 x0 s1 v1 k1 x1 _ _ _ _ zs ys _ X3' X4).mono ?_; rintro r u5 ⟨rfl, hb5⟩; have D3 := D2.trans (hb5.mono D2.size))))
      have P5 := P2.trans (D3.mono (by omega))
      have z5 := D3.size
      clear D0 D1 D2 D3 hb3 hb4 hb5 X3 X4 X3' A3 B3 B4 K2 P2 gl3 gm3 gl4 gm4
      obtain ⟨⟨c0, c1, c2, c3, c4⟩, ⟨d0, d1, d2, d3, d4⟩, A5, B5⟩ := FH.out _ P5
      have q5 : w.heap.size < u5.heap.size := by omega
      have q5' : w.heap.size + 1 < u5.heap.size := by omega
      clear d0 d1 d2 d3 d4 B5
      go_wp2_with fail
      refine (toEventX_any s0 v0 k0 x0 a0 cap0 zs _ A5 hbig).mono ?_
      rintro r u6 ⟨g6, rfl, X6, gl6, gm6, hb6⟩
      have z6 := hb6.size
      have P6 := P5.trans (hb6.mono (by omega))
      clear c0 c1 c2 c3 c4 A5 hb6 P5
      obtain ⟨_, ⟨d0, d1, d2, d3, d4⟩, _, B6⟩ := FH.out _ P6
      have q6 : w.heap.size < u6.heap.size := by omega
      have q6' : w.heap.size + 1 < u6.heap.size := by omega
      go_wp2_with fail
      refine (toEventX_any s1 v1 k1 x1 a1 cap1 ys _ (B6.alloc _) hy).mono ?_
      rintro r u7 ⟨g7, rfl, X7, gl7, gm7, hb7⟩
      have z7 := hb7.size
      simp at z7
      have P7 := (P6.alloc (by omega) (.cells #[.int .i64 s0, .int .i64 v0, .int .i64 k0, .int .i64 x0, .slice (some ⟨g6, 0, none⟩) zs.length zs.length] 27)).trans (hb7.mono (by simp; omega))
      have V0 : ∀ wx : World, Below (u6.heap.size + 1) (u6.alloc (.cells #[.int .i64 s0, .int .i64 v0, .int .i64 k0, .int .i64 x0, .slice (some ⟨g6, 0, none⟩) zs.length zs.length] 27)) wx → (wx.cell? ⟨u6.heap.size, 0, none⟩ = some (.int .i64 s0) ∧ wx.cell? ⟨u6.heap.size, 1, none⟩ = some (.int .i64 v0) ∧ wx.cell? ⟨u6.heap.size, 2, none⟩ = some (.int .i64 k0) ∧ wx.cell? ⟨u6.heap.size, 3, none⟩ = some (.int .i64 x0) ∧ wx.cell? ⟨u6.heap.size, 4, none⟩ = some (.slice (some ⟨g6, 0, none⟩) zs.length zs.length)) ∧ Has wx .u8 (some ⟨g6, 0, none⟩) zs.length zs := by
        intro wx h
        refine ⟨⟨?_, ?_, ?_, ?_, ?_⟩, (X6.alloc _).below h (by simp)⟩
        all_goals (refine (h.cell (by show u6.heap.size < _; omega)).trans ?_; simp [go_sem])
      have VH : Hid (_) := V0
      have Q7 : Below (u6.heap.size + 1) (u6.alloc (.cells #[.int .i64 s0, .int .i64 v0, .int .i64 k0, .int .i64 x0, .slice (some ⟨g6, 0, none⟩) zs.length zs.length] 27)) u7 := hb7.mono (by simp)
      clear d0 d1 d2 d3 d4 B6 hb7 V0 P6
      obtain ⟨⟨e0, e1, e2, e3, e4⟩, Y7⟩ := VH.out _ Q7
      have q7 : u6.heap.size < u7.heap.size := by omega
      go_wp2_with fail
      refine (implSameEvents_any s0 v0 k0 x0 s1 v1 k1 x1 _ _ _ _ zs ys _ (Y7.alloc _) (X7.alloc _)).mono ?_
      rintro r u8 ⟨rfl, hb8⟩
      have z8 := hb8.size
      simp at z8
      have P8 := (P7.alloc (by omega) (.cells #[.int .i64 s1, .int .i64 v1, .int .i64 k1, .int .i64 x1, .slice (some ⟨g7, 0, none⟩) ys.length ys.length] 27)).trans (hb8.mono (by simp; omega))
      have Q8 := (Q7.alloc (by omega) (.cells #[.int .i64 s1, .int .i64 v1, .int .i64 k1, .int .i64 x1, .slice (some ⟨g7, 0, none⟩) ys.length ys.length] 27)).trans (hb8.mono (by simp; omega))
      have U0 : ∀ wx : World, Below (u7.heap.size + 1) (u7.alloc (.cells #[.int .i64 s1, .int .i64 v1, .int .i64 k1, .int .i64 x1, .slice (some ⟨g7, 0, none⟩) ys.length ys.length] 27)) wx → (wx.cell? ⟨u7.heap.size, 0, none⟩ = some (.int .i64 s1) ∧ wx.cell? ⟨u7.heap.size, 1, none⟩ = some (.int .i64 v1) ∧ wx.cell? ⟨u7.heap.size, 2, none⟩ = some (.int .i64 k1) ∧ wx.cell? ⟨u7.heap.size, 3, none⟩ = some (.int .i64 x1) ∧ wx.cell? ⟨u7.heap.size, 4, none⟩ = some (.slice (some ⟨g7, 0, none⟩) ys.length ys.length)) ∧ Has wx .u8 (some ⟨g7, 0, none⟩) ys.length ys := by
        intro wx h
        refine ⟨⟨?_, ?_, ?_, ?_, ?_⟩, (X7.alloc _).below h (by simp)⟩
        all_goals (refine (h.cell (by show u7.heap.size < _; omega)).trans ?_; simp [go_sem])
      have UH : Hid (_) := U0
      have R8 : Below (u7.heap.size + 1) (u7.alloc (.cells #[.int .i64 s1, .int .i64 v1, .int .i64 k1, .int .i64 x1, .slice (some ⟨g7, 0, none⟩) ys.length ys.length] 27)) u8 := hb8.mono (by simp)
      clear e0 e1 e2 e3 e4 U0 hb8 P7 Q7 Y7 X7 X6
      have hne : (sameE s0 v0 k0 x0 s1 v1 k1 x1 zs ys != sameE s0 v0 k0 x0 s1 v1 k1 x1 zs ys) = false := by simp
      generalize sameE s0 v0 k0 x0 s1 v1 k1 x1 zs ys = sm at hne
      have q8 : w.heap.size < u8.heap.size := by omega
      have q9 : w.heap.size + 1 < u8.heap.size := by omega
      have q10 : u6.heap.size < u8.heap.size := by omega
      have q11 : u7.heap.size < u8.heap.size := by omega
      have K8 : Hid (∀ wx : World, Below u8.heap.size u8 wx → ((wx.cell? ⟨w.heap.size, 0, none⟩ = some (.int .i64 s0) ∧ wx.cell? ⟨w.heap.size, 1, none⟩ = some (.int .i64 v0) ∧ wx.cell? ⟨w.heap.size, 2, none⟩ = some (.int .i64 k0) ∧ wx.cell? ⟨w.heap.size, 3, none⟩ = some (.int .i64 x0) ∧ wx.cell? ⟨w.heap.size, 4, none⟩ = some (.slice a0 zs.length cap0)) ∧ (wx.cell? ⟨u6.heap.size, 0, none⟩ = some (.int .i64 s0) ∧ wx.cell? ⟨u6.heap.size, 1, none⟩ = some (.int .i64 v0) ∧ wx.cell? ⟨u6.heap.size, 2, none⟩ = some (.int .i64 k0) ∧ wx.cell? ⟨u6.heap.size, 3, none⟩ = some (.int .i64 x0) ∧ wx.cell? ⟨u6.heap.size, 4, none⟩ = some (.slice (some ⟨g6, 0, none⟩) zs.length zs.length))) ∧ Below u8.heap.size u8 wx) := fun wx h => by
        obtain ⟨h1, _, _, _⟩ := FH.out wx (P8.trans (h.mono (by omega)))
        obtain ⟨h3, _⟩ := VH.out wx (Q8.trans (h.mono (by omega)))
        exact ⟨⟨h1, h3⟩, h⟩
      go_wp2
      have D0 : Below u8.heap.size u8 u8.drew := (Below.refl _ _).drew
      obtain ⟨_, _, A8, _⟩ := FH.out _ (P8.trans (D0.mono (by omega)))
      obtain ⟨_, Y8⟩ := VH.out _ (Q8.trans (D0.mono (by omega)))
      clear hne
      go_region_held3 (fun wx => ((wx.cell? ⟨w.heap.size, 0, none⟩ = some (.int .i64 s0) ∧ wx.cell? ⟨w.heap.size, 1, none⟩ = some (.int .i64 v0) ∧ wx.cell? ⟨w.heap.size, 2, none⟩ = some (.int .i64 k0) ∧ wx.cell? ⟨w.heap.size, 3, none⟩ = some (.int .i64 x0) ∧ wx.cell? ⟨w.heap.size, 4, none⟩ = some (.slice a0 zs.length cap0)) ∧ (wx.cell? ⟨u6.heap.size, 0, none⟩ = some (.int .i64 s0) ∧ wx.cell? ⟨u6.heap.size, 1, none⟩ = some (.int .i64 v0) ∧ wx.cell? ⟨u6.heap.size, 2, none⟩ = some (.int .i64 k0) ∧ wx.cell? ⟨u6.heap.size, 3, none⟩ = some (.int .i64 x0) ∧ wx.cell? ⟨u6.heap.size, 4, none⟩ = some (.slice (some ⟨g6, 0, none⟩) zs.length zs.length))) ∧ Below u8.heap.size u8 wx)
        ((first | exact K8.out _ D0 | exact K8.out _ D1 | exact K8.out _ D2))
        (first | ((go_at_call 9; refine (toEventX_any s0 v0 k0 x0 a0 cap0 zs _ A8 hbig).mono ?_; rintro r u9 ⟨g9, rfl, X9, gl9, gm9, hb9⟩; have D1 := D0.trans (hb9.mono D0.size); have Y9 := Y8.below hb9 (Nat.le_refl _))) | ((go_at_call 11; refine (eqEvent_any s0 v0 k0 x0 _ _ _ _ zs _ Y9 X9 hbig).mono ?_; rintro r ua ⟨rfl, hba⟩; have D2 := D1.trans (hba.mono D1.size))))
      have za := D2.size
      have Pa := P8.trans (D2.mono (by omega))
      have Ra := R8.trans (D2.mono (by omega))
      clear K8 D0 D1 D2 hb9 hba X9 Y9 A8 Y8 P8 Q8 R8 gl9 gm9
      have Ka : Hid (∀ wx : World, Below ua.heap.size ua wx → ((wx.cell? ⟨w.heap.size + 1, 0, none⟩ = some (.int .i64 s1) ∧ wx.cell? ⟨w.heap.size + 1, 1, none⟩ = some (.int .i64 v1) ∧ wx.cell? ⟨w.heap.size + 1, 2, none⟩ = some (.int .i64 k1) ∧ wx.cell? ⟨w.heap.size + 1, 3, none⟩ = some (.int .i64 x1) ∧ wx.cell? ⟨w.heap.size + 1, 4, none⟩ = some (.slice a1 ys.length cap1)) ∧ (wx.cell? ⟨u7.heap.size, 0, none⟩ = some (.int .i64 s1) ∧ wx.cell? ⟨u7.heap.size, 1, none⟩ = some (.int .i64 v1) ∧ wx.cell? ⟨u7.heap.size, 2, none⟩ = some (.int .i64 k1) ∧ wx.cell? ⟨u7.heap.size, 3, none⟩ = some (.int .i64 x1) ∧ wx.cell? ⟨u7.heap.size, 4, none⟩ = some (.slice (some ⟨g7, 0, none⟩) ys.length ys.length))) ∧ Below ua.heap.size ua wx) := fun wx h => by
        obtain ⟨_, h1, _, _⟩ := FH.out wx (Pa.trans (h.mono (by omega)))
        obtain ⟨h3, _⟩ := UH.out wx (Ra.trans (h.mono (by omega)))
        exact ⟨⟨h1, h3⟩, h⟩
      go_wp2
      have D0 : Below ua.heap.size ua ua.drew := (Below.refl _ _).drew
      obtain ⟨_, _, _, B8⟩ := FH.out _ (Pa.trans (D0.mono (by omega)))
      obtain ⟨_, Y8⟩ := UH.out _ (Ra.trans (D0.mono (by omega)))
      go_region_held3 (fun wx => ((wx.cell? ⟨w.heap.size + 1, 0, none⟩ = some (.int .i64 s1) ∧ wx.cell? ⟨w.heap.size + 1, 1, none⟩ = some (.int .i64 v1) ∧ wx.cell? ⟨w.heap.size + 1, 2, none⟩ = some (.int .i64 k1) ∧ wx.cell? ⟨w.heap.size + 1, 3, none⟩ = some (.int .i64 x1) ∧ wx.cell? ⟨w.heap.size + 1, 4, none⟩ = some (.slice a1 ys.length cap1)) ∧ (wx.cell? ⟨u7.heap.size, 0, none⟩ = some (.int .i64 s1) ∧ wx.cell? ⟨u7.heap.size, 1, none⟩ = some (.int .i64 v1) ∧ wx.cell? ⟨u7.heap.size, 2, none⟩ = some (.int .i64 k1) ∧ wx.cell? ⟨u7.heap.size, 3, none⟩ = some (.int .i64 x1) ∧ wx.cell? ⟨u7.heap.size, 4, none⟩ = some (.slice (some ⟨g7, 0, none⟩) ys.length ys.length))) ∧ Below ua.heap.size ua wx)
        ((first | exact Ka.out _ D0 | exact Ka.out _ D1 | exact Ka.out _ D2))
        (first | ((go_at_call 9; refine (toEventX_any s1 v1 k1 x1 a1 cap1 ys _ B8 hy).mono ?_; rintro r u9 ⟨g9, rfl, X9, gl9, gm9, hb9⟩; have D1 := D0.trans (hb9.mono D0.size); have Y9 := Y8.below hb9 (Nat.le_refl _))) | ((go_at_call 11; refine (eqEvent_any s1 v1 k1 x1 _ _ _ _ ys _ Y9 X9 hy).mono ?_; rintro r ub ⟨rfl, hbb⟩; have D2 := D1.trans (hbb.mono D1.size))))
      go_wp2
      go_ret
      refine ⟨rfl, ?_⟩
      exact (((Below.refl w.heap.size w).alloc (Nat.le_refl _) (.cells #[.int .i64 s0, .int .i64 v0, .int .i64 k0, .int .i64 x0, .slice a0 zs.length cap0] 24)).alloc (by simp) (.cells #[.int .i64 s1, .int .i64 v1, .int .i64 k1, .int .i64 x1, .slice a1 ys.length cap1] 24)).trans ((Pa.trans (D2.mono (by omega))).mono (by omega))
    · have hif2 : (if (ys.length : Int) ≤ 1048576 - zs.length then (1048576 : Int) - zs.length - ys.length else -1) = -1 := if_neg hbig2
      go_enter Try.func6, Try.ntmps6
      go_wp2_with (first | (go_at_call 7; have _t := tok1; refine (szEventL_any s0 v0 k0 x0 a0 _ cap0 1048576 _ hl1 (by omega) (by omega)).mono ?_; rintro r u1 ⟨rfl, hb1⟩; rw [hif]; clear tok1 _t; obtain ⟨hc1, hf1⟩ := bcell hb1; have hz1 := hb1.size) | (go_at_call 7; refine (szEventL_any s1 v1 k1 x1 a1 _ cap1 (1048576 - zs.length) _ hl2 (by omega) (by omega)).mono ?_; rintro r u2 ⟨rfl, hb2⟩; rw [hif2]))
      go_ret
      exact ⟨rfl, ((((Below.refl w.heap.size w).alloc (Nat.le_refl _) _).alloc (by simp) _).trans (hb1.mono (by simp; omega))).trans (hb2.mono (by simp at hz1; omega))⟩
  · have hif : (if (zs.length : Int) ≤ 1048576 then (1048576 : Int) - zs.length else -1) = -1 := if_neg (by omega)
    go_enter Try.func6, Try.ntmps6
    go_wp2_with (first | (go_at_call 7; have _t := tok1; refine (szEventL_any s0 v0 k0 x0 a0 _ cap0 1048576 _ hl1 (by omega) (by omega)).mono ?_; rintro r u1 ⟨rfl, hb1⟩; rw [hif]; clear tok1 _t; obtain ⟨hc1, hf1⟩ := bcell hb1; have hz1 := hb1.size))
    go_ret
    exact ⟨rfl, ((((Below.refl w.heap.size w).alloc (Nat.le_refl _) _).alloc (by simp) _).trans (hb1.mono (by simp; omega)))⟩

set_option maxRecDepth 100000 in
theorem fnExactSameEvents_lifted (os : Os) (started : os.Started) (H : Type) (enc : TypeId × Value → H) :
    ReturnsInHanded {} Try.checked os 6 .any (Rows.fnExactSameEventsSpec.pre6 enc Try.prog Try.f6 Rows.fnExactSameEventsRow.domain false) (Rows.fnExactSameEventsSpec.post enc Try.prog Try.f6 false true false false) := by
  refine returnsInHanded_of_change (C := Try.checked) own started (by kernel_rfl) Try.func6
    (ChangeSpec.witness6 (enc := enc) (C := Try.checked) false ⟨#[], #[.agg #[.int .i64 0, .int .i64 0, .int .i64 0, .int .i64 0, .slice none 0 0], .agg #[.int .i64 0, .int .i64 0, .int .i64 0, .int .i64 0, .slice none 0 0]], []⟩ 8 (by kernel_rfl) (by kernel_rfl) (by kernel_rfl) (by kernel_rfl)) ?_
  intro W base args ds gs before hval0 hW hcnd _
  have hval : ∀ (j : Nat) t v, Try.f6.params[j]? = some t → args[j]? = some v → Value.okWide Try.prog W .any base t v := hval0
  have hW' := hW
  obtain ⟨p, q, hA0, hV, rfl, hfz, hnd⟩ := hW
  have hA : DataW.TrodAll enc Try.prog W 0 (fun _ => true) true Try.f6.params.toList args.toList ds p := hA0
  rw [Try.params6] at hA hval
  obtain ⟨v0, vs0, d0, ds0, p0, q0, hargs, rfl, rfl, h0, r0⟩ := trodAll_cons hA
  obtain ⟨v1, vs1, d1, ds1, p1, q1, rfl, rfl, rfl, h1, r1⟩ := trodAll_cons r0
  obtain ⟨rfl, rfl, rfl⟩ := trodAll_nil r1
  obtain rfl : args = #[v0, v1] := by cases args; simp_all
  obtain ⟨rfl, rfl⟩ := trodVars_none hV
  have g0 := h0
  have lt0 : ∀ x ∈ p0, x.block < W.heap.size := by obtain ⟨m, hm⟩ := g0; exact DataW.trod_lt m _ _ _ hm
  have g1 := h1
  have lt1 : ∀ x ∈ p1, x.block < W.heap.size := by obtain ⟨m, hm⟩ := g1; exact DataW.trod_lt m _ _ _ hm
  obtain ⟨t0, t1, t2, t3, t4, y0, y1, y2, y3, y4, fu, rfl, hy0, hy1, hy2, hy3, hy4⟩ := open_five Try.underlying24 (by kernel_rfl) (by kernel_rfl) (hval 0 24 v0 rfl rfl) h0
  obtain ⟨s0, q0, rfl, ws0⟩ := DataW.trod_int Try.underlying2 hy0
  obtain ⟨v0, q1, rfl, wv0⟩ := DataW.trod_int Try.underlying2 hy1
  obtain ⟨k0, q2, rfl, wk0⟩ := DataW.trod_int Try.underlying2 hy2
  obtain ⟨x0, q3, rfl, wx0⟩ := DataW.trod_int Try.underlying2 hy3
  obtain ⟨a0, len0, cap0, z0, q4, w0⟩ := row_of_trod Try.underlying22 Try.underlying5 (by kernel_rfl) hy4
  simp at q0 q1 q2 q3
  subst q0 q1 q2 q3 q4
  obtain ⟨t0, t1, t2, t3, t4, y0, y1, y2, y3, y4, fu, rfl, hy0, hy1, hy2, hy3, hy4⟩ := open_five Try.underlying24 (by kernel_rfl) (by kernel_rfl) (hval 1 24 v1 rfl rfl) h1
  obtain ⟨s1, q0, rfl, ws1⟩ := DataW.trod_int Try.underlying2 hy0
  obtain ⟨v1, q1, rfl, wv1⟩ := DataW.trod_int Try.underlying2 hy1
  obtain ⟨k1, q2, rfl, wk1⟩ := DataW.trod_int Try.underlying2 hy2
  obtain ⟨x1, q3, rfl, wx1⟩ := DataW.trod_int Try.underlying2 hy3
  obtain ⟨a1, len1, cap1, z1, q4, w1⟩ := row_of_trod Try.underlying22 Try.underlying5 (by kernel_rfl) hy4
  simp at q0 q1 q2 q3
  subst q0 q1 q2 q3 q4
  clear hA0 hval0
  refine (fnExactSameEvents_walk W s0 v0 k0 x0 a0 len0 cap0 z0 wx0 w0 s1 v1 k1 x1 a1 len1 cap1 z1 wx1 w1).mono fun e W' ⟨he, bel⟩ => ?_
  subst he
  exact ⟨_, rfl, _, _, _, [], _, [], hW', trodAll_mk1 (shut_bool Try.underlying4 _), (trodAll_cons_mk (Below.trod laidOut (by kernel_rfl) (of_decide_eq_true (by kernel_rfl)) g0 bel lt0) (trodAll_cons_mk (Below.trod laidOut (by kernel_rfl) (of_decide_eq_true (by kernel_rfl)) g1 bel lt1) trodAll_mk0)), rfl, bel.frame _, fun h => by cases h⟩

theorem fnExactSameEvents_holds : Rows.FnExactSameEventsSaid :=
  OpenClaim.holds_of_wide 6 Try.f6 rfl rfl rfl rfl rfl rfl rfl ⟨rfl, rfl, rfl, rfl, rfl⟩ rfl rfl rfl rfl rfl (by kernel_rfl) Try.func6 (by kernel_rfl)
    (of_decide_eq_true (by kernel_rfl)) (by unfold Func.isWrapper; first | (rw [if_pos (by decide +kernel)]; kernel_rfl) | (rw [if_neg (by decide +kernel)]; exact ⟨rfl, rfl⟩))
    (fun os started H enc _ => fnExactSameEvents_lifted os started H enc)
#print axioms fnExactSameEvents_holds
end Go.Proofs.Ytbacpnopklkadaa
