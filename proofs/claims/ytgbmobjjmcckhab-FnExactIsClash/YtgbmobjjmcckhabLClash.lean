/- At every Clash the program's IsClash answers as the specification's model of it, and leaves its argument as it was; no condition. -/
import Derived.Test.YtgbmobjjmcckhabToClash
import Derived.Test.YtgbmobjjmcckhabIClash
import Derived.Deep.RegionHeld3
import Derived.Deep.DeepCutAuto
namespace Go.Proofs.Ytgbmobjjmcckhab
open Go.ChangeShapes Go.WideShapes Go.ChangeAt Go.RowKit
set_option linter.unusedVariables false
set_option linter.unusedSimpArgs false

set_option maxHeartbeats 4000000 in
theorem fnExactIsClash_walk (w : World) (f0 : Bool) (a0 b0 : Option Addr) (la0 ca0 lb0 cb0 : Nat) (z0 y0 : List Int) (wa0 : IsRow .u8 w a0 la0 ca0 z0) (wb0 : IsRow .u8 w b0 lb0 cb0 y0) :
    Calls Try.prog 3 #[.agg #[.bool f0, .slice a0 la0 ca0, .slice b0 lb0 cb0]] w fun e w' => e = .returned (.bool true) ∧ Below w.heap.size w w' := by
  have hm : ∀ (k : IntKind) (a : Option Addr) (l c : Nat) (z : List Int), IsRow k w a l c z → l ≤ 9223372036854775807 := by
    intro k a l c z h
    rcases h with ⟨_, rfl, _, _⟩ | ⟨_, _, h1, h2, _⟩
    · omega
    · unfold maxLen at h2; omega
  have hl1 := hm _ _ _ _ _ wa0
  have hl2 := hm _ _ _ _ _ wb0
  have A0 := Has.of_row wa0
  have B0 := Has.of_row wb0
  have hla := A0.1
  have hlb := B0.1
  generalize z0.take la0 = zs at A0 hla
  generalize y0.take lb0 = ys at B0 hlb
  subst hla hlb
  clear wa0 wb0 hm
  have AW := A0.alloc (.cells #[.bool f0, .slice a0 zs.length ca0, .slice b0 ys.length cb0] 24)
  have BW := B0.alloc (.cells #[.bool f0, .slice a0 zs.length ca0, .slice b0 ys.length cb0] 24)
  by_cases hbig : zs.length + ys.length ≤ 1048576
  · have hif : (if zs.length + ys.length ≤ 1048576 then (1048576 : Int) - zs.length - ys.length else -1) = 1048576 - zs.length - ys.length := if_pos hbig
    have hnn : (0 : Int) ≤ 1048576 - zs.length - ys.length := by omega
    have hza : zs.length ≤ 1048576 := by omega
    have hzb : ys.length ≤ 1048576 := by omega
    have hne : (isClashB f0 zs ys != isClashB f0 zs ys) = false := by simp
    have tok1 : True := trivial
    go_enter Try.func3, Try.ntmps3
    go_upto_region 10 with (first | (go_at_call 4; refine (szClash_any f0 a0 b0 _ _ ca0 cb0 _ hl1 hl2).mono ?_; rintro r u1 ⟨rfl, hb1⟩; rw [hif]; obtain ⟨hc1, hf1⟩ := bcell hb1; have hz1 := hb1.size; have A1 := AW.below hb1 (Nat.le_refl _); have B1 := BW.below hb1 (Nat.le_refl _)) | (go_at_call 6; have _t := tok1; refine (toClash_any f0 a0 b0 ca0 cb0 zs ys _ A1 B1 hza hzb).mono ?_; rintro r u2 ⟨g1, g2, rfl, X1, Y1, k1, k2, k3, hb2⟩; clear tok1 _t; have hz2 := hb2.size; have A2 := A1.below hb2 (Nat.le_refl _); have B2 := B1.below hb2 (Nat.le_refl _); clear A1 B1) | (go_at_call 5; refine (specIsClash_any f0 _ _ _ _ zs ys _ X1 Y1 (by omega) (by omega)).mono ?_; rintro r u3 ⟨rfl, hb3⟩; have hz3 := hb3.size; have A3 := A2.below hb3 (Nat.le_refl _); have B3 := B2.below hb3 (Nat.le_refl _); clear A2 B2 X1 Y1; have hB3 := (hb1.trans (hb2.mono hb1.size)).trans (hb3.mono (Nat.le_trans hb1.size hb2.size)); clear hc1 hf1; obtain ⟨hc3, hf3⟩ := bcell hB3) | (go_at_call 6; refine (toClash_any f0 a0 b0 ca0 cb0 zs ys _ A3 B3 hza hzb).mono ?_; rintro r u4 ⟨g3, g4, rfl, X4, Y4, k4, k5, k6, hb4⟩; have hz4 := hb4.size; have A4 := A3.below hb4 (Nat.le_refl _); have B4 := B3.below hb4 (Nat.le_refl _); clear A3 B3; have hB4 := hB3.trans (hb4.mono (by omega)); clear hc3 hf3) | (go_at_call 7; refine (implIsClash_any f0 _ _ _ _ zs ys _ (X4.alloc _) (Y4.alloc _) (by omega) (by omega)).mono ?_; rintro r u5 ⟨rfl, hb5⟩))
    have hz5 := hb5.size
    have A5 := (A4.alloc (.cells #[.bool f0, .slice (some ⟨g3, 0, none⟩) zs.length zs.length, .slice (some ⟨g4, 0, none⟩) ys.length ys.length] 27)).below hb5 (Nat.le_refl _)
    have B5 := (B4.alloc (.cells #[.bool f0, .slice (some ⟨g3, 0, none⟩) zs.length zs.length, .slice (some ⟨g4, 0, none⟩) ys.length ys.length] 27)).below hb5 (Nat.le_refl _)
    have X5 := (X4.alloc (.cells #[.bool f0, .slice (some ⟨g3, 0, none⟩) zs.length zs.length, .slice (some ⟨g4, 0, none⟩) ys.length ys.length] 27)).below hb5 (Nat.le_refl _)
    have Y5 := (Y4.alloc (.cells #[.bool f0, .slice (some ⟨g3, 0, none⟩) zs.length zs.length, .slice (some ⟨g4, 0, none⟩) ys.length ys.length] 27)).below hb5 (Nat.le_refl _)
    simp at hz1 hz5
    have hw4 : w.heap.size + 1 ≤ u4.heap.size := by omega
    have hB5 : Below (w.heap.size + 1) (w.alloc (.cells #[.bool f0, .slice a0 zs.length ca0, .slice b0 ys.length cb0] 24)) u5 := by
      have h1 := hB4.mono (show w.heap.size + 1 ≤ _ by simp)
      exact (h1.alloc hw4 (.cells #[.bool f0, .slice (some ⟨g3, 0, none⟩) zs.length zs.length, .slice (some ⟨g4, 0, none⟩) ys.length ys.length] 27)).trans (hb5.mono (by simp; omega))
    have q0 := (hB5.cell (p := ⟨w.heap.size, 0, none⟩) (by simp)).trans (show _ = some (.bool f0) by simp [go_sem])
    have q1 := (hB5.cell (p := ⟨w.heap.size, 1, none⟩) (by simp)).trans (show _ = some (.slice a0 zs.length ca0) by simp [go_sem])
    have q2 := (hB5.cell (p := ⟨w.heap.size, 2, none⟩) (by simp)).trans (show _ = some (.slice b0 ys.length cb0) by simp [go_sem])
    have q3 := (hb5.cell (p := ⟨u4.heap.size, 0, none⟩) (by simp)).trans (show _ = some (.bool f0) by simp [go_sem])
    have q4 := (hb5.cell (p := ⟨u4.heap.size, 1, none⟩) (by simp)).trans (show _ = some (.slice (some ⟨g3, 0, none⟩) zs.length zs.length) by simp [go_sem])
    have q5 := (hb5.cell (p := ⟨u4.heap.size, 2, none⟩) (by simp)).trans (show _ = some (.slice (some ⟨g4, 0, none⟩) ys.length ys.length) by simp [go_sem])
    have KS : ∀ wx : World, Below u5.heap.size u5 wx → wx.cell? ⟨w.heap.size, 0, none⟩ = some (.bool f0) ∧ wx.cell? ⟨w.heap.size, 1, none⟩ = some (.slice a0 zs.length ca0) ∧ wx.cell? ⟨w.heap.size, 2, none⟩ = some (.slice b0 ys.length cb0) ∧ wx.cell? ⟨u4.heap.size, 0, none⟩ = some (.bool f0) ∧ wx.cell? ⟨u4.heap.size, 1, none⟩ = some (.slice (some ⟨g3, 0, none⟩) zs.length zs.length) ∧ wx.cell? ⟨u4.heap.size, 2, none⟩ = some (.slice (some ⟨g4, 0, none⟩) ys.length ys.length) ∧ Below u5.heap.size u5 wx := fun wx h => ⟨(h.cell (p := ⟨w.heap.size, 0, none⟩) (show w.heap.size < _ by omega)).trans q0, (h.cell (p := ⟨w.heap.size, 1, none⟩) (show w.heap.size < _ by omega)).trans q1, (h.cell (p := ⟨w.heap.size, 2, none⟩) (show w.heap.size < _ by omega)).trans q2, (h.cell (p := ⟨u4.heap.size, 0, none⟩) (show u4.heap.size < _ by omega)).trans q3, (h.cell (p := ⟨u4.heap.size, 1, none⟩) (show u4.heap.size < _ by omega)).trans q4, (h.cell (p := ⟨u4.heap.size, 2, none⟩) (show u4.heap.size < _ by omega)).trans q5, h⟩
    have KSH : Hid (_) := KS
    have FIN : Hid (_) := ((Below.refl w.heap.size w).alloc (Nat.le_refl _) (.cells #[.bool f0, .slice a0 zs.length ca0, .slice b0 ys.length cb0] 24)).trans (hB5.mono (Nat.le_succ _))
    have KH : Hid (_) := (show w.heap.size ≤ u5.heap.size by omega)
    clear KS q0 q1 q2 q3 q4 q5 hB5 hw4 hB4 hB3 hb1 hb2 hb3 hb4 hb5 A4 B4 X4 Y4 AW BW A0 B0 hne hif hnn hl1 hl2
    go_region_held3 (fun wx => wx.cell? ⟨w.heap.size, 0, none⟩ = some (.bool f0) ∧ wx.cell? ⟨w.heap.size, 1, none⟩ = some (.slice a0 zs.length ca0) ∧ wx.cell? ⟨w.heap.size, 2, none⟩ = some (.slice b0 ys.length cb0) ∧ wx.cell? ⟨u4.heap.size, 0, none⟩ = some (.bool f0) ∧ wx.cell? ⟨u4.heap.size, 1, none⟩ = some (.slice (some ⟨g3, 0, none⟩) zs.length zs.length) ∧ wx.cell? ⟨u4.heap.size, 2, none⟩ = some (.slice (some ⟨g4, 0, none⟩) ys.length ys.length) ∧ Below u5.heap.size u5 wx)
      ((first | (refine KSH.out _ ?_; first | exact (Below.refl _ _).drew | (exact (Below.refl _ _).drew.trans (hb6.mono (Nat.le_refl _))) | (exact ((Below.refl _ _).drew.trans (hb6.mono (Nat.le_refl _))).trans (hb7.mono hb6.size)))))
      (first | ((go_at_call 6; refine (toClash_any f0 a0 b0 ca0 cb0 zs ys _ (A5.below (Below.refl _ _).drew (Nat.le_refl _)) (B5.below (Below.refl _ _).drew (Nat.le_refl _)) hza hzb).mono ?_; rintro r wa ⟨g5, g6, rfl, X6, Y6, k7, k8, k9, hb6⟩; have X7 := (X5.below (Below.refl _ _).drew (Nat.le_refl _)).below hb6 (Nat.le_refl _); have Y7 := (Y5.below (Below.refl _ _).drew (Nat.le_refl _)).below hb6 (Nat.le_refl _))) | ((go_at_call 8; refine (eqClash_any f0 _ _ _ _ _ _ _ _ zs ys _ X7 Y7 X6 Y6 hza hzb).mono ?_; rintro r wb ⟨rfl, hb7⟩)))
    go_wp2
    go_ret
    refine ⟨rfl, ?_⟩
    exact FIN.out.trans ((((Below.refl _ _).drew.trans (hb6.mono (Nat.le_refl _))).trans (hb7.mono hb6.size)).mono KH.out)
  · have hif : (if zs.length + ys.length ≤ 1048576 then (1048576 : Int) - zs.length - ys.length else -1) = -1 := if_neg hbig
    go_enter Try.func3, Try.ntmps3
    go_wp2_with (go_at_call 4; refine (szClash_any f0 a0 b0 _ _ ca0 cb0 _ hl1 hl2).mono ?_; rintro r u1 ⟨rfl, hb1⟩; rw [hif])
    go_ret
    exact ⟨rfl, ((Below.refl _ _).alloc (Nat.le_refl _) _).trans (hb1.mono (by simp))⟩

set_option maxRecDepth 100000 in
theorem fnExactIsClash_lifted (os : Os) (started : os.Started) (H : Type) (enc : TypeId × Value → H) :
    ReturnsInHanded {} Try.checked os 3 .any (Rows.fnExactIsClashSpec.pre6 enc Try.prog Try.f3 Rows.fnExactIsClashRow.domain false) (Rows.fnExactIsClashSpec.post enc Try.prog Try.f3 false true false false) := by
  refine returnsInHanded_of_change (C := Try.checked) own started (by kernel_rfl) Try.func3
    (ChangeSpec.witness6 (enc := enc) (C := Try.checked) false ⟨#[], #[.agg #[.bool false, .slice none 0 0, .slice none 0 0]], []⟩ 8 (by kernel_rfl) (by kernel_rfl) (by kernel_rfl) (by kernel_rfl)) ?_
  intro W base args ds gs before hval0 hW hcnd _
  have hval : ∀ (j : Nat) t v, Try.f3.params[j]? = some t → args[j]? = some v → Value.okWide Try.prog W .any base t v := hval0
  have hW' := hW
  obtain ⟨p, q, hA0, hV, rfl, hfz, hnd⟩ := hW
  have hA : DataW.TrodAll enc Try.prog W 0 (fun _ => true) true Try.f3.params.toList args.toList ds p := hA0
  rw [Try.params3] at hA hval
  obtain ⟨v0, vs0, d0, ds0, p0, q0, hargs, rfl, rfl, h0, r0⟩ := trodAll_cons hA
  obtain ⟨rfl, rfl, rfl⟩ := trodAll_nil r0
  obtain rfl : args = #[v0] := by cases args; simp_all
  obtain ⟨rfl, rfl⟩ := trodVars_none hV
  have g0 := h0
  have lt0 : ∀ x ∈ p0, x.block < W.heap.size := by obtain ⟨m, hm⟩ := g0; exact DataW.trod_lt m _ _ _ hm
  obtain ⟨t0, t1, t2, y0, y1, y2, fu, rfl, rfl, rfl, hy0, hy1, hy2⟩ := Go.Joins.open_agg3 Try.underlying24 (by kernel_rfl) (by kernel_rfl) (hval 0 24 v0 rfl rfl) h0
  obtain ⟨f0, q0, rfl⟩ := DataW.trod_bool Try.underlying4 hy0
  obtain ⟨a0, la0, ca0, z0, q1, wa0⟩ := row_of_trod Try.underlying22 Try.underlying5 (by kernel_rfl) hy1
  obtain ⟨b0, lb0, cb0, y0, q2, wb0⟩ := row_of_trod Try.underlying22 Try.underlying5 (by kernel_rfl) hy2
  simp at q0
  subst q0 q1 q2
  clear hA0 hval0
  refine (fnExactIsClash_walk W f0 a0 b0 la0 ca0 lb0 cb0 z0 y0 wa0 wb0).mono fun e W' ⟨he, bel⟩ => ?_
  subst he
  exact ⟨_, rfl, _, _, _, [], _, [], hW', trodAll_mk1 (shut_bool Try.underlying4 _), (trodAll_cons_mk (Below.trod laidOut (by kernel_rfl) (of_decide_eq_true (by kernel_rfl)) g0 bel lt0) trodAll_mk0), rfl, bel.frame _, fun h => by cases h⟩

theorem fnExactIsClash_holds : Rows.FnExactIsClashSaid :=
  OpenClaim.holds_of_wide 3 Try.f3 rfl rfl rfl rfl rfl rfl rfl ⟨rfl, rfl, rfl, rfl, rfl⟩ rfl rfl rfl rfl rfl (by kernel_rfl) Try.func3 (by kernel_rfl)
    (of_decide_eq_true (by kernel_rfl)) (by unfold Func.isWrapper; first | (rw [if_pos (by decide +kernel)]; kernel_rfl) | (rw [if_neg (by decide +kernel)]; exact ⟨rfl, rfl⟩))
    (fun os started H enc _ => fnExactIsClash_lifted os started H enc)
#print axioms fnExactIsClash_holds
end Go.Proofs.Ytgbmobjjmcckhab
