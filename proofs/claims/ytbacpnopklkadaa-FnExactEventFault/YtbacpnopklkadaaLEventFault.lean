/- At every Event the program's EventFault answers as the specification's model of it, and leaves its argument as it was; no condition. -/
import Derived.Test.YtbacpnopklkadaaIEvt
import Derived.Test.YtbacpnopklkadaaToEvent
import Derived.Test.YtbacpnopklkadaaAgg5
import Derived.Deep.RegionHeld3
import Derived.Deep.DeepCutAuto
namespace Go.Proofs.Ytbacpnopklkadaa
open Go.ChangeShapes Go.WideShapes Go.ChangeAt Go.RowKit
set_option linter.unusedVariables false
set_option linter.unusedSimpArgs false

set_option maxHeartbeats 8000000 in
theorem fnExactEventFault_walk (w : World) (s0 v0 k0 x0 : Int) (a0 : Option Addr) (len0 cap0 : Nat) (z0 : List Int) (wx0 : (Lit.int .i64 x0).wf = true) (w0 : IsRow .u8 w a0 len0 cap0 z0) :
    Calls Try.prog 3 #[.agg #[.int .i64 s0, .int .i64 v0, .int .i64 k0, .int .i64 x0, .slice a0 len0 cap0]] w fun e w' => e = .returned (.bool true) ∧ Below w.heap.size w w' := by
  have hm : ∀ (k : IntKind) (a : Option Addr) (l c : Nat) (z : List Int), IsRow k w a l c z → l ≤ 9223372036854775807 := by
    intro k a l c z h
    rcases h with ⟨_, rfl, _, _⟩ | ⟨_, _, h1, h2, _⟩
    · omega
    · unfold maxLen at h2; omega
  have hl1 := hm _ _ _ _ _ w0
  have b0 := bounds_i64 wx0
  have A0 := Has.of_row w0
  have hla := A0.1
  generalize z0.take len0 = zs at A0 hla
  subst hla
  clear w0 hm
  have AW := A0.alloc (.cells #[.int .i64 s0, .int .i64 v0, .int .i64 k0, .int .i64 x0, .slice a0 zs.length cap0] 24)
  by_cases hbig : zs.length ≤ 1048576
  · have hif : (if zs.length ≤ 1048576 then (1048576 : Int) - zs.length else -1) = 1048576 - zs.length := if_pos hbig
    have hnn : (0 : Int) ≤ 1048576 - zs.length := by omega
    have hne : (evF s0 v0 k0 x0 zs.length != evF s0 v0 k0 x0 zs.length) = false := by simp
    have tok1 : True := trivial
    go_enter Try.func3, Try.ntmps3
    go_upto_region 10 with (first | (go_at_call 7; refine (szEvent_any s0 v0 k0 x0 a0 _ cap0 _ hl1).mono ?_; rintro r u1 ⟨rfl, hb1⟩; rw [hif]; obtain ⟨hc1, hf1⟩ := bcell hb1; have hz1 := hb1.size; have A1 := AW.below hb1 (Nat.le_refl _)) | (go_at_call 9; have _t := tok1; refine (toEventX_any s0 v0 k0 x0 a0 cap0 zs _ A1 hbig).mono ?_; rintro r u2 ⟨g2, rfl, X2, gl2, gm2, hb2⟩; clear tok1 _t; have hz2 := hb2.size; have A2 := A1.below hb2 (Nat.le_refl _); clear A1) | (go_at_call 8; refine (specEventFault_any s0 v0 k0 x0 _ _ _ _ b0.1 b0.2 hl1).mono ?_; rintro r u3 ⟨rfl, hb3⟩; have hz3 := hb3.size; have A3 := A2.below hb3 (Nat.le_refl _); clear A2 X2; have hB3 := (hb1.trans (hb2.mono hb1.size)).trans (hb3.mono (Nat.le_trans hb1.size hb2.size)); clear hc1 hf1; obtain ⟨hc3, hf3⟩ := bcell hB3) | (go_at_call 9; refine (toEventX_any s0 v0 k0 x0 a0 cap0 zs _ A3 hbig).mono ?_; rintro r u4 ⟨g4, rfl, X4, gl4, gm4, hb4⟩; have hz4 := hb4.size; have A4 := A3.below hb4 (Nat.le_refl _); clear A3; have hB4 := hB3.trans (hb4.mono (by omega)); clear hc3 hf3) | (go_at_call 10; refine (implEventFault_any s0 v0 k0 x0 _ _ _ _ b0.1 b0.2 hl1).mono ?_; rintro r u5 ⟨rfl, hb5⟩))
    have hz5 := hb5.size
    have A5 := (A4.alloc (.cells #[.int .i64 s0, .int .i64 v0, .int .i64 k0, .int .i64 x0, .slice (some ⟨g4, 0, none⟩) zs.length zs.length] 27)).below hb5 (Nat.le_refl _)
    have X5 := (X4.alloc (.cells #[.int .i64 s0, .int .i64 v0, .int .i64 k0, .int .i64 x0, .slice (some ⟨g4, 0, none⟩) zs.length zs.length] 27)).below hb5 (Nat.le_refl _)
    simp at hz1 hz5
    have hw4 : w.heap.size + 1 ≤ u4.heap.size := by omega
    have hB5 : Below (w.heap.size + 1) (w.alloc (.cells #[.int .i64 s0, .int .i64 v0, .int .i64 k0, .int .i64 x0, .slice a0 zs.length cap0] 24)) u5 := by
      have h1 := hB4.mono (show w.heap.size + 1 ≤ _ by simp)
      exact (h1.alloc hw4 (.cells #[.int .i64 s0, .int .i64 v0, .int .i64 k0, .int .i64 x0, .slice (some ⟨g4, 0, none⟩) zs.length zs.length] 27)).trans (hb5.mono (by simp; omega))
    have q0 := (hB5.cell (p := ⟨w.heap.size, 0, none⟩) (by simp)).trans (show _ = some (.int .i64 s0) by simp [go_sem])
    have q1 := (hB5.cell (p := ⟨w.heap.size, 1, none⟩) (by simp)).trans (show _ = some (.int .i64 v0) by simp [go_sem])
    have q2 := (hB5.cell (p := ⟨w.heap.size, 2, none⟩) (by simp)).trans (show _ = some (.int .i64 k0) by simp [go_sem])
    have q3 := (hB5.cell (p := ⟨w.heap.size, 3, none⟩) (by simp)).trans (show _ = some (.int .i64 x0) by simp [go_sem])
    have q4 := (hB5.cell (p := ⟨w.heap.size, 4, none⟩) (by simp)).trans (show _ = some (.slice a0 zs.length cap0) by simp [go_sem])
    have p0 := (hb5.cell (p := ⟨u4.heap.size, 0, none⟩) (by simp)).trans (show _ = some (.int .i64 s0) by simp [go_sem])
    have p1 := (hb5.cell (p := ⟨u4.heap.size, 1, none⟩) (by simp)).trans (show _ = some (.int .i64 v0) by simp [go_sem])
    have p2 := (hb5.cell (p := ⟨u4.heap.size, 2, none⟩) (by simp)).trans (show _ = some (.int .i64 k0) by simp [go_sem])
    have p3 := (hb5.cell (p := ⟨u4.heap.size, 3, none⟩) (by simp)).trans (show _ = some (.int .i64 x0) by simp [go_sem])
    have p4 := (hb5.cell (p := ⟨u4.heap.size, 4, none⟩) (by simp)).trans (show _ = some (.slice (some ⟨g4, 0, none⟩) zs.length zs.length) by simp [go_sem])
    have KS : ∀ wx : World, Below u5.heap.size u5 wx → wx.cell? ⟨w.heap.size, 0, none⟩ = some (.int .i64 s0) ∧ wx.cell? ⟨w.heap.size, 1, none⟩ = some (.int .i64 v0) ∧ wx.cell? ⟨w.heap.size, 2, none⟩ = some (.int .i64 k0) ∧ wx.cell? ⟨w.heap.size, 3, none⟩ = some (.int .i64 x0) ∧ wx.cell? ⟨w.heap.size, 4, none⟩ = some (.slice a0 zs.length cap0) ∧ wx.cell? ⟨u4.heap.size, 0, none⟩ = some (.int .i64 s0) ∧ wx.cell? ⟨u4.heap.size, 1, none⟩ = some (.int .i64 v0) ∧ wx.cell? ⟨u4.heap.size, 2, none⟩ = some (.int .i64 k0) ∧ wx.cell? ⟨u4.heap.size, 3, none⟩ = some (.int .i64 x0) ∧ wx.cell? ⟨u4.heap.size, 4, none⟩ = some (.slice (some ⟨g4, 0, none⟩) zs.length zs.length) ∧ Below u5.heap.size u5 wx := fun wx h => ⟨(h.cell (p := ⟨w.heap.size, 0, none⟩) (show w.heap.size < _ by omega)).trans q0, (h.cell (p := ⟨w.heap.size, 1, none⟩) (show w.heap.size < _ by omega)).trans q1, (h.cell (p := ⟨w.heap.size, 2, none⟩) (show w.heap.size < _ by omega)).trans q2, (h.cell (p := ⟨w.heap.size, 3, none⟩) (show w.heap.size < _ by omega)).trans q3, (h.cell (p := ⟨w.heap.size, 4, none⟩) (show w.heap.size < _ by omega)).trans q4, (h.cell (p := ⟨u4.heap.size, 0, none⟩) (show u4.heap.size < _ by omega)).trans p0, (h.cell (p := ⟨u4.heap.size, 1, none⟩) (show u4.heap.size < _ by omega)).trans p1, (h.cell (p := ⟨u4.heap.size, 2, none⟩) (show u4.heap.size < _ by omega)).trans p2, (h.cell (p := ⟨u4.heap.size, 3, none⟩) (show u4.heap.size < _ by omega)).trans p3, (h.cell (p := ⟨u4.heap.size, 4, none⟩) (show u4.heap.size < _ by omega)).trans p4, h⟩
    have KSH : Hid (_) := KS
    have FIN : Hid (_) := ((Below.refl w.heap.size w).alloc (Nat.le_refl _) (.cells #[.int .i64 s0, .int .i64 v0, .int .i64 k0, .int .i64 x0, .slice a0 zs.length cap0] 24)).trans (hB5.mono (Nat.le_succ _))
    have KH : Hid (_) := (show w.heap.size ≤ u5.heap.size by omega)
    clear KS q0 q1 q2 q3 q4 p0 p1 p2 p3 p4 hB5 hw4 hB4 hB3 hb1 hb2 hb3 hb4 hb5 A4 X4 AW A0 hne hif hnn hl1
    go_region_held3 (fun wx => wx.cell? ⟨w.heap.size, 0, none⟩ = some (.int .i64 s0) ∧ wx.cell? ⟨w.heap.size, 1, none⟩ = some (.int .i64 v0) ∧ wx.cell? ⟨w.heap.size, 2, none⟩ = some (.int .i64 k0) ∧ wx.cell? ⟨w.heap.size, 3, none⟩ = some (.int .i64 x0) ∧ wx.cell? ⟨w.heap.size, 4, none⟩ = some (.slice a0 zs.length cap0) ∧ wx.cell? ⟨u4.heap.size, 0, none⟩ = some (.int .i64 s0) ∧ wx.cell? ⟨u4.heap.size, 1, none⟩ = some (.int .i64 v0) ∧ wx.cell? ⟨u4.heap.size, 2, none⟩ = some (.int .i64 k0) ∧ wx.cell? ⟨u4.heap.size, 3, none⟩ = some (.int .i64 x0) ∧ wx.cell? ⟨u4.heap.size, 4, none⟩ = some (.slice (some ⟨g4, 0, none⟩) zs.length zs.length) ∧ Below u5.heap.size u5 wx)
      ((first | (refine KSH.out _ ?_; first | exact (Below.refl _ _).drew | (exact (Below.refl _ _).drew.trans (hb6.mono (Nat.le_refl _))) | (exact ((Below.refl _ _).drew.trans (hb6.mono (Nat.le_refl _))).trans (hb7.mono hb6.size)))))
      (first | ((go_at_call 9; refine (toEventX_any s0 v0 k0 x0 a0 cap0 zs _ (A5.below (Below.refl _ _).drew (Nat.le_refl _)) hbig).mono ?_; rintro r wa ⟨g6, rfl, X6, gl6, gm6, hb6⟩; have X7 := (X5.below (Below.refl _ _).drew (Nat.le_refl _)).below hb6 (Nat.le_refl _))) | ((go_at_call 11; refine (eqEvent_any s0 v0 k0 x0 _ _ _ _ zs _ X7 X6 hbig).mono ?_; rintro r wb ⟨rfl, hb7⟩)))
    go_wp2
    go_ret
    refine ⟨rfl, ?_⟩
    exact FIN.out.trans ((((Below.refl _ _).drew.trans (hb6.mono (Nat.le_refl _))).trans (hb7.mono hb6.size)).mono KH.out)
  · have hif : (if zs.length ≤ 1048576 then (1048576 : Int) - zs.length else -1) = -1 := if_neg hbig
    go_enter Try.func3, Try.ntmps3
    go_wp2_with (go_at_call 7; refine (szEvent_any s0 v0 k0 x0 a0 _ cap0 _ hl1).mono ?_; rintro r u1 ⟨rfl, hb1⟩; rw [hif])
    go_ret
    exact ⟨rfl, ((Below.refl _ _).alloc (Nat.le_refl _) _).trans (hb1.mono (by simp))⟩

set_option maxRecDepth 100000 in
theorem fnExactEventFault_lifted (os : Os) (started : os.Started) (H : Type) (enc : TypeId × Value → H) :
    ReturnsInHanded {} Try.checked os 3 .any (Rows.fnExactEventFaultSpec.pre6 enc Try.prog Try.f3 Rows.fnExactEventFaultRow.domain false) (Rows.fnExactEventFaultSpec.post enc Try.prog Try.f3 false true false false) := by
  refine returnsInHanded_of_change (C := Try.checked) own started (by kernel_rfl) Try.func3
    (ChangeSpec.witness6 (enc := enc) (C := Try.checked) false ⟨#[], #[.agg #[.int .i64 0, .int .i64 0, .int .i64 0, .int .i64 0, .slice none 0 0]], []⟩ 8 (by kernel_rfl) (by kernel_rfl) (by kernel_rfl) (by kernel_rfl)) ?_
  intro W base args ds gs before hval0 hW hcnd _
  have hval : ∀ (j : Nat) t v, Try.f3.params[j]? = some t → args[j]? = some v → Value.okWide Try.prog W .any base t v := hval0
  have hW' := hW
  obtain ⟨p, q, hA0, hV, rfl, hfz, hnd⟩ := hW
  have hA : DataW.TrodAll enc Try.prog W 0 (fun _ => true) true Try.f3.params.toList args.toList ds p := hA0
  rw [Try.params3] at hA hval
  obtain ⟨v0, vs0, d0, ds0, p0, q0, hargs, rfl, rfl, h0, r0⟩ := trodAll_cons hA
  obtain ⟨rfl, rfl, rfl⟩ := trodAll_nil r0
  obtain rfl : args = #[v0] := by cases args; simp_all
  obtain ⟨rfl, rfl⟩ := trodVars_none hV
  have g0 := h0
  have lt0 : ∀ x ∈ p0, x.block < W.heap.size := by obtain ⟨m, hm⟩ := g0; exact DataW.trod_lt m _ _ _ hm
  obtain ⟨t0, t1, t2, t3, t4, y0, y1, y2, y3, y4, fu, rfl, hy0, hy1, hy2, hy3, hy4⟩ := open_five Try.underlying24 (by kernel_rfl) (by kernel_rfl) (hval 0 24 v0 rfl rfl) h0
  obtain ⟨s0, q0, rfl, ws0⟩ := DataW.trod_int Try.underlying2 hy0
  obtain ⟨v0, q1, rfl, wv0⟩ := DataW.trod_int Try.underlying2 hy1
  obtain ⟨k0, q2, rfl, wk0⟩ := DataW.trod_int Try.underlying2 hy2
  obtain ⟨x0, q3, rfl, wx0⟩ := DataW.trod_int Try.underlying2 hy3
  obtain ⟨a0, len0, cap0, z0, q4, w0⟩ := row_of_trod Try.underlying22 Try.underlying5 (by kernel_rfl) hy4
  simp at q0 q1 q2 q3
  subst q0 q1 q2 q3 q4
  clear hA0 hval0
  refine (fnExactEventFault_walk W s0 v0 k0 x0 a0 len0 cap0 z0 wx0 w0).mono fun e W' ⟨he, bel⟩ => ?_
  subst he
  exact ⟨_, rfl, _, _, _, [], _, [], hW', trodAll_mk1 (shut_bool Try.underlying4 _), (trodAll_cons_mk (Below.trod laidOut (by kernel_rfl) (of_decide_eq_true (by kernel_rfl)) g0 bel lt0) trodAll_mk0), rfl, bel.frame _, fun h => by cases h⟩

theorem fnExactEventFault_holds : Rows.FnExactEventFaultSaid :=
  OpenClaim.holds_of_wide 3 Try.f3 rfl rfl rfl rfl rfl rfl rfl ⟨rfl, rfl, rfl, rfl, rfl⟩ rfl rfl rfl rfl rfl (by kernel_rfl) Try.func3 (by kernel_rfl)
    (of_decide_eq_true (by kernel_rfl)) (by unfold Func.isWrapper; first | (rw [if_pos (by decide +kernel)]; kernel_rfl) | (rw [if_neg (by decide +kernel)]; exact ⟨rfl, rfl⟩))
    (fun os started H enc _ => fnExactEventFault_lifted os started H enc)
#print axioms fnExactEventFault_holds
end Go.Proofs.Ytbacpnopklkadaa
