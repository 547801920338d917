/- At every head the program's HeadFault answers as the specification's model of it. -/
import Derived.Test.YtffidkoejlebeaaHdT
import Derived.Test.YtffidkoejlebeaaIHd
import Derived.Lib.SmallJoins
namespace Go.Proofs.Ytffidkoejlebeaa
open Go.ChangeShapes Go.WideShapes Go.ChangeAt Go.RowKit
set_option linter.unusedVariables false
set_option linter.unusedSimpArgs false

set_option maxRecDepth 100000 in
set_option maxHeartbeats 4000000 in
theorem fnExactHeadFault_walk (w : World) (z0 r0 m0 k0 : Int) (wz0 : (Lit.int .i64 z0).wf = true) (wr0 : (Lit.int .i64 r0).wf = true) (wm0 : (Lit.int .i64 m0).wf = true) (wk0 : (Lit.int .i64 k0).wf = true) :
    Calls Try.prog 3 #[.agg #[.int .i64 z0, .int .i64 r0, .int .i64 m0, .int .i64 k0]] w fun e w' => e = .returned (.bool true) ∧ Below w.heap.size w w' := by
  have hcc : (hdF z0 r0 m0 k0 != hdF z0 r0 m0 k0) = false := by simp
  have SP : Hid (∀ u : World, Calls Try.prog 6 #[.agg #[.int .i64 z0, .int .i64 r0, .int .i64 m0, .int .i64 k0]] u fun e w' => e = .returned (.int .i64 (hdF z0 r0 m0 k0)) ∧ Below u.heap.size u w') := fun u => specHeadFault_any z0 r0 m0 k0 u
  have IM : Hid (∀ u : World, Calls Try.prog 8 #[.agg #[.int .i64 z0, .int .i64 r0, .int .i64 m0, .int .i64 k0]] u fun e w' => e = .returned (.int .i64 (hdF z0 r0 m0 k0)) ∧ Below u.heap.size u w') := fun u => implHeadFault_any z0 r0 m0 k0 u
  generalize hdF z0 r0 m0 k0 = cd at *
  obtain ⟨V, hV⟩ : ∃ V, V = w.heap.size := ⟨_, rfl⟩
  obtain ⟨E, hE⟩ : ∃ E, E = w.alloc (.cells #[.int .i64 z0, .int .i64 r0, .int .i64 m0, .int .i64 k0] 23) := ⟨_, rfl⟩
  have BE : Below w.heap.size w E := by rw [hE]; exact (Below.refl _ _).alloc (Nat.le_refl _) _
  have RE : Blk E V #[.int .i64 z0, .int .i64 r0, .int .i64 m0, .int .i64 k0] 23 := by rw [hE, hV]; exact Blk.new _ _ _
  have c0 := RE.cell 0
  have c1 := RE.cell 1
  have c2 := RE.cell 2
  have c3 := RE.cell 3
  simp at c0 c1 c2 c3
  go_enter Try.func3, Try.ntmps3
  go_wp2_with fail
  simp only [← hV, ← hE]
  clear hV hE
  refine (toHead_any z0 r0 m0 k0 _).mono ?_
  rintro e u1 ⟨rfl, B1⟩
  go_wp2_with fail
  refine (SP.out _).mono ?_
  rintro e u2 ⟨rfl, hb2⟩
  have B2 := B1.trans (hb2.mono B1.size)
  have R2 := RE.below B2 RE.lt
  have g0 := R2.cell 0
  have g1 := R2.cell 1
  have g2 := R2.cell 2
  have g3 := R2.cell 3
  simp at g0 g1 g2 g3
  clear B1 hb2
  go_wp2_with fail
  refine (toHead_any z0 r0 m0 k0 _).mono ?_
  rintro e u3 ⟨rfl, hb3⟩
  have B3 := B2.trans (hb3.mono B2.size)
  go_wp2_with fail
  refine (IM.out _).mono ?_
  rintro e u4 ⟨rfl, hb4⟩
  have B4 := B3.trans (hb4.mono B3.size)
  go_wp2
  go_ret
  exact ⟨rfl, BE.trans (B4.mono BE.size)⟩

set_option maxRecDepth 100000 in
theorem fnExactHeadFault_lifted (os : Os) (started : os.Started) (H : Type) (enc : TypeId × Value → H) :
    ReturnsInHanded {} Try.checked os 3 .any (Rows.fnExactHeadFaultSpec.pre6 enc Try.prog Try.f3 Rows.fnExactHeadFaultRow.domain false) (Rows.fnExactHeadFaultSpec.post enc Try.prog Try.f3 false true false false) := by
  refine returnsInHanded_of_change (C := Try.checked) own started (by kernel_rfl) Try.func3
    (ChangeSpec.witness6 (enc := enc) (C := Try.checked) false ⟨#[], #[.agg #[.int .i64 0, .int .i64 0, .int .i64 0, .int .i64 0]], []⟩ 8 (by kernel_rfl) (by kernel_rfl) (by kernel_rfl) (by kernel_rfl)) ?_
  intro W base args ds gs before hval0 hW hcnd _
  have hval : ∀ (j : Nat) t v, Try.f3.params[j]? = some t → args[j]? = some v → Value.okWide Try.prog W .any base t v := hval0
  have hW' := hW
  obtain ⟨p, q, hA0, hV, rfl, hfz, hnd⟩ := hW
  have hA : DataW.TrodAll enc Try.prog W 0 (fun _ => true) true Try.f3.params.toList args.toList ds p := hA0
  rw [Try.params3] at hA hval
  obtain ⟨v0, vs0, d0, ds0, p0, q0, hargs, rfl, rfl, h0, r0⟩ := trodAll_cons hA
  obtain ⟨rfl, rfl, rfl⟩ := trodAll_nil r0
  obtain rfl : args = #[v0] := by cases args; simp_all
  obtain ⟨rfl, rfl⟩ := trodVars_none hV
  have g0 := h0
  have lt0 : ∀ x ∈ p0, x.block < W.heap.size := by obtain ⟨m, hm⟩ := g0; exact DataW.trod_lt m _ _ _ hm
  obtain ⟨t0, t1, t2, t3, y0, y1, y2, y3, fu, rfl, rfl, rfl, hy0, hy1, hy2, hy3⟩ := Go.Joins.open_agg4 Try.underlying23 (by kernel_rfl) (by kernel_rfl) (hval 0 23 v0 rfl rfl) h0
  obtain ⟨z0, q0, rfl, wz0⟩ := DataW.trod_int Try.underlying2 hy0
  obtain ⟨r0, q1, rfl, wr0⟩ := DataW.trod_int Try.underlying2 hy1
  obtain ⟨m0, q2, rfl, wm0⟩ := DataW.trod_int Try.underlying2 hy2
  obtain ⟨k0, q3, rfl, wk0⟩ := DataW.trod_int Try.underlying2 hy3
  simp at q0 q1 q2 q3
  subst q0 q1 q2 q3
  clear hA0 hval0
  refine (fnExactHeadFault_walk W z0 r0 m0 k0 wz0 wr0 wm0 wk0).mono fun e W' ⟨he, bel⟩ => ?_
  subst he
  exact ⟨_, rfl, _, _, _, [], _, [], hW', trodAll_mk1 (shut_bool Try.underlying4 _), (trodAll_cons_mk (Below.trod laidOut (by kernel_rfl) (of_decide_eq_true (by kernel_rfl)) g0 bel lt0) trodAll_mk0), rfl, bel.frame _, fun h => by cases h⟩

theorem fnExactHeadFault_holds : Rows.FnExactHeadFaultSaid :=
  OpenClaim.holds_of_wide 3 Try.f3 rfl rfl rfl rfl rfl rfl rfl ⟨rfl, rfl, rfl, rfl, rfl⟩ rfl rfl rfl rfl rfl (by kernel_rfl) Try.func3 (by kernel_rfl)
    (of_decide_eq_true (by kernel_rfl)) (by unfold Func.isWrapper; first | (rw [if_pos (by decide +kernel)]; kernel_rfl) | (rw [if_neg (by decide +kernel)]; exact ⟨rfl, rfl⟩))
    (fun os started H enc _ => fnExactHeadFault_lifted os started H enc)
#print axioms fnExactHeadFault_holds
end Go.Proofs.Ytffidkoejlebeaa
