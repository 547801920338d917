/- At every Parts the program's BitsOf answers as the specification's model of it; no condition. -/
import Derived.Test.YtinjppnnggeebagToParts
namespace Go.Proofs.Ytinjppnnggeebag
open Go.ChangeShapes Go.WideShapes Go.ChangeAt Go.RowKit
set_option linter.unusedVariables false

theorem fnExactBitsOf_walk (w : World) (k0 : Int) (m0 : Bool) (e0 t0 : Int) (wk0 : (Lit.int .i64 k0).wf = true) (we0 : (Lit.int .i64 e0).wf = true) (wt0 : (Lit.int .i64 t0).wf = true) :
    Calls Try.prog 3 #[.agg #[.int .i64 k0, .bool m0, .int .i64 e0, .int .i64 t0]] w fun e w' => e = .returned (.bool true) ∧ Below w.heap.size w w' := by
  have tok1 : True := trivial
  have tok2 : True := trivial
  have tok3 : True := trivial
  have tok4 : True := trivial
  have tok5 : True := trivial
  go_enter Try.func3, Try.ntmps3
  go_wp2_with (first | (go_at_call 10; have _t := tok1; refine (toParts_any k0 m0 e0 t0 _).mono ?_; rintro r u1 ⟨rfl, hb1⟩; clear tok1 _t; obtain ⟨hc1, hf1⟩ := bcell hb1; have hz1 := hb1.size; (try simp at hz1); have hy1_0 : w.heap.size < u1.heap.size := (by omega)) | (go_at_call 9; have _t := tok2; refine (bits_spec k0 m0 e0 t0 _).mono ?_; rintro r u2 ⟨rfl, hb2⟩; clear tok2 _t; obtain ⟨hc2, hf2⟩ := bcell hb2; have hz2 := hb2.size; (try simp at hz2); have hy2_0 : w.heap.size < u2.heap.size := (by omega)) | (go_at_call 10; have _t := tok3; refine (toParts_any k0 m0 e0 t0 _).mono ?_; rintro r u3 ⟨rfl, hb3⟩; clear tok3 _t; obtain ⟨hc3, hf3⟩ := bcell hb3; have hz3 := hb3.size; (try simp at hz3); have hy3_0 : w.heap.size < u3.heap.size := (by omega); have hy3_1 : u2.heap.size < u3.heap.size := (by omega)) | (go_at_call 11; have _t := tok4; refine (bits_impl k0 m0 e0 t0 _).mono ?_; rintro r u4 ⟨rfl, hb4⟩; clear tok4 _t; obtain ⟨hc4, hf4⟩ := bcell hb4; have hz4 := hb4.size; (try simp at hz4); have hy4_0 : u2.heap.size < u4.heap.size := (by omega)) | (go_at_call 12; have _t := tok5; refine (eqInt_any (faultOf k0 m0 e0 t0) (valOf k0 m0 e0 t0) _).mono ?_; rintro r u5 ⟨rfl, hb5⟩; clear tok5 _t; obtain ⟨hc5, hf5⟩ := bcell hb5; have hz5 := hb5.size; (try simp at hz5)))
  go_ret
  refine ⟨rfl, ?_⟩
  repeat (first | exact Below.refl _ _ | (refine Below.alloc ?_ (by (try simp) <;> omega) _) | (refine Below.setCell ?_ (by (try simp) <;> omega) _) | (refine below_drewN ?_ _) | (refine Below.drew ?_) | (refine Below.trans ?_ (hb5.mono (by (try simp) <;> omega))) | (refine Below.trans ?_ (hb4.mono (by (try simp) <;> omega))) | (refine Below.trans ?_ (hb3.mono (by (try simp) <;> omega))) | (refine Below.trans ?_ (hb2.mono (by (try simp) <;> omega))) | (refine Below.trans ?_ (hb1.mono (by (try simp) <;> omega))))

set_option maxRecDepth 100000 in
theorem fnExactBitsOf_lifted (os : Os) (started : os.Started) (H : Type) (enc : TypeId × Value → H) :
    ReturnsInHanded {} Try.checked os 3 .any (Rows.fnExactBitsOfSpec.pre6 enc Try.prog Try.f3 Rows.fnExactBitsOfRow.domain false) (Rows.fnExactBitsOfSpec.post enc Try.prog Try.f3 false true false false) := by
  refine returnsInHanded_of_change (C := Try.checked) own started (by kernel_rfl) Try.func3
    (ChangeSpec.witness6 (enc := enc) (C := Try.checked) false ⟨#[], #[.agg #[.int .i64 0, .bool false, .int .i64 0, .int .i64 0]], []⟩ 8 (by kernel_rfl) (by kernel_rfl) (by kernel_rfl) (by kernel_rfl)) ?_
  intro W base args ds gs before hval0 hW hcnd _
  have hval : ∀ (j : Nat) t v, Try.f3.params[j]? = some t → args[j]? = some v → Value.okWide Try.prog W .any base t v := hval0
  have hW' := hW
  obtain ⟨p, q, hA0, hV, rfl, hfz, hnd⟩ := hW
  have hA : DataW.TrodAll enc Try.prog W 0 (fun _ => true) true Try.f3.params.toList args.toList ds p := hA0
  rw [Try.params3] at hA hval
  obtain ⟨v0, vs0, d0, ds0, p0, q0, hargs, rfl, rfl, h0, r0⟩ := trodAll_cons hA
  obtain ⟨rfl, rfl, rfl⟩ := trodAll_nil r0
  obtain rfl : args = #[v0] := by cases args; simp_all
  obtain ⟨rfl, rfl⟩ := trodVars_none hV
  have g0 := h0
  have lt0 : ∀ x ∈ p0, x.block < W.heap.size := by obtain ⟨m, hm⟩ := g0; exact DataW.trod_lt m _ _ _ hm
  obtain ⟨z0, z1, z2, z3, y0, y1, y2, y3, fu, rfl, rfl, rfl, hy0, hy1, hy2, hy3⟩ := Go.Joins.open_agg4 Try.underlying23 (by kernel_rfl) (by kernel_rfl) (hval 0 23 v0 rfl rfl) h0
  obtain ⟨k0, q0, rfl, wk0⟩ := DataW.trod_int Try.underlying2 hy0
  obtain ⟨m0, q1, rfl⟩ := DataW.trod_bool Try.underlying4 hy1
  obtain ⟨e0, q2, rfl, we0⟩ := DataW.trod_int Try.underlying2 hy2
  obtain ⟨t0, q3, rfl, wt0⟩ := DataW.trod_int Try.underlying2 hy3
  simp at q0 q1 q2 q3
  subst q0 q1 q2 q3
  clear hA0 hval0
  refine (fnExactBitsOf_walk W k0 m0 e0 t0 wk0 we0 wt0).mono fun e W' ⟨he, bel⟩ => ?_
  subst he
  exact ⟨_, rfl, _, _, _, [], _, [], hW', trodAll_mk1 (shut_bool Try.underlying4 _), (trodAll_cons_mk (Below.trod laidOut (by kernel_rfl) (of_decide_eq_true (by kernel_rfl)) g0 bel lt0) trodAll_mk0), rfl, bel.frame _, fun h => by cases h⟩

theorem fnExactBitsOf_holds : Rows.FnExactBitsOfSaid :=
  OpenClaim.holds_of_wide 3 Try.f3 rfl rfl rfl rfl rfl rfl rfl ⟨rfl, rfl, rfl, rfl, rfl⟩ rfl rfl rfl rfl rfl (by kernel_rfl) Try.func3 (by kernel_rfl)
    (of_decide_eq_true (by kernel_rfl)) (by unfold Func.isWrapper; first | (rw [if_pos (by decide +kernel)]; kernel_rfl) | (rw [if_neg (by decide +kernel)]; exact ⟨rfl, rfl⟩))
    (fun os started H enc _ => fnExactBitsOf_lifted os started H enc)
#print axioms fnExactBitsOf_holds
end Go.Proofs.Ytinjppnnggeebag
