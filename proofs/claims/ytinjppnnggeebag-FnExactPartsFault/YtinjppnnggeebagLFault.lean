/- At every Parts the program's PartsFault answers as the specification's model of it; no condition. -/
import Derived.Test.YtinjppnnggeebagToParts
namespace Go.Proofs.Ytinjppnnggeebag
open Go.ChangeShapes Go.WideShapes Go.ChangeAt Go.RowKit
set_option linter.unusedVariables false

theorem fnExactPartsFault_walk (w : World) (k0 : Int) (m0 : Bool) (e0 t0 : Int) (wk0 : (Lit.int .i64 k0).wf = true) (we0 : (Lit.int .i64 e0).wf = true) (wt0 : (Lit.int .i64 t0).wf = true) :
    Calls Try.prog 4 #[.agg #[.int .i64 k0, .bool m0, .int .i64 e0, .int .i64 t0]] w fun e w' => e = .returned (.bool true) ∧ Below w.heap.size w w' := by
  have hq : (faultOf k0 m0 e0 t0 != faultOf k0 m0 e0 t0) = false := by simp
  go_enter Try.func4, Try.ntmps4
  go_wp2_with (first | (go_at_call 10; refine (toParts_any k0 m0 e0 t0 _).mono ?_; rintro r u ⟨rfl, hb⟩; (first | (replace hB := hB.trans (hb.mono hB.size)) | (have hB := hb)); obtain ⟨hc, hf⟩ := bcell hB; have hz := hB.size; simp at hz; have hz' := Nat.lt_of_succ_le hz; clear hb) | (go_at_call 13; refine (fault_spec k0 m0 e0 t0 _).mono ?_; rintro r u ⟨rfl, hb⟩; (first | (replace hB := hB.trans (hb.mono hB.size)) | (have hB := hb)); obtain ⟨hc, hf⟩ := bcell hB; have hz := hB.size; simp at hz; have hz' := Nat.lt_of_succ_le hz; clear hb) | (go_at_call 14; refine (fault_impl k0 m0 e0 t0 _).mono ?_; rintro r u ⟨rfl, hb⟩; (first | (replace hB := hB.trans (hb.mono hB.size)) | (have hB := hb)); obtain ⟨hc, hf⟩ := bcell hB; have hz := hB.size; simp at hz; have hz' := Nat.lt_of_succ_le hz; clear hb))
  go_ret
  exact ⟨rfl, ((Below.refl _ _).alloc (Nat.le_refl _) _).trans (hB.mono (by simp))⟩

set_option maxRecDepth 100000 in
theorem fnExactPartsFault_lifted (os : Os) (started : os.Started) (H : Type) (enc : TypeId × Value → H) :
    ReturnsInHanded {} Try.checked os 4 .any (Rows.fnExactPartsFaultSpec.pre6 enc Try.prog Try.f4 Rows.fnExactPartsFaultRow.domain false) (Rows.fnExactPartsFaultSpec.post enc Try.prog Try.f4 false true false false) := by
  refine returnsInHanded_of_change (C := Try.checked) own started (by kernel_rfl) Try.func4
    (ChangeSpec.witness6 (enc := enc) (C := Try.checked) false ⟨#[], #[.agg #[.int .i64 0, .bool false, .int .i64 0, .int .i64 0]], []⟩ 8 (by kernel_rfl) (by kernel_rfl) (by kernel_rfl) (by kernel_rfl)) ?_
  intro W base args ds gs before hval0 hW hcnd _
  have hval : ∀ (j : Nat) t v, Try.f4.params[j]? = some t → args[j]? = some v → Value.okWide Try.prog W .any base t v := hval0
  have hW' := hW
  obtain ⟨p, q, hA0, hV, rfl, hfz, hnd⟩ := hW
  have hA : DataW.TrodAll enc Try.prog W 0 (fun _ => true) true Try.f4.params.toList args.toList ds p := hA0
  rw [Try.params4] at hA hval
  obtain ⟨v0, vs0, d0, ds0, p0, q0, hargs, rfl, rfl, h0, r0⟩ := trodAll_cons hA
  obtain ⟨rfl, rfl, rfl⟩ := trodAll_nil r0
  obtain rfl : args = #[v0] := by cases args; simp_all
  obtain ⟨rfl, rfl⟩ := trodVars_none hV
  have g0 := h0
  have lt0 : ∀ x ∈ p0, x.block < W.heap.size := by obtain ⟨m, hm⟩ := g0; exact DataW.trod_lt m _ _ _ hm
  obtain ⟨z0, z1, z2, z3, y0, y1, y2, y3, fu, rfl, rfl, rfl, hy0, hy1, hy2, hy3⟩ := Go.Joins.open_agg4 Try.underlying23 (by kernel_rfl) (by kernel_rfl) (hval 0 23 v0 rfl rfl) h0
  obtain ⟨k0, q0, rfl, wk0⟩ := DataW.trod_int Try.underlying2 hy0
  obtain ⟨m0, q1, rfl⟩ := DataW.trod_bool Try.underlying4 hy1
  obtain ⟨e0, q2, rfl, we0⟩ := DataW.trod_int Try.underlying2 hy2
  obtain ⟨t0, q3, rfl, wt0⟩ := DataW.trod_int Try.underlying2 hy3
  simp at q0 q1 q2 q3
  subst q0 q1 q2 q3
  clear hA0 hval0
  refine (fnExactPartsFault_walk W k0 m0 e0 t0 wk0 we0 wt0).mono fun e W' ⟨he, bel⟩ => ?_
  subst he
  exact ⟨_, rfl, _, _, _, [], _, [], hW', trodAll_mk1 (shut_bool Try.underlying4 _), (trodAll_cons_mk (Below.trod laidOut (by kernel_rfl) (of_decide_eq_true (by kernel_rfl)) g0 bel lt0) trodAll_mk0), rfl, bel.frame _, fun h => by cases h⟩

theorem fnExactPartsFault_holds : Rows.FnExactPartsFaultSaid :=
  OpenClaim.holds_of_wide 4 Try.f4 rfl rfl rfl rfl rfl rfl rfl ⟨rfl, rfl, rfl, rfl, rfl⟩ rfl rfl rfl rfl rfl (by kernel_rfl) Try.func4 (by kernel_rfl)
    (of_decide_eq_true (by kernel_rfl)) (by unfold Func.isWrapper; first | (rw [if_pos (by decide +kernel)]; kernel_rfl) | (rw [if_neg (by decide +kernel)]; exact ⟨rfl, rfl⟩))
    (fun os started H enc _ => fnExactPartsFault_lifted os started H enc)
#print axioms fnExactPartsFault_holds
end Go.Proofs.Ytinjppnnggeebag
