/- At every two int64 the program's StepsOf answers as the specification's model of it; no condition. -/
import Derived.Test.YtlmjppglaolccaaIGrw
import Derived.Test.YtlmjppglaolccaaSteps5
import Derived.Test.YtlmjppglaolccaaEqInt
namespace Go.Proofs.Ytlmjppglaolccaa
open Go.ChangeShapes Go.WideShapes Go.ChangeAt Go.RowKit
set_option linter.unusedVariables false
set_option linter.unusedSimpArgs false

set_option maxHeartbeats 4000000 in
theorem fnExactStepsOf_walk (w : World) (a0 : Int) (w0 : (Lit.int .i64 a0).wf = true) (a1 : Int) (w1 : (Lit.int .i64 a1).wf = true) :
    Calls Try.prog 3 #[.int .i64 a0, .int .i64 a1] w fun e w' => e = .returned (.bool true) ∧ Below w.heap.size w w' := by
  generalize hc : spC a0 a1 = c
  generalize hv : spV a0 a1 = v
  have S1 : Hid (∀ x : World, Calls Try.prog 4 #[.int .i64 a0, .int .i64 a1] x fun r w' => r = .returned (.agg #[.int .i64 c, .int .i64 v]) ∧ Below x.heap.size x w') := by
    intro x; rw [← hc, ← hv]; exact specStepsOf_any a0 a1 x
  have S2 : Hid (∀ x : World, Calls Try.prog 5 #[.int .i64 a0, .int .i64 a1] x fun r w' => r = .returned (.agg #[.int .i64 c, .int .i64 v]) ∧ Below x.heap.size x w') := by
    intro x; rw [← hc, ← hv]; exact implStepsOf_any a0 a1 x
  clear hc hv
  go_enter Try.func3, Try.ntmps3
  go_wp2_with (first | (go_at_call 4; refine (S1.out _).mono ?_; rintro r u1 ⟨rfl, hb1⟩; have hz1 := hb1.size; obtain ⟨hc1, hf1⟩ := bcell hb1) | (go_at_call 5; refine (S2.out _).mono ?_; rintro r u2 ⟨rfl, hb2⟩; have hz2 := hb2.size; obtain ⟨hc2, hf2⟩ := bcell hb2; (try simp at hz2); have hy2 : u1.heap.size < u2.heap.size := (by omega)) | (go_at_call 6; refine (eqInt_any c v _).mono ?_; rintro r u3 ⟨rfl, hb3⟩; have hz3 := hb3.size))
  go_ret
  refine ⟨rfl, ?_⟩
  repeat (first | exact Below.refl _ _ | (refine Below.alloc ?_ (by (try simp) <;> omega) _) | (refine Below.setCell ?_ (by (try simp) <;> omega) _) | (refine below_drewN ?_ _) | (refine Below.drew ?_) | (refine Below.trans ?_ (hb3.mono (by (try simp) <;> omega))) | (refine Below.trans ?_ (hb2.mono (by (try simp) <;> omega))) | (refine Below.trans ?_ (hb1.mono (by (try simp) <;> omega))))

set_option maxRecDepth 100000 in
theorem fnExactStepsOf_lifted (os : Os) (started : os.Started) (H : Type) (enc : TypeId × Value → H) :
    ReturnsInHanded {} Try.checked os 3 .any (Rows.fnExactStepsOfSpec.pre6 enc Try.prog Try.f3 Rows.fnExactStepsOfRow.domain false) (Rows.fnExactStepsOfSpec.post enc Try.prog Try.f3 false true false false) := by
  refine returnsInHanded_of_change (C := Try.checked) own started (by kernel_rfl) Try.func3
    (ChangeSpec.witness6 (enc := enc) (C := Try.checked) false ⟨#[], #[.int .i64 0, .int .i64 0], []⟩ 8 (by kernel_rfl) (by kernel_rfl) (by kernel_rfl) (by kernel_rfl)) ?_
  intro W base args ds gs before hval0 hW hcnd _
  have hval : ∀ (j : Nat) t v, Try.f3.params[j]? = some t → args[j]? = some v → Value.okWide Try.prog W .any base t v := hval0
  have hW' := hW
  obtain ⟨p, q, hA0, hV, rfl, hfz, hnd⟩ := hW
  have hA : DataW.TrodAll enc Try.prog W 0 (fun _ => true) true Try.f3.params.toList args.toList ds p := hA0
  rw [Try.params3] at hA hval
  obtain ⟨v0, vs0, d0, ds0, p0, q0, hargs, rfl, rfl, h0, r0⟩ := trodAll_cons hA
  obtain ⟨v1, vs1, d1, ds1, p1, q1, rfl, rfl, rfl, h1, r1⟩ := trodAll_cons r0
  obtain ⟨rfl, rfl, rfl⟩ := trodAll_nil r1
  obtain rfl : args = #[v0, v1] := by cases args; simp_all
  obtain ⟨rfl, rfl⟩ := trodVars_none hV
  have g0 := h0
  have lt0 : ∀ x ∈ p0, x.block < W.heap.size := by obtain ⟨m, hm⟩ := g0; exact DataW.trod_lt m _ _ _ hm
  have g1 := h1
  have lt1 : ∀ x ∈ p1, x.block < W.heap.size := by obtain ⟨m, hm⟩ := g1; exact DataW.trod_lt m _ _ _ hm
  obtain ⟨a0, rfl, rfl, rfl, w0⟩ := open_int Try.underlying2 (hval 0 2 v0 rfl rfl) h0
  obtain ⟨a1, rfl, rfl, rfl, w1⟩ := open_int Try.underlying2 (hval 1 2 v1 rfl rfl) h1
  clear hA0 hval0
  refine (fnExactStepsOf_walk W a0 w0 a1 w1).mono fun e W' ⟨he, bel⟩ => ?_
  subst he
  exact ⟨_, rfl, _, _, _, [], _, [], hW', trodAll_mk1 (shut_bool Try.underlying4 _), (trodAll_cons_mk (Below.trod laidOut (by kernel_rfl) (of_decide_eq_true (by kernel_rfl)) g0 bel lt0) (trodAll_cons_mk (Below.trod laidOut (by kernel_rfl) (of_decide_eq_true (by kernel_rfl)) g1 bel lt1) trodAll_mk0)), rfl, bel.frame _, fun h => by cases h⟩

theorem fnExactStepsOf_holds : Rows.FnExactStepsOfSaid :=
  OpenClaim.holds_of_wide 3 Try.f3 rfl rfl rfl rfl rfl rfl rfl ⟨rfl, rfl, rfl, rfl, rfl⟩ rfl rfl rfl rfl rfl (by kernel_rfl) Try.func3 (by kernel_rfl)
    (of_decide_eq_true (by kernel_rfl)) (by unfold Func.isWrapper; first | (rw [if_pos (by decide +kernel)]; kernel_rfl) | (rw [if_neg (by decide +kernel)]; exact ⟨rfl, rfl⟩))
    (fun os started H enc _ => fnExactStepsOf_lifted os started H enc)
#print axioms fnExactStepsOf_holds
end Go.Proofs.Ytlmjppglaolccaa
