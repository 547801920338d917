/- At every int64 the program's PutInt answers as the specification's model of it, in memory of its own; no condition. -/
import Derived.Test.YtbacpnopklkadabIPut
import Derived.Test.YtbacpnopklkadabMarkR
namespace Go.Proofs.Ytbacpnopklkadab
open Go.ChangeShapes Go.WideShapes Go.ChangeAt Go.RowKit
set_option linter.unusedVariables false
set_option linter.unusedSimpArgs false

set_option maxHeartbeats 4000000 in
theorem fnExactPutInt_walk (w : World) (a0 : Int) (w0 : (Lit.int .i64 a0).wf = true) :
    Calls Try.prog 3 #[.int .i64 a0] w fun e w' => e = .returned (.bool true) ∧ Below w.heap.size w w' := by
  have hr := bounds_i64 w0
  have h8 := putL_len a0 8
  have hzl : (putL a0 8).length ≤ 1048576 := by omega
  have SP : Hid (∀ x : World, Calls Try.prog 5 #[.int .i64 a0] x fun r w' => ∃ a' c', r = .returned (.agg #[.int .i64 0, .slice a' (putL a0 8).length c']) ∧ w'.ownsRow x.heap.size 5 1 (.slice a' (putL a0 8).length c') (putL a0 8).length ((putL a0 8).map (.int .u8)) ∧ Below x.heap.size x w') := by
    intro x
    rw [h8]
    exact specPutInt_any a0 x hr.1 hr.2
  have IM : Hid (∀ x : World, Calls Try.prog 6 #[.int .i64 a0] x fun r w' => ∃ a' c', r = .returned (.agg #[.int .i64 0, .slice a' (putL a0 8).length c']) ∧ w'.ownsRow x.heap.size 5 1 (.slice a' (putL a0 8).length c') (putL a0 8).length ((putL a0 8).map (.int .u8)) ∧ Below x.heap.size x w') := by
    intro x
    rw [h8]
    exact implPutInt_any a0 x hr.1 hr.2
  have WF : Hid (_) := putL_wf a0 8
  clear h8
  generalize putL a0 8 = zs at SP IM WF hzl
  obtain ⟨cd, hcd⟩ : ∃ cd : Int, cd = 0 := ⟨_, rfl⟩
  rw [← hcd] at SP IM
  clear hcd
  have hne : ((1 + (zs.length : Int)) != (1 + (zs.length : Int))) = false := by simp
  have hge : (0 : Int) ≤ 1 + (zs.length : Int) := by omega
  go_enter Try.func3, Try.ntmps3
  go_wp2_with fail
  refine (SP.out _).mono ?_
  rintro r u1 ⟨b1, e1, rfl, O1, hb1⟩
  have I1 := HasIn.of (has_of_own O1 WF.out)
  have s1 := hb1.size
  go_wp2_with fail
  refine (IM.out _).mono ?_
  rintro r u2 ⟨b2, e2, rfl, O2, hb2⟩
  have s2 := hb2.size
  simp at s2
  have q2 : u1.heap.size < u2.heap.size := by omega
  have V5 := (VarAt.new u1 cd b1 zs.length e1 24).below hb2 (by simp)
  have I2 := I1.below (((Below.refl _ _).alloc (Nat.le_refl _) (.cells #[.int .i64 cd, .slice b1 zs.length e1] 24)).trans (hb2.mono (by simp)))
  have B2 : Below w.heap.size w u2 := (hb1.alloc s1 (.cells #[.int .i64 cd, .slice b1 zs.length e1] 24)).trans (hb2.mono (by simp; omega))
  have g2 := own_lt O2
  have O2b := own_base O2
  have P2 := has_of_own O2 WF.out
  obtain ⟨v50, v51⟩ := V5
  clear O1 hb1 hb2 I1
  go_wp2_with fail
  refine (eqBytesR_any cd b2 b1 e2 e1 zs _ (P2.alloc _) (((I2.below ((Below.refl _ _).alloc (by omega) _))).has (by simp; omega)) hzl).mono ?_
  rintro r u3 ⟨rfl, hb3⟩
  have s3 := hb3.size
  simp at s3
  have V5 := (VarAt.below ⟨v50, v51⟩ ((Below.refl u2.heap.size u2).alloc (Nat.le_refl _) (.cells #[.int .i64 cd, .slice b2 zs.length e2] 24)) (by omega)).below hb3 (by simp; omega)
  have V6 := (VarAt.new u2 cd b2 zs.length e2 24).below hb3 (by simp)
  have I3 := (I2.below ((Below.refl _ _).alloc (by omega) (.cells #[.int .i64 cd, .slice b2 zs.length e2] 24))).below (hb3.mono (by simp; omega))
  have B3 : Below w.heap.size w u3 := (B2.alloc (by omega) (.cells #[.int .i64 cd, .slice b2 zs.length e2] 24)).trans (hb3.mono (by simp; omega))
  have O3 := own_below (own_below O2 ((Below.refl _ _).alloc (Nat.le_refl _) (.cells #[.int .i64 cd, .slice b2 zs.length e2] 24))) hb3
  clear v50 v51 I2 O2 hb3 B2 P2
  obtain ⟨v50, v51⟩ := V5
  obtain ⟨v60, v61⟩ := V6
  go_wp2_with fail
  refine (markBytesR_any _ cd b2 e2 zs _ O3 (by omega)).mono ?_
  rintro r u4 ⟨rfl, O4, hm4⟩
  have s4 := hm4.size
  simp at s4
  have K4 := fun {B : Nat} (hB : B ≤ u1.heap.size + 1) => hm4.below (B := B) (fun ad had => by have := O2b ad had; simp at this; omega)
  have V5 := (VarAt.below ⟨v50, v51⟩ ((Below.refl u3.heap.size u3).alloc (Nat.le_refl _) (.cells #[.int .i64 cd, .slice b2 zs.length e2] 24)) (by omega)).below (K4 (B := u1.heap.size + 1) (Nat.le_refl _)) (by omega)
  have V6 := (VarAt.below ⟨v60, v61⟩ ((Below.refl u3.heap.size u3).alloc (Nat.le_refl _) (.cells #[.int .i64 cd, .slice b2 zs.length e2] 24)) (by omega)).mk hm4 (fun ad had => by have := g2 ad had; omega)
  have I4 := (I3.below ((Below.refl _ _).alloc (by omega) (.cells #[.int .i64 cd, .slice b2 zs.length e2] 24))).below (K4 (by omega))
  have B4 : Below w.heap.size w u4 := (B3.alloc (by omega) (.cells #[.int .i64 cd, .slice b2 zs.length e2] 24)).trans (K4 (by omega))
  have hml := markL_len 1 zs.length
  have P4 := has_of_own O4 (markL_wf 1 zs.length)
  clear v50 v51 v60 v61 I3 O3 B3 hm4 K4
  obtain ⟨v50, v51⟩ := V5
  obtain ⟨v60, v61⟩ := V6
  have ML : Hid (_) := hml
  clear hml
  go_wp2_with fail
  refine (heldBytesR_any cd b2 e2 zs.length _ P4 (by omega)).mono ?_
  rintro r u5 ⟨rfl, hb5⟩
  have s5 := hb5.size
  have V5 := (VarAt.below ⟨v50, v51⟩ hb5 (by omega))
  have V6 := (VarAt.below ⟨v60, v61⟩ hb5 (by omega))
  have I5 := I4.below (hb5.mono (by omega))
  have B5 : Below w.heap.size w u5 := B4.trans (hb5.mono (by omega))
  have O5 := own_below O4 hb5
  clear v50 v51 v60 v61 I4 O4 hb5 B4 P4
  obtain ⟨v50, v51⟩ := V5
  obtain ⟨v60, v61⟩ := V6
  go_wp2_with fail
  refine (IM.out _).mono ?_
  rintro r u6 ⟨b3, e3, rfl, O6, hb6⟩
  have s6 := hb6.size
  have V5 := (VarAt.below ⟨v50, v51⟩ hb6 (by omega))
  have V6 := (VarAt.below ⟨v60, v61⟩ hb6 (by omega))
  have I6 := I5.below (hb6.mono (by omega))
  have B6 : Below w.heap.size w u6 := B5.trans (hb6.mono (by omega))
  have O5' := own_below O5 hb6
  have P6 := has_of_own O6 WF.out
  clear v50 v51 v60 v61 I5 O5 hb6 B5
  obtain ⟨v50, v51⟩ := V5
  obtain ⟨v60, v61⟩ := V6
  have q5 : u1.heap.size < u6.heap.size := by omega
  go_wp2_with fail
  refine (eqBytesR_any cd b3 b1 e3 e1 zs _ (P6.alloc _) ((I6.below ((Below.refl _ _).alloc (by omega) _)).has (by simp; omega)) hzl).mono ?_
  rintro r u7 ⟨rfl, hb7⟩
  have s7 := hb7.size
  simp at s7
  have V6 := (VarAt.below ⟨v60, v61⟩ ((Below.refl u6.heap.size u6).alloc (Nat.le_refl _) (.cells #[.int .i64 cd, .slice b3 zs.length e3] 24)) (by omega)).below hb7 (by simp; omega)
  have B7 : Below w.heap.size w u7 := (B6.alloc (by omega) (.cells #[.int .i64 cd, .slice b3 zs.length e3] 24)).trans (hb7.mono (by simp; omega))
  have O7 := own_below (own_below O5' ((Below.refl _ _).alloc (Nat.le_refl _) (.cells #[.int .i64 cd, .slice b3 zs.length e3] 24))) hb7
  have P7 := has_of_own O7 (markL_wf 1 zs.length)
  clear v50 v51 v60 v61 I6 O5' hb7 B6
  obtain ⟨v60, v61⟩ := V6
  go_wp2_with fail
  refine (heldBytesR_any cd b2 e2 zs.length _ P7 (by omega)).mono ?_
  rintro r u8 ⟨rfl, hb8⟩
  go_wp2
  go_ret
  exact ⟨rfl, B7.trans (hb8.mono (by omega))⟩

set_option maxRecDepth 100000 in
theorem fnExactPutInt_lifted (os : Os) (started : os.Started) (H : Type) (enc : TypeId × Value → H) :
    ReturnsInHanded {} Try.checked os 3 .any (Rows.fnExactPutIntSpec.pre6 enc Try.prog Try.f3 Rows.fnExactPutIntRow.domain false) (Rows.fnExactPutIntSpec.post enc Try.prog Try.f3 false true false false) := by
  refine returnsInHanded_of_change (C := Try.checked) own started (by kernel_rfl) Try.func3
    (ChangeSpec.witness6 (enc := enc) (C := Try.checked) false ⟨#[], #[.int .i64 0], []⟩ 8 (by kernel_rfl) (by kernel_rfl) (by kernel_rfl) (by kernel_rfl)) ?_
  intro W base args ds gs before hval0 hW hcnd _
  have hval : ∀ (j : Nat) t v, Try.f3.params[j]? = some t → args[j]? = some v → Value.okWide Try.prog W .any base t v := hval0
  have hW' := hW
  obtain ⟨p, q, hA0, hV, rfl, hfz, hnd⟩ := hW
  have hA : DataW.TrodAll enc Try.prog W 0 (fun _ => true) true Try.f3.params.toList args.toList ds p := hA0
  rw [Try.params3] at hA hval
  obtain ⟨v0, vs0, d0, ds0, p0, q0, hargs, rfl, rfl, h0, r0⟩ := trodAll_cons hA
  obtain ⟨rfl, rfl, rfl⟩ := trodAll_nil r0
  obtain rfl : args = #[v0] := by cases args; simp_all
  obtain ⟨rfl, rfl⟩ := trodVars_none hV
  have g0 := h0
  have lt0 : ∀ x ∈ p0, x.block < W.heap.size := by obtain ⟨m, hm⟩ := g0; exact DataW.trod_lt m _ _ _ hm
  obtain ⟨a0, rfl, rfl, rfl, w0⟩ := open_int Try.underlying2 (hval 0 2 v0 rfl rfl) h0
  clear hA0 hval0
  refine (fnExactPutInt_walk W a0 w0).mono fun e W' ⟨he, bel⟩ => ?_
  subst he
  exact ⟨_, rfl, _, _, _, [], _, [], hW', trodAll_mk1 (shut_bool Try.underlying4 _), (trodAll_cons_mk (Below.trod laidOut (by kernel_rfl) (of_decide_eq_true (by kernel_rfl)) g0 bel lt0) trodAll_mk0), rfl, bel.frame _, fun h => by cases h⟩

theorem fnExactPutInt_holds : Rows.FnExactPutIntSaid :=
  OpenClaim.holds_of_wide 3 Try.f3 rfl rfl rfl rfl rfl rfl rfl ⟨rfl, rfl, rfl, rfl, rfl⟩ rfl rfl rfl rfl rfl (by kernel_rfl) Try.func3 (by kernel_rfl)
    (of_decide_eq_true (by kernel_rfl)) (by unfold Func.isWrapper; first | (rw [if_pos (by decide +kernel)]; kernel_rfl) | (rw [if_neg (by decide +kernel)]; exact ⟨rfl, rfl⟩))
    (fun os started H enc _ => fnExactPutInt_lifted os started H enc)
#print axioms fnExactPutInt_holds
end Go.Proofs.Ytbacpnopklkadab
