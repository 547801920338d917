/- At every two int64 the program's NodeBytes answers as the specification's model of it, in memory of its own; the table that begins pieces starts as the program's text lays it. -/
import Derived.Test.YtngibnmcagogaaaDoorSBytes
import Derived.Test.YtngibnmcagogaaaDoorMarkI
import Derived.Test.YtngibnmcagogaaaDoorDoor
namespace Go.Proofs.YtngibnmcagogaaaDoor
open Go.ChangeShapes Go.WideShapes Go.ChangeAt Go.RowKit
set_option linter.unusedVariables false
set_option linter.unusedSimpArgs false

set_option maxHeartbeats 4000000 in
theorem fnExactNodeBytes_walk (w : World) (hT : Tab w) (a0 : Int) (w0 : (Lit.int .i64 a0).wf = true) (a1 : Int) (w1 : (Lit.int .i64 a1).wf = true) :
    Calls Tryd.prog 8 #[.int .i64 a0, .int .i64 a1] w fun e w' => e = .returned (.bool true) ∧ Below w.heap.size w w' := by
  have hzl : (nodeB a0 a1).length ≤ 1048576 := by unfold nodeB; split <;> simp [nodeL]
  have SP : Hid (_) := fun (x : World) => specNodeBytes_any a0 a1 x
  have IM : Hid (_) := fun (x : World) (t : Tab x) => implNodeBytes_any a0 a1 x t
  have WF : Hid (_) := nodeB_wf a0 a1
  generalize nodeB a0 a1 = zs at SP IM WF hzl
  generalize nodeC a0 a1 = cd at SP IM
  have hne : ((1 + (zs.length : Int)) != (1 + (zs.length : Int))) = false := by simp
  have hge : (0 : Int) ≤ 1 + (zs.length : Int) := by omega
  have HT : Hid (Tab w) := hT
  clear hT
  go_enter Tryd.func8, Tryd.ntmps8
  go_wp2_with fail
  refine (SP.out _).mono ?_
  rintro r u1 ⟨b1, e1, rfl, O1, hb1⟩
  have I1 := HasIn.of (has_of_own O1 WF.out)
  have T1 := HT.out.below hb1 (Nat.le_refl _)
  have s1 := hb1.size
  go_wp2_with fail
  refine (IM.out _ (T1.alloc _)).mono ?_
  rintro r u2 ⟨b2, e2, rfl, O2, hb2⟩
  have s2 := hb2.size
  simp at s2
  have q2 : u1.heap.size < u2.heap.size := by omega
  have V5 := (VarAt.new u1 cd b1 zs.length e1 30).below hb2 (by simp)
  have I2 := I1.below (((Below.refl _ _).alloc (Nat.le_refl _) (.cells #[.int .i64 cd, .slice b1 zs.length e1] 30)).trans (hb2.mono (by simp)))
  have T2 := (T1.alloc (.cells #[.int .i64 cd, .slice b1 zs.length e1] 30)).below hb2 (Nat.le_refl _)
  have B2 : Below w.heap.size w u2 := (hb1.alloc s1 (.cells #[.int .i64 cd, .slice b1 zs.length e1] 30)).trans (hb2.mono (by simp; omega))
  have g2 := own_lt O2
  have O2b := own_base O2
  have P2 := has_of_own O2 WF.out
  obtain ⟨v50, v51⟩ := V5
  clear O1 hb1 hb2 I1 T1
  go_wp2_with fail
  refine (eqBytesR_any cd b2 b1 e2 e1 zs _ (P2.alloc _) (((I2.below ((Below.refl _ _).alloc (by omega) _))).has (by simp; omega)) hzl).mono ?_
  rintro r u3 ⟨rfl, hb3⟩
  have s3 := hb3.size
  simp at s3
  have V5 := (VarAt.below ⟨v50, v51⟩ ((Below.refl u2.heap.size u2).alloc (Nat.le_refl _) (.cells #[.int .i64 cd, .slice b2 zs.length e2] 30)) (by omega)).below hb3 (by simp; omega)
  have V6 := (VarAt.new u2 cd b2 zs.length e2 30).below hb3 (by simp)
  have I3 := (I2.below ((Below.refl _ _).alloc (by omega) (.cells #[.int .i64 cd, .slice b2 zs.length e2] 30))).below (hb3.mono (by simp; omega))
  have T3 := (T2.alloc (.cells #[.int .i64 cd, .slice b2 zs.length e2] 30)).below hb3 (Nat.le_refl _)
  have B3 : Below w.heap.size w u3 := (B2.alloc (by omega) (.cells #[.int .i64 cd, .slice b2 zs.length e2] 30)).trans (hb3.mono (by simp; omega))
  have O3 := own_below (own_below O2 ((Below.refl _ _).alloc (Nat.le_refl _) (.cells #[.int .i64 cd, .slice b2 zs.length e2] 30))) hb3
  clear v50 v51 I2 T2 O2 hb3 B2 P2
  obtain ⟨v50, v51⟩ := V5
  obtain ⟨v60, v61⟩ := V6
  go_wp2_with fail
  refine (markBytesR_any _ cd b2 e2 zs _ O3 (by omega)).mono ?_
  rintro r u4 ⟨rfl, O4, hm4⟩
  have s4 := hm4.size
  simp at s4
  have K4 := fun {B : Nat} (hB : B ≤ u1.heap.size + 1) => hm4.below (B := B) (fun ad had => by have := O2b ad had; simp at this; omega)
  have V5 := (VarAt.below ⟨v50, v51⟩ ((Below.refl u3.heap.size u3).alloc (Nat.le_refl _) (.cells #[.int .i64 cd, .slice b2 zs.length e2] 30)) (by omega)).below (K4 (B := u1.heap.size + 1) (Nat.le_refl _)) (by omega)
  have V6 := (VarAt.below ⟨v60, v61⟩ ((Below.refl u3.heap.size u3).alloc (Nat.le_refl _) (.cells #[.int .i64 cd, .slice b2 zs.length e2] 30)) (by omega)).mk hm4 (fun ad had => by have := g2 ad had; omega)
  have I4 := (I3.below ((Below.refl _ _).alloc (by omega) (.cells #[.int .i64 cd, .slice b2 zs.length e2] 30))).below (K4 (by omega))
  have T4 := (T3.alloc (.cells #[.int .i64 cd, .slice b2 zs.length e2] 30))
  have T4 : Tab u4 := by
    have k := K4 (B := 1) (by omega)
    exact ⟨by have := T4.1; omega, fun i hi => (k.cell (p := ⟨0, i, none⟩) (by simp)).trans (T4.2 i hi)⟩
  have B4 : Below w.heap.size w u4 := (B3.alloc (by omega) (.cells #[.int .i64 cd, .slice b2 zs.length e2] 30)).trans (K4 (by omega))
  have hml := markL_len 1 zs.length
  have P4 := has_of_own O4 (markL_wf 1 zs.length)
  clear v50 v51 v60 v61 I3 T3 O3 B3 hm4 K4
  obtain ⟨v50, v51⟩ := V5
  obtain ⟨v60, v61⟩ := V6
  have ML : Hid (_) := hml
  clear hml
  go_wp2_with fail
  refine (heldBytesR_any cd b2 e2 zs.length _ P4 (by omega)).mono ?_
  rintro r u5 ⟨rfl, hb5⟩
  have s5 := hb5.size
  have V5 := (VarAt.below ⟨v50, v51⟩ hb5 (by omega))
  have V6 := (VarAt.below ⟨v60, v61⟩ hb5 (by omega))
  have I5 := I4.below (hb5.mono (by omega))
  have T5 := T4.below hb5 (Nat.le_refl _)
  have B5 : Below w.heap.size w u5 := B4.trans (hb5.mono (by omega))
  have O5 := own_below O4 hb5
  clear v50 v51 v60 v61 I4 T4 O4 hb5 B4 P4
  obtain ⟨v50, v51⟩ := V5
  obtain ⟨v60, v61⟩ := V6
  go_wp2_with fail
  refine (IM.out _ T5).mono ?_
  rintro r u6 ⟨b3, e3, rfl, O6, hb6⟩
  have s6 := hb6.size
  have V5 := (VarAt.below ⟨v50, v51⟩ hb6 (by omega))
  have V6 := (VarAt.below ⟨v60, v61⟩ hb6 (by omega))
  have I6 := I5.below (hb6.mono (by omega))
  have B6 : Below w.heap.size w u6 := B5.trans (hb6.mono (by omega))
  have O5' := own_below O5 hb6
  have P6 := has_of_own O6 WF.out
  clear v50 v51 v60 v61 I5 T5 O5 hb6 B5
  obtain ⟨v50, v51⟩ := V5
  obtain ⟨v60, v61⟩ := V6
  have q5 : u1.heap.size < u6.heap.size := by omega
  go_wp2_with fail
  refine (eqBytesR_any cd b3 b1 e3 e1 zs _ (P6.alloc _) ((I6.below ((Below.refl _ _).alloc (by omega) _)).has (by simp; omega)) hzl).mono ?_
  rintro r u7 ⟨rfl, hb7⟩
  have s7 := hb7.size
  simp at s7
  have V6 := (VarAt.below ⟨v60, v61⟩ ((Below.refl u6.heap.size u6).alloc (Nat.le_refl _) (.cells #[.int .i64 cd, .slice b3 zs.length e3] 30)) (by omega)).below hb7 (by simp; omega)
  have B7 : Below w.heap.size w u7 := (B6.alloc (by omega) (.cells #[.int .i64 cd, .slice b3 zs.length e3] 30)).trans (hb7.mono (by simp; omega))
  have O7 := own_below (own_below O5' ((Below.refl _ _).alloc (Nat.le_refl _) (.cells #[.int .i64 cd, .slice b3 zs.length e3] 30))) hb7
  have P7 := has_of_own O7 (markL_wf 1 zs.length)
  clear v50 v51 v60 v61 I6 O5' hb7 B6
  obtain ⟨v60, v61⟩ := V6
  go_wp2_with fail
  refine (heldBytesR_any cd b2 e2 zs.length _ P7 (by omega)).mono ?_
  rintro r u8 ⟨rfl, hb8⟩
  go_wp2
  go_ret
  exact ⟨rfl, B7.trans (hb8.mono (by omega))⟩

set_option maxRecDepth 100000 in
theorem fnExactNodeBytes_lifted (os : Os) (started : os.Started) (H : Type) (enc : TypeId × Value → H) :
    ReturnsInHanded {} Tryd.checked os 8 .any (fun w args => (Rows.fnExactNodeBytesSpec.pre enc Tryd.prog Tryd.f8 [] false w args ∧ laidMetH Tryd.prog [("loop.example/g00565/impl.pieceStarts", Rows.laid_loop_example_g00565_impl_pieceStarts)] w) ∧ sizedMet enc Tryd.prog Tryd.f8 (OpenSpec.ofChange Rows.fnExactNodeBytesSpec) false w args) (Rows.fnExactNodeBytesSpec.post enc Tryd.prog Tryd.f8 false true false false) := by
  refine returnsInHanded_of_change_and (C := Tryd.checked) (X := fun w _ => laidMetH Tryd.prog [("loop.example/g00565/impl.pieceStarts", Rows.laid_loop_example_g00565_impl_pieceStarts)] w) (fun _ _ _ hh h => h.of_heap hh) own started (by kernel_rfl) Tryd.func8
    (ChangeSpec.witness_shaped (enc := enc) (C := Tryd.checked) (os := os) (X := fun w _ => laidMetH Tryd.prog [("loop.example/g00565/impl.pieceStarts", Rows.laid_loop_example_g00565_impl_pieceStarts)] w) false (World.doorLaid Tryd.prog 400 os) #[.int .i64 0, .int .i64 0] 8 rfl (World.shaped_of_RefB (by kernel_rfl) (by kernel_rfl)) (by kernel_rfl) (by kernel_rfl) (by kernel_rfl) (door_met os _)) ?_
  intro W base args ds gs before hval0 hW _ _ hL _
  have hval : ∀ (j : Nat) t v, Tryd.f8.params[j]? = some t → args[j]? = some v → Value.okWide Tryd.prog W .any base t v := hval0
  have hW' := hW
  obtain ⟨p, q, hA0, hV, rfl, hfz, hnd⟩ := hW
  have hA : DataW.TrodAll enc Tryd.prog W 0 (fun _ => true) true Tryd.f8.params.toList args.toList ds p := hA0
  rw [Tryd.params8] at hA hval
  obtain ⟨v0, vs0, d0, ds0, p0, q0, hargs, rfl, rfl, h0, r0⟩ := trodAll_cons hA
  obtain ⟨v1, vs1, d1, ds1, p1, q1, rfl, rfl, rfl, h1, r1⟩ := trodAll_cons r0
  obtain ⟨rfl, rfl, rfl⟩ := trodAll_nil r1
  obtain rfl : args = #[v0, v1] := by cases args; simp_all
  obtain ⟨g, rfl⟩ : ∃ g, gs = [g] := by obtain ⟨_, _, _, _, d, _, e, _⟩ := trodVars_one hV; exact ⟨d, e⟩
  have g0 := h0
  have lt0 : ∀ x ∈ p0, x.block < W.heap.size := by obtain ⟨m, hm⟩ := g0; exact DataW.trod_lt m _ _ _ hm
  have g1 := h1
  have lt1 : ∀ x ∈ p1, x.block < W.heap.size := by obtain ⟨m, hm⟩ := g1; exact DataW.trod_lt m _ _ _ hm
  obtain ⟨a0, rfl, rfl, rfl, w0⟩ := open_int Tryd.underlying2 (hval 0 2 v0 rfl rfl) h0
  obtain ⟨a1, rfl, rfl, rfl, w1⟩ := open_int Tryd.underlying2 (hval 1 2 v1 rfl rfl) h1
  clear hA0 hval0
  refine (fnExactNodeBytes_walk W (tab_of_laid hL) a0 w0 a1 w1).mono fun e W' ⟨he, bel⟩ => ?_
  subst he
  exact ⟨_, rfl, _, _, _, [], _, _, hW', trodAll_mk1 (shut_bool Tryd.underlying4 _), (trodAll_cons_mk (Below.trod laidOut (by kernel_rfl) (of_decide_eq_true (by kernel_rfl)) g0 bel lt0) (trodAll_cons_mk (Below.trod laidOut (by kernel_rfl) (of_decide_eq_true (by kernel_rfl)) g1 bel lt1) trodAll_mk0)), Below.trodVars laidOut bel (by kernel_rfl) hV, bel.frame _, fun h => by cases h⟩

theorem fnExactNodeBytes_row : Rows.FnExactNodeBytesSaid :=
  OpenClaim.holds_of_wide 8 Tryd.f8 rfl rfl rfl rfl rfl rfl rfl ⟨rfl, rfl, rfl, rfl, rfl⟩ rfl rfl rfl rfl rfl (by kernel_rfl) Tryd.func8 (by kernel_rfl)
    (of_decide_eq_true (by kernel_rfl)) (by unfold Func.isWrapper; first | (rw [if_pos (by decide +kernel)]; kernel_rfl) | (rw [if_neg (by decide +kernel)]; exact ⟨rfl, rfl⟩))
    (fun os started H enc _ => fnExactNodeBytes_lifted os started H enc)

theorem fnExactNodeBytes_holds : Rows.FnExactNodeBytesCardSaid :=
  Claim7.holds_tied_plain_at .later [] [.data] true Rows.fnExactNodeBytesCard.stood.harness false
    fnExactNodeBytes_row (fun _ h => by cases h) (by kernel_rfl) (fun _ h => by cases h) fnExactNodeBytes_row_tie rfl ⟨rfl, rfl⟩ (by kernel_rfl) rfl
    (fun f fn hf hfn => by
      obtain rfl : f = 8 := Option.some.inj ((show Tryd.prog.funcNamed "loop.example/g00565/laws.FnExactNodeBytes" = some 8 by kernel_rfl).symm.trans hf) |>.symm
      obtain rfl : fn = Tryd.f8 := (Option.some.inj (Tryd.func8.symm.trans hfn)).symm
      exact ⟨by kernel_rfl, fun j t ht => by
        rw [Tryd.params8] at ht
        have h3 : t = 2 := by
          match j, ht with
          | 0, ht => simp at ht; simp [← ht]
          | 1, ht => simp at ht; simp [← ht]
          | _ + 2, ht => simp at ht
        rcases h3 with rfl
        all_goals exact (show Tryd.prog.wantsStandIn _ = false by kernel_rfl)⟩)
    (by kernel_rfl)
#print axioms fnExactNodeBytes_holds
end Go.Proofs.YtngibnmcagogaaaDoor
