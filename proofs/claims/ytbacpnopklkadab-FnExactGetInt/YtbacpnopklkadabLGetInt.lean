/- At every slice of bytes and every int64 the program's GetInt answers as the specification's model of it, and leaves the slice as it was; no condition. -/
import Derived.Test.YtbacpnopklkadabIPut
import Derived.Test.YtbacpnopklkadabEqInt
namespace Go.Proofs.Ytbacpnopklkadab
open Go.ChangeShapes Go.WideShapes Go.ChangeAt Go.RowKit
set_option linter.unusedVariables false
set_option linter.unusedSimpArgs false

set_option maxHeartbeats 2000000 in
theorem fnExactGetInt_walk (w : World) (a0 : Option Addr) (len0 cap0 : Nat) (z0 : List Int) (w0 : IsRow .u8 w a0 len0 cap0 z0) (a1 : Int) (w1 : (Lit.int .i64 a1).wf = true) :
    Calls Try.prog 4 #[.slice a0 len0 cap0, .int .i64 a1] w fun e w' => e = .returned (.bool true) ∧ Below w.heap.size w w' := by
  have H0 := Has.of_row w0
  have hlen := H0.1
  generalize z0.take len0 = zs at H0 hlen
  subst hlen
  clear w0
  by_cases hbig : 1048576 < zs.length
  · have hbig' : (1048576 : Int) < (zs.length : Int) := by omega
    go_enter Try.func4, Try.ntmps4
    go_wp2
    go_ret
    exact ⟨rfl, Below.refl _ _⟩
  · have hsm : zs.length ≤ 1048576 := by omega
    have hsm' : (zs.length : Int) ≤ 1048576 := by omega
    have tok1 : True := trivial
    have tok2 : True := trivial
    go_enter Try.func4, Try.ntmps4
    go_wp2_with (first | (go_at_call 11; have _t := tok1; refine (toBytes_has a0 cap0 zs _ H0 hsm).mono ?_; rintro r u1 ⟨rfl, hb1, H1, hy1⟩; clear tok1 _t; have A1 := H0.below hb1 (Nat.le_refl _)) | (go_at_call 10; refine (specGetInt_any _ _ zs a1 _ H1 (by omega) (Nat.le_refl _) (by unfold maxLen; omega)).mono ?_; rintro r u2 ⟨rfl, hb2⟩; have hz2 := hb2.size; have A2 := A1.below hb2 (Nat.le_refl _); clear H1 A1) | (go_at_call 11; have _t := tok2; refine (toBytes_has a0 cap0 zs _ (A2.alloc _) hsm).mono ?_; rintro r u3 ⟨rfl, hb3, H3, hy3⟩; clear tok2 _t; have A3 := (A2.alloc _).below hb3 (Nat.le_refl _); obtain ⟨hc3, hf3⟩ := bcell hb3; (try simp at hy3); have hy3' : u2.heap.size < u3.heap.size := (by omega); have X3 : Has u3 .u8 (some ⟨u2.heap.size + 1, 0, none⟩) zs.length zs := (by simpa using H3); clear H3 A2) | (go_at_call 12; refine (implGetInt_any _ _ zs a1 _ X3 (by omega) (Nat.le_refl _) (by unfold maxLen; omega)).mono ?_; rintro r u4 ⟨rfl, hb4⟩; have hz4 := hb4.size; have A4 := A3.below hb4 (Nat.le_refl _); have X4 := X3.below hb4 (Nat.le_refl _); obtain ⟨hc4, hf4⟩ := bcell hb4; have hy4 : u2.heap.size < u4.heap.size := (by omega); clear A3 X3) | (go_at_call 13; refine (eqInt_any _ _ _).mono ?_; rintro r u5 ⟨rfl, hb5⟩; have hz5 := hb5.size; (try simp at hz5); have A5 := (A4.alloc _).below hb5 (Nat.le_refl _); have X5 := (X4.alloc _).below hb5 (Nat.le_refl _); clear A4 X4) | (go_at_call 11; refine (toBytes_has a0 cap0 zs _ A5 hsm).mono ?_; rintro r u6 ⟨rfl, hb6, H6, hy6⟩; have X6 := X5.below hb6 (Nat.le_refl _); clear X5 A5) | (go_at_call 14; refine (eqBytes_any _ _ _ _ zs _ X6 H6 hsm).mono ?_; rintro r u7 ⟨rfl, hb7⟩; clear X6 H6))
    go_ret
    refine ⟨rfl, ?_⟩
    repeat (first | exact Below.refl _ _ | (refine Below.alloc ?_ (by (try simp) <;> omega) _) | (refine Below.setCell ?_ (by (try simp) <;> omega) _) | (refine below_drewN ?_ _) | (refine Below.drew ?_) | (refine Below.trans ?_ (hb7.mono (by (try simp) <;> omega))) | (refine Below.trans ?_ (hb6.mono (by (try simp) <;> omega))) | (refine Below.trans ?_ (hb5.mono (by (try simp) <;> omega))) | (refine Below.trans ?_ (hb4.mono (by (try simp) <;> omega))) | (refine Below.trans ?_ (hb3.mono (by (try simp) <;> omega))) | (refine Below.trans ?_ (hb2.mono (by (try simp) <;> omega))) | (refine Below.trans ?_ (hb1.mono (by (try simp) <;> omega))))

set_option maxRecDepth 100000 in
theorem fnExactGetInt_lifted (os : Os) (started : os.Started) (H : Type) (enc : TypeId × Value → H) :
    ReturnsInHanded {} Try.checked os 4 .any (Rows.fnExactGetIntSpec.pre6 enc Try.prog Try.f4 Rows.fnExactGetIntRow.domain false) (Rows.fnExactGetIntSpec.post enc Try.prog Try.f4 false true false false) := by
  refine returnsInHanded_of_change (C := Try.checked) own started (by kernel_rfl) Try.func4
    (ChangeSpec.witness6 (enc := enc) (C := Try.checked) false ⟨#[], #[.slice none 0 0, .int .i64 0], []⟩ 8 (by kernel_rfl) (by kernel_rfl) (by kernel_rfl) (by kernel_rfl)) ?_
  intro W base args ds gs before hval0 hW hcnd _
  have hval : ∀ (j : Nat) t v, Try.f4.params[j]? = some t → args[j]? = some v → Value.okWide Try.prog W .any base t v := hval0
  have hW' := hW
  obtain ⟨p, q, hA0, hV, rfl, hfz, hnd⟩ := hW
  have hA : DataW.TrodAll enc Try.prog W 0 (fun _ => true) true Try.f4.params.toList args.toList ds p := hA0
  rw [Try.params4] at hA hval
  obtain ⟨v0, vs0, d0, ds0, p0, q0, hargs, rfl, rfl, h0, r0⟩ := trodAll_cons hA
  obtain ⟨v1, vs1, d1, ds1, p1, q1, rfl, rfl, rfl, h1, r1⟩ := trodAll_cons r0
  obtain ⟨rfl, rfl, rfl⟩ := trodAll_nil r1
  obtain rfl : args = #[v0, v1] := by cases args; simp_all
  obtain ⟨rfl, rfl⟩ := trodVars_none hV
  have g0 := h0
  have lt0 : ∀ x ∈ p0, x.block < W.heap.size := by obtain ⟨m, hm⟩ := g0; exact DataW.trod_lt m _ _ _ hm
  have g1 := h1
  have lt1 : ∀ x ∈ p1, x.block < W.heap.size := by obtain ⟨m, hm⟩ := g1; exact DataW.trod_lt m _ _ _ hm
  obtain ⟨a0, len0, cap0, rfl⟩ := okWide_slice Try.underlying22 (hval 0 22 v0 rfl rfl)
  obtain ⟨z0, w0⟩ : ∃ zs, IsRow .u8 W a0 len0 cap0 zs := by
    obtain ⟨fuel, hf⟩ := h0
    rcases open_ints Try.underlying22 Try.underlying5 (by kernel_rfl) hf with ⟨hcs, _⟩ | ⟨x, l, c, zs, hcs, _, hl, hm, hz, _, hcell, hwz⟩
    · simp [Value.cells] at hcs
      obtain ⟨rfl, rfl, rfl⟩ := hcs
      exact ⟨[], .inl ⟨rfl, rfl, rfl, rfl⟩⟩
    · simp [Value.cells] at hcs
      obtain ⟨rfl, rfl, rfl⟩ := hcs
      exact ⟨zs, .inr ⟨_, rfl, hl, hm, by simpa using hz, hcell, hwz⟩⟩
  obtain ⟨a1, rfl, rfl, rfl, w1⟩ := open_int Try.underlying2 (hval 1 2 v1 rfl rfl) h1
  clear hA0 hval0
  refine (fnExactGetInt_walk W a0 len0 cap0 z0 w0 a1 w1).mono fun e W' ⟨he, bel⟩ => ?_
  subst he
  exact ⟨_, rfl, _, _, _, [], _, [], hW', trodAll_mk1 (shut_bool Try.underlying4 _), (trodAll_cons_mk (Below.trod laidOut (by kernel_rfl) (of_decide_eq_true (by kernel_rfl)) g0 bel lt0) (trodAll_cons_mk (Below.trod laidOut (by kernel_rfl) (of_decide_eq_true (by kernel_rfl)) g1 bel lt1) trodAll_mk0)), rfl, bel.frame _, fun h => by cases h⟩

theorem fnExactGetInt_holds : Rows.FnExactGetIntSaid :=
  OpenClaim.holds_of_wide 4 Try.f4 rfl rfl rfl rfl rfl rfl rfl ⟨rfl, rfl, rfl, rfl, rfl⟩ rfl rfl rfl rfl rfl (by kernel_rfl) Try.func4 (by kernel_rfl)
    (of_decide_eq_true (by kernel_rfl)) (by unfold Func.isWrapper; first | (rw [if_pos (by decide +kernel)]; kernel_rfl) | (rw [if_neg (by decide +kernel)]; exact ⟨rfl, rfl⟩))
    (fun os started H enc _ => fnExactGetInt_lifted os started H enc)
#print axioms fnExactGetInt_holds
end Go.Proofs.Ytbacpnopklkadab
