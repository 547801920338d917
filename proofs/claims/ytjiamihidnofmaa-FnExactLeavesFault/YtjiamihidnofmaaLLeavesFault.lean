/- At every slice of int64 the program's LeavesFault answers as the specification's model of it, and leaves the slice as it was; no condition. -/
import Derived.Test.YtjiamihidnofmaaFault4
namespace Go.Proofs.Ytjiamihidnofmaa
open Go.ChangeShapes Go.WideShapes Go.ChangeAt Go.RowKit
set_option linter.unusedVariables false
set_option linter.unusedSimpArgs false

set_option maxHeartbeats 4000000 in
theorem fnExactLeavesFault_walk (w : World) (a0 : Option Addr) (len0 cap0 : Nat) (z0 : List Int) (w0 : IsRow .i64 w a0 len0 cap0 z0) :
    Calls Try.prog 3 #[.slice a0 len0 cap0] w fun e w' => e = .returned (.bool true) ∧ Below w.heap.size w w' := by
  have H0 := Has.of_row w0
  have hlen := H0.1
  generalize z0.take len0 = zs at H0 hlen
  subst hlen
  clear w0
  by_cases hbig : 1048576 < zs.length
  · have hbig' : (1048576 : Int) < (zs.length : Int) := by omega
    go_enter Try.func3, Try.ntmps3
    go_wp2
    go_ret
    exact ⟨rfl, Below.refl _ _⟩
  · have hsm : zs.length ≤ 1048576 := by omega
    have hsm' : (zs.length : Int) ≤ 1048576 := by omega
    have hne : (lvF zs != lvF zs) = false := by simp
    have tok1 : True := trivial
    have tok2 : True := trivial
    go_enter Try.func3, Try.ntmps3
    go_wp2_with (first | (go_at_call 5; have _t := tok1; refine (toInts_has a0 cap0 zs _ H0 hsm).mono ?_; rintro r u1 ⟨rfl, hb1, H1, hy1⟩; clear tok1 _t; have A1 := H0.below hb1 (Nat.le_refl _)) | (go_at_call 4; refine (specLeavesFault_any _ _ zs _ H1 (by omega)).mono ?_; rintro r u2 ⟨rfl, rfl⟩) | (go_at_call 5; have _t := tok2; refine (toInts_has a0 cap0 zs _ A1 hsm).mono ?_; rintro r u3 ⟨rfl, hb3, H3, hy3⟩; clear tok2 _t; have A3 := A1.below hb3 (Nat.le_refl _)) | (go_at_call 6; refine (implLeavesFault_any _ _ zs _ H3 (by omega)).mono ?_; rintro r u4 ⟨rfl, rfl⟩) | (go_at_call 5; refine (toInts_has a0 cap0 zs _ A3 hsm).mono ?_; rintro r u6 ⟨rfl, hb6, H6, hy6⟩; have X6 := H3.below hb6 (Nat.le_refl _)) | (go_at_call 7; refine (eqInts_any _ _ _ _ zs _ X6 H6 hsm).mono ?_; rintro r u7 ⟨rfl, hb7⟩; clear X6 H6))
    go_ret
    refine ⟨rfl, ?_⟩
    repeat (first | exact Below.refl _ _ | (refine Below.trans ?_ (hb7.mono (by (try simp) <;> omega))) | (refine Below.trans ?_ (hb6.mono (by (try simp) <;> omega))) | (refine Below.trans ?_ (hb3.mono (by (try simp) <;> omega))) | (refine Below.trans ?_ (hb1.mono (by (try simp) <;> omega))))

set_option maxRecDepth 100000 in
theorem fnExactLeavesFault_lifted (os : Os) (started : os.Started) (H : Type) (enc : TypeId × Value → H) :
    ReturnsInHanded {} Try.checked os 3 .any (Rows.fnExactLeavesFaultSpec.pre6 enc Try.prog Try.f3 Rows.fnExactLeavesFaultRow.domain false) (Rows.fnExactLeavesFaultSpec.post enc Try.prog Try.f3 false true false false) := by
  refine returnsInHanded_of_change (C := Try.checked) own started (by kernel_rfl) Try.func3
    (ChangeSpec.witness6 (enc := enc) (C := Try.checked) false ⟨#[], #[.slice none 0 0], []⟩ 8 (by kernel_rfl) (by kernel_rfl) (by kernel_rfl) (by kernel_rfl)) ?_
  intro W base args ds gs before hval0 hW hcnd _
  have hval : ∀ (j : Nat) t v, Try.f3.params[j]? = some t → args[j]? = some v → Value.okWide Try.prog W .any base t v := hval0
  have hW' := hW
  obtain ⟨p, q, hA0, hV, rfl, hfz, hnd⟩ := hW
  have hA : DataW.TrodAll enc Try.prog W 0 (fun _ => true) true Try.f3.params.toList args.toList ds p := hA0
  rw [Try.params3] at hA hval
  obtain ⟨v0, vs0, d0, ds0, p0, q0, hargs, rfl, rfl, h0, r0⟩ := trodAll_cons hA
  obtain ⟨rfl, rfl, rfl⟩ := trodAll_nil r0
  obtain rfl : args = #[v0] := by cases args; simp_all
  obtain ⟨rfl, rfl⟩ := trodVars_none hV
  have g0 := h0
  have lt0 : ∀ x ∈ p0, x.block < W.heap.size := by obtain ⟨m, hm⟩ := g0; exact DataW.trod_lt m _ _ _ hm
  obtain ⟨a0, len0, cap0, rfl⟩ := okWide_slice Try.underlying22 (hval 0 22 v0 rfl rfl)
  obtain ⟨z0, w0⟩ : ∃ zs, IsRow .i64 W a0 len0 cap0 zs := by
    obtain ⟨fuel, hf⟩ := h0
    rcases open_ints Try.underlying22 Try.underlying2 (by kernel_rfl) hf with ⟨hcs, _⟩ | ⟨x, l, c, zs, hcs, _, hl, hm, hz, _, hcell, hwz⟩
    · simp [Value.cells] at hcs
      obtain ⟨rfl, rfl, rfl⟩ := hcs
      exact ⟨[], .inl ⟨rfl, rfl, rfl, rfl⟩⟩
    · simp [Value.cells] at hcs
      obtain ⟨rfl, rfl, rfl⟩ := hcs
      exact ⟨zs, .inr ⟨_, rfl, hl, hm, by simpa using hz, hcell, hwz⟩⟩
  clear hA0 hval0
  refine (fnExactLeavesFault_walk W a0 len0 cap0 z0 w0).mono fun e W' ⟨he, bel⟩ => ?_
  subst he
  exact ⟨_, rfl, _, _, _, [], _, [], hW', trodAll_mk1 (shut_bool Try.underlying4 _), (trodAll_cons_mk (Below.trod laidOut (by kernel_rfl) (of_decide_eq_true (by kernel_rfl)) g0 bel lt0) trodAll_mk0), rfl, bel.frame _, fun h => by cases h⟩

theorem fnExactLeavesFault_holds : Rows.FnExactLeavesFaultSaid :=
  OpenClaim.holds_of_wide 3 Try.f3 rfl rfl rfl rfl rfl rfl rfl ⟨rfl, rfl, rfl, rfl, rfl⟩ rfl rfl rfl rfl rfl (by kernel_rfl) Try.func3 (by kernel_rfl)
    (of_decide_eq_true (by kernel_rfl)) (by unfold Func.isWrapper; first | (rw [if_pos (by decide +kernel)]; kernel_rfl) | (rw [if_neg (by decide +kernel)]; exact ⟨rfl, rfl⟩))
    (fun os started H enc _ => fnExactLeavesFault_lifted os started H enc)
#print axioms fnExactLeavesFault_holds
end Go.Proofs.Ytjiamihidnofmaa
