/- At every code the law FnAheads returns true: measures stand in one order, in which zero with a minus is ahead of zero; no condition. -/
import Derived.Test.YtinjppnnggeebaaDraw
import Derived.Test.YtinjppnnggeebaaAhead
import Derived.Test.YtinjppnnggeebaaOrder
import Derived.Test.YtinjppnnggeebaaBig
namespace Go.Proofs.Ytinjppnnggeebaa
open Go.ChangeShapes Go.WideShapes Go.ChangeAt Go.RowKit
set_option linter.unusedVariables false

set_option maxHeartbeats 4000000 in
theorem fnAheads_walk (w : World) (a0 : Option Addr) (len0 cap0 : Nat) (z0 : List Int) (w0 : IsRow .u8 w a0 len0 cap0 z0) :
    Calls Try.prog 4 #[.slice a0 len0 cap0] w fun e w' => e = .returned (.bool true) ∧ Below w.heap.size w w' := by
  have H0 := Has.of_row w0
  have hlen := H0.1
  generalize z0.take len0 = zs at H0 hlen
  subst hlen
  clear w0
  by_cases hbig : 1048576 < zs.length
  · go_enter Try.func4, Try.ntmps4
    go_wp2_with (go_at_call 6; refine (lwBig_yes _ _ _ _ hbig).mono ?_; rintro r u1 ⟨rfl, rfl⟩)
    go_ret
    exact ⟨rfl, Below.refl _ _⟩
  · have hsm : zs.length ≤ 1048576 := by omega
    go_enter Try.func4, Try.ntmps4
    go_wp2_with (first | (go_at_call 6; refine (lwBig_no _ _ _ _ hsm).mono ?_; rintro r u0 ⟨rfl, rfl⟩) | (go_at_call 17; refine (drawIsAhead_any _ a0 zs.length cap0 zs H0 hsm).mono ?_; rintro r u1 ⟨x, y, rfl, hx0, hx1, hy0, hy1, hb1⟩) | (go_at_call 18; refine (drawCanonOf_any _ a0 zs.length cap0 zs (H0.below hb1 (Nat.le_refl _)) hsm).mono ?_; rintro r u2 ⟨z, rfl, hz0, hz1, hb2⟩))
    have hB := hb1.trans (hb2.mono hb1.size)
    have v1 : valOf 1 true 0 0 = -9223372036854775808 := by decide
    have v2 : valOf 1 false 0 0 = 0 := by decide
    have v3 : aheadB (-9223372036854775808) 0 = true := by decide
    have hfl := fld_int
    have hsp := same_place hx0 hx1 hy0 hy1
    clear hb1 hb2
    rcases Int.lt_trichotomy (place x) (place y) with hp | hp | hp
    · have hab : aheadB x y = true := by simp [aheadB, hp]
      have hba : aheadB y x = false := by simp [aheadB]; omega
      have hss : sameB x y = false := by rw [hsp]; simp; omega
      by_cases hq : aheadB y z = true
      · have hac : aheadB x z = true := by simp [aheadB] at hq ⊢; omega
        clear hp hsp
        refine (ahead_impl _ _ _ hx0 hx1 hy0 hy1).mono ?_
        rintro r u ⟨rfl, hb⟩
        replace hB := hB.trans (hb.mono hB.size)
        clear hb
        go_wp2_with (first | (go_at_call 19; refine (ahead_impl _ _ _ (by first | assumption | omega) (by first | assumption | omega) (by first | assumption | omega) (by first | assumption | omega)).mono ?_; rintro r u ⟨rfl, hb⟩; replace hB := hB.trans (hb.mono hB.size); clear hb) | (go_at_call 16; refine (same_impl _ _ _ (by first | assumption | omega) (by first | assumption | omega) (by first | assumption | omega) (by first | assumption | omega)).mono ?_; rintro r u ⟨rfl, hb⟩; replace hB := hB.trans (hb.mono hB.size); clear hb) | (go_at_call 20; refine (ahead_spec _ _ _ (by first | assumption | omega) (by first | assumption | omega) (by first | assumption | omega) (by first | assumption | omega)).mono ?_; rintro r u ⟨rfl, rfl⟩) | (go_at_call 21; refine (same_spec _ _ _ (by first | assumption | omega) (by first | assumption | omega) (by first | assumption | omega) (by first | assumption | omega)).mono ?_; rintro r u ⟨rfl, hb⟩; replace hB := hB.trans (hb.mono hB.size); clear hb) | (go_at_call 9; refine (bits_impl _ _ _ _ _).mono ?_; rintro r u ⟨rfl, hb⟩; replace hB := hB.trans (hb.mono hB.size); clear hb))
        go_ret
        exact ⟨rfl, hB⟩
      · have hq' : aheadB y z = false := by simpa using hq
        clear hp hsp hq
        refine (ahead_impl _ _ _ hx0 hx1 hy0 hy1).mono ?_
        rintro r u ⟨rfl, hb⟩
        replace hB := hB.trans (hb.mono hB.size)
        clear hb
        go_wp2_with (first | (go_at_call 19; refine (ahead_impl _ _ _ (by first | assumption | omega) (by first | assumption | omega) (by first | assumption | omega) (by first | assumption | omega)).mono ?_; rintro r u ⟨rfl, hb⟩; replace hB := hB.trans (hb.mono hB.size); clear hb) | (go_at_call 16; refine (same_impl _ _ _ (by first | assumption | omega) (by first | assumption | omega) (by first | assumption | omega) (by first | assumption | omega)).mono ?_; rintro r u ⟨rfl, hb⟩; replace hB := hB.trans (hb.mono hB.size); clear hb) | (go_at_call 20; refine (ahead_spec _ _ _ (by first | assumption | omega) (by first | assumption | omega) (by first | assumption | omega) (by first | assumption | omega)).mono ?_; rintro r u ⟨rfl, rfl⟩) | (go_at_call 21; refine (same_spec _ _ _ (by first | assumption | omega) (by first | assumption | omega) (by first | assumption | omega) (by first | assumption | omega)).mono ?_; rintro r u ⟨rfl, hb⟩; replace hB := hB.trans (hb.mono hB.size); clear hb) | (go_at_call 9; refine (bits_impl _ _ _ _ _).mono ?_; rintro r u ⟨rfl, hb⟩; replace hB := hB.trans (hb.mono hB.size); clear hb))
        go_ret
        exact ⟨rfl, hB⟩
    · have hab : aheadB x y = false := by simp [aheadB]; omega
      have hba : aheadB y x = false := by simp [aheadB]; omega
      have hss : sameB x y = true := by rw [hsp]; simp; omega
      clear hp hsp
      refine (ahead_impl _ _ _ hx0 hx1 hy0 hy1).mono ?_
      rintro r u ⟨rfl, hb⟩
      replace hB := hB.trans (hb.mono hB.size)
      clear hb
      go_wp2_with (first | (go_at_call 19; refine (ahead_impl _ _ _ (by first | assumption | omega) (by first | assumption | omega) (by first | assumption | omega) (by first | assumption | omega)).mono ?_; rintro r u ⟨rfl, hb⟩; replace hB := hB.trans (hb.mono hB.size); clear hb) | (go_at_call 16; refine (same_impl _ _ _ (by first | assumption | omega) (by first | assumption | omega) (by first | assumption | omega) (by first | assumption | omega)).mono ?_; rintro r u ⟨rfl, hb⟩; replace hB := hB.trans (hb.mono hB.size); clear hb) | (go_at_call 20; refine (ahead_spec _ _ _ (by first | assumption | omega) (by first | assumption | omega) (by first | assumption | omega) (by first | assumption | omega)).mono ?_; rintro r u ⟨rfl, rfl⟩) | (go_at_call 21; refine (same_spec _ _ _ (by first | assumption | omega) (by first | assumption | omega) (by first | assumption | omega) (by first | assumption | omega)).mono ?_; rintro r u ⟨rfl, hb⟩; replace hB := hB.trans (hb.mono hB.size); clear hb) | (go_at_call 9; refine (bits_impl _ _ _ _ _).mono ?_; rintro r u ⟨rfl, hb⟩; replace hB := hB.trans (hb.mono hB.size); clear hb))
      go_ret
      exact ⟨rfl, hB⟩
    · have hab : aheadB x y = false := by simp [aheadB]; omega
      have hba : aheadB y x = true := by simp [aheadB]; omega
      have hss : sameB x y = false := by rw [hsp]; simp; omega
      clear hp hsp
      refine (ahead_impl _ _ _ hx0 hx1 hy0 hy1).mono ?_
      rintro r u ⟨rfl, hb⟩
      replace hB := hB.trans (hb.mono hB.size)
      clear hb
      go_wp2_with (first | (go_at_call 19; refine (ahead_impl _ _ _ (by first | assumption | omega) (by first | assumption | omega) (by first | assumption | omega) (by first | assumption | omega)).mono ?_; rintro r u ⟨rfl, hb⟩; replace hB := hB.trans (hb.mono hB.size); clear hb) | (go_at_call 16; refine (same_impl _ _ _ (by first | assumption | omega) (by first | assumption | omega) (by first | assumption | omega) (by first | assumption | omega)).mono ?_; rintro r u ⟨rfl, hb⟩; replace hB := hB.trans (hb.mono hB.size); clear hb) | (go_at_call 20; refine (ahead_spec _ _ _ (by first | assumption | omega) (by first | assumption | omega) (by first | assumption | omega) (by first | assumption | omega)).mono ?_; rintro r u ⟨rfl, rfl⟩) | (go_at_call 21; refine (same_spec _ _ _ (by first | assumption | omega) (by first | assumption | omega) (by first | assumption | omega) (by first | assumption | omega)).mono ?_; rintro r u ⟨rfl, hb⟩; replace hB := hB.trans (hb.mono hB.size); clear hb) | (go_at_call 9; refine (bits_impl _ _ _ _ _).mono ?_; rintro r u ⟨rfl, hb⟩; replace hB := hB.trans (hb.mono hB.size); clear hb))
      go_ret
      exact ⟨rfl, hB⟩

set_option maxRecDepth 100000 in
theorem fnAheads_lifted (os : Os) (started : os.Started) (H : Type) (enc : TypeId × Value → H) :
    ReturnsInHanded {} Try.checked os 4 .any (Rows.fnAheadsSpec.pre6 enc Try.prog Try.f4 Rows.fnAheadsRow.domain false) (Rows.fnAheadsSpec.post enc Try.prog Try.f4 false true false false) := by
  refine returnsInHanded_of_change (C := Try.checked) own started (by kernel_rfl) Try.func4
    (ChangeSpec.witness6 (enc := enc) (C := Try.checked) false ⟨#[], #[.slice none 0 0], []⟩ 8 (by kernel_rfl) (by kernel_rfl) (by kernel_rfl) (by kernel_rfl)) ?_
  intro W base args ds gs before hval0 hW hcnd _
  have hval : ∀ (j : Nat) t v, Try.f4.params[j]? = some t → args[j]? = some v → Value.okWide Try.prog W .any base t v := hval0
  have hW' := hW
  obtain ⟨p, q, hA0, hV, rfl, hfz, hnd⟩ := hW
  have hA : DataW.TrodAll enc Try.prog W 0 (fun _ => true) true Try.f4.params.toList args.toList ds p := hA0
  rw [Try.params4] at hA hval
  obtain ⟨v0, vs0, d0, ds0, p0, q0, hargs, rfl, rfl, h0, r0⟩ := trodAll_cons hA
  obtain ⟨rfl, rfl, rfl⟩ := trodAll_nil r0
  obtain rfl : args = #[v0] := by cases args; simp_all
  obtain ⟨rfl, rfl⟩ := trodVars_none hV
  have g0 := h0
  have lt0 : ∀ x ∈ p0, x.block < W.heap.size := by obtain ⟨m, hm⟩ := g0; exact DataW.trod_lt m _ _ _ hm
  obtain ⟨a0, len0, cap0, rfl⟩ := okWide_slice Try.underlying22 (hval 0 22 v0 rfl rfl)
  obtain ⟨z0, w0⟩ : ∃ zs, IsRow .u8 W a0 len0 cap0 zs := by
    obtain ⟨fuel, hf⟩ := h0
    rcases open_ints Try.underlying22 Try.underlying5 (by kernel_rfl) hf with ⟨hcs, _⟩ | ⟨x, l, c, zs, hcs, _, hl, hm, hz, _, hcell, hwz⟩
    · simp [Value.cells] at hcs
      obtain ⟨rfl, rfl, rfl⟩ := hcs
      exact ⟨[], .inl ⟨rfl, rfl, rfl, rfl⟩⟩
    · simp [Value.cells] at hcs
      obtain ⟨rfl, rfl, rfl⟩ := hcs
      exact ⟨zs, .inr ⟨_, rfl, hl, hm, by simpa using hz, hcell, hwz⟩⟩
  clear hA0 hval0
  refine (fnAheads_walk W a0 len0 cap0 z0 w0).mono fun e W' ⟨he, bel⟩ => ?_
  subst he
  exact ⟨_, rfl, _, _, _, [], _, [], hW', trodAll_mk1 (shut_bool Try.underlying4 _), (trodAll_cons_mk (Below.trod laidOut (by kernel_rfl) (of_decide_eq_true (by kernel_rfl)) g0 bel lt0) trodAll_mk0), rfl, bel.frame _, fun h => by cases h⟩

theorem fnAheads_holds : Rows.FnAheadsSaid :=
  OpenClaim.holds_of_wide 4 Try.f4 rfl rfl rfl rfl rfl rfl rfl ⟨rfl, rfl, rfl, rfl, rfl⟩ rfl rfl rfl rfl rfl (by kernel_rfl) Try.func4 (by kernel_rfl)
    (of_decide_eq_true (by kernel_rfl)) (by unfold Func.isWrapper; first | (rw [if_pos (by decide +kernel)]; kernel_rfl) | (rw [if_neg (by decide +kernel)]; exact ⟨rfl, rfl⟩))
    (fun os started H enc _ => fnAheads_lifted os started H enc)
#print axioms fnAheads_holds
end Go.Proofs.Ytinjppnnggeebaa
