/- At every slice of bytes the program's LeafSum answers as the specification's model of it, and leaves the slice as it was; the table that begins pieces starts as the program's text lays it. -/
import Derived.Test.YtngibnmcagogaaaDoorSBytes
import Derived.Test.YtngibnmcagogaaaDoorEqInt
import Derived.Test.YtngibnmcagogaaaDoorDoor
namespace Go.Proofs.YtngibnmcagogaaaDoor
open Go.ChangeShapes Go.WideShapes Go.ChangeAt Go.RowKit
set_option linter.unusedVariables false
set_option linter.unusedSimpArgs false

set_option maxHeartbeats 2000000 in
theorem fnExactLeafSum_walk (w : World) (hT : Tab w) (a0 : Option Addr) (len0 cap0 : Nat) (z0 : List Int) (w0 : IsRow .u8 w a0 len0 cap0 z0) :
    Calls Tryd.prog 4 #[.slice a0 len0 cap0] w fun e w' => e = .returned (.bool true) ∧ Below w.heap.size w w' := by
  have H0 := Has.of_row w0
  have hlen := H0.1
  generalize z0.take len0 = zs at H0 hlen
  subst hlen
  clear w0
  by_cases hbig : 1048576 < zs.length
  · have hbig' : (1048576 : Int) < (zs.length : Int) := by omega
    go_enter Tryd.func4, Tryd.ntmps4
    go_wp2
    go_ret
    exact ⟨rfl, Below.refl _ _⟩
  · have hsm : zs.length ≤ 1048576 := by omega
    have hsm' : (zs.length : Int) ≤ 1048576 := by omega
    have tok1 : True := trivial
    have tok2 : True := trivial
    go_enter Tryd.func4, Tryd.ntmps4
    go_wp2_with (first | (go_at_call 29; have _t := tok1; refine (toBytes_has a0 cap0 zs _ H0 hsm).mono ?_; rintro r u1 ⟨rfl, hb1, H1, hy1⟩; clear tok1 _t; have A1 := H0.below hb1 (Nat.le_refl _); have T1 := hT.below hb1 (Nat.le_refl _)) | (go_at_call 28; refine (specLeafS_any _ _ zs _ H1 (by omega)).mono ?_; rintro r u2 ⟨rfl, hb2⟩; have hz2 := hb2.size; have A2 := A1.below hb2 (Nat.le_refl _); clear H1 A1; have T2 := T1.below hb2 (Nat.le_refl _); clear T1) | (go_at_call 29; have _t := tok2; refine (toBytes_has a0 cap0 zs _ (A2.alloc _) hsm).mono ?_; rintro r u3 ⟨rfl, hb3, H3, hy3⟩; clear tok2 _t; have A3 := (A2.alloc _).below hb3 (Nat.le_refl _); obtain ⟨hc3, hf3⟩ := bcell hb3; (try simp at hy3); have hy3' : u2.heap.size < u3.heap.size := (by omega); have X3 : Has u3 .u8 (some ⟨u2.heap.size + 1, 0, none⟩) zs.length zs := (by simpa using H3); clear H3 A2; have T3 := (T2.alloc _).below hb3 (Nat.le_refl _); clear T2) | (go_at_call 25; refine (implLeafSum_any _ _ zs _ T3 X3).mono ?_; rintro r u4 ⟨rfl, hb4⟩; have hz4 := hb4.size; have A4 := A3.below hb4 (Nat.le_refl _); have X4 := X3.below hb4 (Nat.le_refl _); obtain ⟨hc4, hf4⟩ := bcell hb4; have hy4 : u2.heap.size < u4.heap.size := (by omega); clear A3 X3) | (go_at_call 30; refine (eqInt_any _ _ _).mono ?_; rintro r u5 ⟨rfl, hb5⟩; have hz5 := hb5.size; (try simp at hz5); have A5 := (A4.alloc _).below hb5 (Nat.le_refl _); have X5 := (X4.alloc _).below hb5 (Nat.le_refl _); clear A4 X4) | (go_at_call 29; refine (toBytes_has a0 cap0 zs _ A5 hsm).mono ?_; rintro r u6 ⟨rfl, hb6, H6, hy6⟩; have X6 := X5.below hb6 (Nat.le_refl _); clear X5 A5) | (go_at_call 31; refine (eqBytes_any _ _ _ _ zs _ X6 H6 hsm).mono ?_; rintro r u7 ⟨rfl, hb7⟩; clear X6 H6))
    go_ret
    refine ⟨rfl, ?_⟩
    repeat (first | exact Below.refl _ _ | (refine Below.alloc ?_ (by (try simp) <;> omega) _) | (refine Below.setCell ?_ (by (try simp) <;> omega) _) | (refine below_drewN ?_ _) | (refine Below.drew ?_) | (refine Below.trans ?_ (hb7.mono (by (try simp) <;> omega))) | (refine Below.trans ?_ (hb6.mono (by (try simp) <;> omega))) | (refine Below.trans ?_ (hb5.mono (by (try simp) <;> omega))) | (refine Below.trans ?_ (hb4.mono (by (try simp) <;> omega))) | (refine Below.trans ?_ (hb3.mono (by (try simp) <;> omega))) | (refine Below.trans ?_ (hb2.mono (by (try simp) <;> omega))) | (refine Below.trans ?_ (hb1.mono (by (try simp) <;> omega))))

set_option maxRecDepth 100000 in
theorem fnExactLeafSum_lifted (os : Os) (started : os.Started) (H : Type) (enc : TypeId × Value → H) :
    ReturnsInHanded {} Tryd.checked os 4 .any (fun w args => (Rows.fnExactLeafSumSpec.pre enc Tryd.prog Tryd.f4 [] false w args ∧ laidMetH Tryd.prog [("loop.example/g00565/impl.pieceStarts", Rows.laid_loop_example_g00565_impl_pieceStarts)] w) ∧ sizedMet enc Tryd.prog Tryd.f4 (OpenSpec.ofChange Rows.fnExactLeafSumSpec) false w args) (Rows.fnExactLeafSumSpec.post enc Tryd.prog Tryd.f4 false true false false) := by
  refine returnsInHanded_of_change_and (C := Tryd.checked) (X := fun w _ => laidMetH Tryd.prog [("loop.example/g00565/impl.pieceStarts", Rows.laid_loop_example_g00565_impl_pieceStarts)] w) (fun _ _ _ hh h => h.of_heap hh) own started (by kernel_rfl) Tryd.func4
    (ChangeSpec.witness_shaped (enc := enc) (C := Tryd.checked) (os := os) (X := fun w _ => laidMetH Tryd.prog [("loop.example/g00565/impl.pieceStarts", Rows.laid_loop_example_g00565_impl_pieceStarts)] w) false (World.doorLaid Tryd.prog 400 os) #[.slice none 0 0] 8 rfl (World.shaped_of_RefB (by kernel_rfl) (by kernel_rfl)) (by kernel_rfl) (by kernel_rfl) (by kernel_rfl) (door_met os _)) ?_
  intro W base args ds gs before hval0 hW _ _ hL _
  have hval : ∀ (j : Nat) t v, Tryd.f4.params[j]? = some t → args[j]? = some v → Value.okWide Tryd.prog W .any base t v := hval0
  have hW' := hW
  obtain ⟨p, q, hA0, hV, rfl, hfz, hnd⟩ := hW
  have hA : DataW.TrodAll enc Tryd.prog W 0 (fun _ => true) true Tryd.f4.params.toList args.toList ds p := hA0
  rw [Tryd.params4] at hA hval
  obtain ⟨v0, vs0, d0, ds0, p0, q0, hargs, rfl, rfl, h0, r0⟩ := trodAll_cons hA
  obtain ⟨rfl, rfl, rfl⟩ := trodAll_nil r0
  obtain rfl : args = #[v0] := by cases args; simp_all
  obtain ⟨g, rfl⟩ : ∃ g, gs = [g] := by obtain ⟨_, _, _, _, d, _, e, _⟩ := trodVars_one hV; exact ⟨d, e⟩
  have g0 := h0
  have lt0 : ∀ x ∈ p0, x.block < W.heap.size := by obtain ⟨m, hm⟩ := g0; exact DataW.trod_lt m _ _ _ hm
  obtain ⟨a0, len0, cap0, rfl⟩ := okWide_slice Tryd.underlying22 (hval 0 22 v0 rfl rfl)
  obtain ⟨z0, w0⟩ : ∃ zs, IsRow .u8 W a0 len0 cap0 zs := by
    obtain ⟨fuel, hf⟩ := h0
    rcases open_ints Tryd.underlying22 Tryd.underlying5 (by kernel_rfl) hf with ⟨hcs, _⟩ | ⟨x, l, c, zs, hcs, _, hl, hm, hz, _, hcell, hwz⟩
    · simp [Value.cells] at hcs
      obtain ⟨rfl, rfl, rfl⟩ := hcs
      exact ⟨[], .inl ⟨rfl, rfl, rfl, rfl⟩⟩
    · simp [Value.cells] at hcs
      obtain ⟨rfl, rfl, rfl⟩ := hcs
      exact ⟨zs, .inr ⟨_, rfl, hl, hm, by simpa using hz, hcell, hwz⟩⟩
  clear hA0 hval0
  refine (fnExactLeafSum_walk W (tab_of_laid hL) a0 len0 cap0 z0 w0).mono fun e W' ⟨he, bel⟩ => ?_
  subst he
  exact ⟨_, rfl, _, _, _, [], _, _, hW', trodAll_mk1 (shut_bool Tryd.underlying4 _), (trodAll_cons_mk (Below.trod laidOut (by kernel_rfl) (of_decide_eq_true (by kernel_rfl)) g0 bel lt0) trodAll_mk0), Below.trodVars laidOut bel (by kernel_rfl) hV, bel.frame _, fun h => by cases h⟩

theorem fnExactLeafSum_row : Rows.FnExactLeafSumSaid :=
  OpenClaim.holds_of_wide 4 Tryd.f4 rfl rfl rfl rfl rfl rfl rfl ⟨rfl, rfl, rfl, rfl, rfl⟩ rfl rfl rfl rfl rfl (by kernel_rfl) Tryd.func4 (by kernel_rfl)
    (of_decide_eq_true (by kernel_rfl)) (by unfold Func.isWrapper; first | (rw [if_pos (by decide +kernel)]; kernel_rfl) | (rw [if_neg (by decide +kernel)]; exact ⟨rfl, rfl⟩))
    (fun os started H enc _ => fnExactLeafSum_lifted os started H enc)

theorem fnExactLeafSum_holds : Rows.FnExactLeafSumCardSaid :=
  Claim7.holds_tied_plain_at .later [] [.data] true Rows.fnExactLeafSumCard.stood.harness false
    fnExactLeafSum_row (fun _ h => by cases h) (by kernel_rfl) (fun _ h => by cases h) fnExactLeafSum_row_tie rfl ⟨rfl, rfl⟩ (by kernel_rfl) rfl
    (fun f fn hf hfn => by
      obtain rfl : f = 4 := Option.some.inj ((show Tryd.prog.funcNamed "loop.example/g00565/laws.FnExactLeafSum" = some 4 by kernel_rfl).symm.trans hf) |>.symm
      obtain rfl : fn = Tryd.f4 := (Option.some.inj (Tryd.func4.symm.trans hfn)).symm
      exact ⟨by kernel_rfl, fun j t ht => by
        rw [Tryd.params4] at ht
        have h3 : t = 22 := by
          match j, ht with
          | 0, ht => simp at ht; simp [← ht]
          | _ + 1, ht => simp at ht
        rcases h3 with rfl
        all_goals exact (show Tryd.prog.wantsStandIn _ = false by kernel_rfl)⟩)
    (by kernel_rfl)
#print axioms fnExactLeafSum_holds
end Go.Proofs.YtngibnmcagogaaaDoor
