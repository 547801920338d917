/- At every code the law on growths that are taken holds: such a growth goes on from what there was, or there are two pieces of one sum; the table that begins pieces starts as the program's text lays it. -/
import Derived.Test.YtklhkhlmhddmcaaDoorIGwC
import Derived.Test.YtklhkhlmhddmcaaDoorGqX
import Derived.Test.YtklhkhlmhddmcaaDoorDrawG6
import Derived.Test.YtklhkhlmhddmcaaDoorNumsG
import Derived.Test.YtklhkhlmhddmcaaDoorBig
import Derived.Deep.DeepCutAuto
import Derived.Test.YtklhkhlmhddmcaaDoorDoor
namespace Go.Proofs.YtklhkhlmhddmcaaDoor
open Go.ChangeShapes Go.WideShapes Go.ChangeAt Go.RowKit
set_option linter.unusedVariables false
set_option linter.unusedSimpArgs false

set_option maxRecDepth 100000 in
set_option maxHeartbeats 16000000 in
theorem fnGrowTrue_walk (w : World) (hT : Tab w) (a0 : Option Addr) (len0 cap0 : Nat) (z0 : List Int) (w0 : IsRow .u8 w a0 len0 cap0 z0) :
    Calls Tryd.prog 4 #[.slice a0 len0 cap0] w fun e w' => e = .returned (.bool true) ∧ Below w.heap.size w w' := by
  have A0 := Has.of_row w0
  have hlen := A0.1
  generalize z0.take len0 = zs at A0 hlen
  subst hlen
  clear w0
  by_cases hbig : 1048576 < zs.length
  case pos =>
    go_enter Tryd.func4, Tryd.ntmps4
    go_wp2_with fail
    refine (lwBig_yes _ a0 _ cap0 hbig).mono ?_
    rintro r u ⟨rfl, rfl⟩
    go_wp2
    go_ret
    exact ⟨rfl, Below.refl _ _⟩
  have hsm : zs.length ≤ 1048576 := by omega
  have HT : Hid (Tab w) := hT
  clear hT hbig
  go_enter Tryd.func4, Tryd.ntmps4
  go_wp2_with fail
  refine (lwBig_no _ a0 _ cap0 hsm).mono ?_
  rintro r u ⟨rfl, hu⟩
  have hu2 := hu.symm
  subst hu2
  clear hu
  go_wp2_with fail
  refine (drawGrowClash_any _ a0 _ cap0 zs A0 hsm).mono ?_
  rintro e u1 ⟨a1, c1, xs, a2, c2, ys, a3, c3, ps, rfl, lx, ly, lp, ⟨ex, fx⟩, ⟨ey, fy⟩, ⟨ep, fp⟩, X1, Y1, P1, hb1⟩
  have SP : Hid (∀ u : World, Below u1.heap.size u1 u → Calls Tryd.prog 27 #[.slice a1 xs.length c1, .slice a2 ys.length c2, .slice a3 ps.length c3] u fun r w' => ∃ a1 c1 a2 c2, r = .returned (.agg #[.int .i64 (gqC xs ys ps), .bool (gqX xs ys ps).isSome, .slice a1 (clA (gqX xs ys ps)).length c1, .slice a2 (clB (gqX xs ys ps)).length c2]) ∧ Below u.heap.size u w') := by
    intro u hu
    refine (specGrowClash_any a1 a2 a3 c1 c2 c3 xs ys ps u (X1.below hu (Nat.le_refl _)) (Y1.below hu (Nat.le_refl _)) (P1.below hu (Nat.le_refl _)) (by omega) (by omega) (by omega) ex fx ey fy ep fp).mono ?_
    rintro r w' ⟨a1, c1, a2, c2, rfl, _, hb⟩
    exact ⟨a1, c1, a2, c2, rfl, hb⟩
  go_wp2_with fail
  refine (implGrowClash_any a1 a2 a3 c1 c2 c3 xs ys ps _ (HT.out.below hb1 (Nat.le_refl _)) X1 Y1 P1 (by omega) (by omega) (by omega) ex fx ey fy ep fp).mono ?_
  rintro r u2 ⟨b1, i1, b2, i2, rfl, O2, hb2⟩
  have W2 := hb1.trans (hb2.mono hb1.size)
  have OK := cl_ok (gqX_some xs ys ps)
  have H1 := has_of_own O2.one OK.2.2.1
  have H2 := has_of_own O2.two OK.2.2.2
  have X2 := X1.below hb2 (Nat.le_refl _)
  have Y2 := Y1.below hb2 (Nat.le_refl _)
  have KX : Hid (gqC xs ys ps = 0 → 1 ≤ xs.length ∧ xs.length ≤ ys.length ∧ (xs = ys.take xs.length ∨ ∃ x, gqX xs ys ps = some x ∧ isCl x)) := by
    intro h
    obtain ⟨h1, h2, h3, h4, h5⟩ := gqC_zero h
    obtain ⟨g1, ax⟩ := lvF_zero h1
    obtain ⟨g2, ay⟩ := lvF_zero h2
    obtain ⟨_, m1, m2, m3, m4⟩ := agB_true h5
    refine ⟨h3, h4, ?_⟩
    cases hg : gkC xs ys true (rtM nS 11 xs) ps with
    | none => exact .inl (gkC_true _ xs ys true _ ps (Nat.le_refl _) h3 h4 (by omega) (fun _ => rfl) m4 hg)
    | some x =>
      have hX : gqX xs ys ps = some x := by unfold gqX; rw [if_pos h]; exact hg
      exact .inr ⟨x, hX, gqX_some xs ys ps x hX⟩
  by_cases hcode : gqC xs ys ps = 0
  · obtain ⟨n1, n2, hor⟩ := KX.out hcode
    rw [hcode]
    obtain ⟨bb, oo, hy⟩ : ∃ b off, a2 = some ⟨b, off, none⟩ := by
      rcases Y2.2.2 with c | ⟨b, o, h, _⟩
      · omega
      · exact ⟨b, o, h⟩
    subst hy
    unfold maxLen at fy
    have q1 : (1 : Int) ≤ xs.length := by omega
    have q2 : (xs.length : Int) ≤ ys.length := by omega
    have q3 : (xs.length : Int) ≤ c2 := by omega
    have q4 : ¬ (ys.length : Int) < xs.length := by omega
    have q5 : ((xs.length : Int) == 0) = false := by simp; exact fun h => by simp [h] at n1
    have q6 : (0 : Int) ≤ xs.length := by omega
    have tl : (ys.take xs.length).length = xs.length := by simp; omega
    have YT := has_init Y2 xs.length n2
    have NM : Hid (∀ u : World, Below u2.heap.size u2 u → Calls Tryd.prog 17 #[.slice a1 xs.length c1, .slice (some ⟨bb, oo, none⟩) xs.length c2] u fun r w' => r = .returned (.bool (decide (xs = ys.take xs.length))) ∧ Below u.heap.size u w') := by
      intro u hu
      have := numsG_any a1 (some ⟨bb, oo, none⟩) c1 c2 xs (ys.take xs.length) u (X2.below hu (Nat.le_refl _)) (YT.below hu (Nat.le_refl _)) (by omega)
      rw [tl] at this
      exact this
    by_cases heq : xs = ys.take xs.length
    · have hd : decide (xs = ys.take xs.length) = true := decide_eq_true heq
      rw [hd] at NM
      generalize (gqX xs ys ps).isSome = ff at *
      generalize clA (gqX xs ys ps) = ls at *
      generalize clB (gqX xs ys ps) = ms at *
      have NMH : Hid (_) := NM
      clear heq hd hor hcode KX SP X1 Y1 P1 X2 Y2 YT tl n1 n2 OK H1 H2 O2 hb2 hb1 NM
      have BV : Below u2.heap.size u2 (u2.alloc (.cells #[.int .i64 0, .bool ff, .slice b1 ls.length i1, .slice b2 ms.length i2] 31)) := (Below.refl _ _).alloc (Nat.le_refl _) _
      go_wp2_with fail
      refine (NMH.out _ BV).mono ?_
      rintro r u3 ⟨rfl, hb3⟩
      go_wp2
      go_ret
      exact ⟨rfl, (W2.alloc W2.size _).trans (hb3.mono (by have := W2.size; simp; omega))⟩
    · have hd : decide (xs = ys.take xs.length) = false := decide_eq_false heq
      rw [hd] at NM
      rcases hor with h | ⟨x, hX, hx⟩
      · exact absurd h heq
      rw [hX] at H1 H2 ⊢
      simp only [Option.isSome_some, clA, clB] at H1 H2 ⊢
      have NMH : Hid (_) := NM
      have HX : Hid (isCl x) := hx
      clear heq hd hcode KX SP X1 Y1 P1 X2 Y2 YT tl n1 n2 OK O2 hb2 hb1 hX NM hx
      have BV : Below u2.heap.size u2 (u2.alloc (.cells #[.int .i64 0, .bool true, .slice b1 x.1.length i1, .slice b2 x.2.length i2] 31)) := (Below.refl _ _).alloc (Nat.le_refl _) _
      have G1 := H1.alloc (.cells #[.int .i64 0, .bool true, .slice b1 x.1.length i1, .slice b2 x.2.length i2] 31)
      have G2 := H2.alloc (.cells #[.int .i64 0, .bool true, .slice b1 x.1.length i1, .slice b2 x.2.length i2] 31)
      go_wp2_with fail
      refine (NMH.out _ BV).mono ?_
      rintro r u3 ⟨rfl, hb3⟩
      obtain ⟨⟨v0, v1, v2, v3⟩, _, _, _, _⟩ := var4 hb3
      have W3 := (W2.alloc W2.size (.cells #[.int .i64 0, .bool true, .slice b1 x.1.length i1, .slice b2 x.2.length i2] 31)).trans (hb3.mono (by have := W2.size; simp; omega))
      have K1 := G1.below hb3 (Nat.le_refl _)
      have K2 := G2.below hb3 (Nat.le_refl _)
      clear G1 G2 H1 H2 hb3 BV
      go_wp2_with fail
      refine (found_any HX.out b1 b2 i1 i2 _ K1 K2).mono ?_
      rintro r u4 ⟨rfl, hb4⟩
      go_wp2
      go_ret
      exact ⟨rfl, W3.trans (hb4.mono W3.size)⟩
  · have b0 : (gqC xs ys ps != 0) = true := by simpa using hcode
    have SPH : Hid (∀ u : World, Below u2.heap.size u2 u → Calls Tryd.prog 27 #[.slice a1 xs.length c1, .slice a2 ys.length c2, .slice a3 ps.length c3] u fun r w' => ∃ a1 c1 a2 c2, r = .returned (.agg #[.int .i64 (gqC xs ys ps), .bool (gqX xs ys ps).isSome, .slice a1 (clA (gqX xs ys ps)).length c1, .slice a2 (clB (gqX xs ys ps)).length c2]) ∧ Below u.heap.size u w') := fun u hu => SP.out u (hb2.trans (hu.mono hb2.size))
    clear KX SP OK H1 H2 X1 Y1 P1 X2 Y2 O2 hcode hb1 hb2
    generalize (gqX xs ys ps).isSome = ff at *
    generalize clA (gqX xs ys ps) = ls at *
    generalize clB (gqX xs ys ps) = ms at *
    generalize gqC xs ys ps = cc at *
    have hcc : (cc == cc) = true := by simp
    have FQ := fldQ0
    obtain ⟨U, hU⟩ : ∃ U, U = u2.alloc (.cells #[.int .i64 cc, .bool ff, .slice b1 ls.length i1, .slice b2 ms.length i2] 31) := ⟨_, rfl⟩
    have zU : u2.heap.size < U.heap.size := by rw [hU]; simp
    have BU : Below u2.heap.size u2 U := by rw [hU]; exact (Below.refl _ _).alloc (Nat.le_refl _) _
    have d0 : ∀ wx : World, Below U.heap.size U wx → wx.cell? ⟨u2.heap.size, 0, none⟩ = some (.int .i64 cc) := fun wx h => (h.cell (p := ⟨u2.heap.size, 0, none⟩) zU).trans (by rw [hU]; simp [go_sem])
    have U0 : Below U.heap.size U U.drew := (Below.refl _ _).drew
    go_wp2_with fail
    simp only [← hU]
    clear hU
    go_region_held2 (fun wx => Below U.heap.size U wx)
      ((first | exact U0 | exact U1))
      ((first | (go_at_call 27; refine (SPH.out _ (BU.trans (U0.mono BU.size))).mono ?_; rintro _ ua ⟨j1, j2, j3, j4, rfl, hba⟩; have U1 : Below U.heap.size U ua := U0.trans (hba.mono U0.size)) | fail))
    go_wp2
    go_ret
    have BW := W2.trans (BU.mono W2.size)
    exact ⟨by first | rfl | simp, BW.trans (U1.mono BW.size)⟩

set_option maxRecDepth 100000 in
theorem fnGrowTrue_lifted (os : Os) (started : os.Started) (H : Type) (enc : TypeId × Value → H) :
    ReturnsInHanded {} Tryd.checked os 4 .any (fun w args => (Rows.fnGrowTrueSpec.pre enc Tryd.prog Tryd.f4 [] false w args ∧ laidMetH Tryd.prog [("loop.example/g00565/impl.pieceStarts", Rows.laid_loop_example_g00565_impl_pieceStarts)] w) ∧ sizedMet enc Tryd.prog Tryd.f4 (OpenSpec.ofChange Rows.fnGrowTrueSpec) false w args) (Rows.fnGrowTrueSpec.post enc Tryd.prog Tryd.f4 false true false false) := by
  refine returnsInHanded_of_change_and (C := Tryd.checked) (X := fun w _ => laidMetH Tryd.prog [("loop.example/g00565/impl.pieceStarts", Rows.laid_loop_example_g00565_impl_pieceStarts)] w) (fun _ _ _ hh h => h.of_heap hh) own started (by kernel_rfl) Tryd.func4
    (ChangeSpec.witness_shaped (enc := enc) (C := Tryd.checked) (os := os) (X := fun w _ => laidMetH Tryd.prog [("loop.example/g00565/impl.pieceStarts", Rows.laid_loop_example_g00565_impl_pieceStarts)] w) false (World.doorLaid Tryd.prog 400 os) #[.slice none 0 0] 8 rfl (World.shaped_of_RefB (by kernel_rfl) (by kernel_rfl)) (by kernel_rfl) (by kernel_rfl) (by kernel_rfl) (door_met os _)) ?_
  intro W base args ds gs before hval0 hW _ _ hL _
  have hval : ∀ (j : Nat) t v, Tryd.f4.params[j]? = some t → args[j]? = some v → Value.okWide Tryd.prog W .any base t v := hval0
  have hW' := hW
  obtain ⟨p, q, hA0, hV, rfl, hfz, hnd⟩ := hW
  have hA : DataW.TrodAll enc Tryd.prog W 0 (fun _ => true) true Tryd.f4.params.toList args.toList ds p := hA0
  rw [Tryd.params4] at hA hval
  obtain ⟨v0, vs0, d0, ds0, p0, q0, hargs, rfl, rfl, h0, r0⟩ := trodAll_cons hA
  obtain ⟨rfl, rfl, rfl⟩ := trodAll_nil r0
  obtain rfl : args = #[v0] := by cases args; simp_all
  obtain ⟨g, rfl⟩ : ∃ g, gs = [g] := by obtain ⟨_, _, _, _, d, _, e, _⟩ := trodVars_one hV; exact ⟨d, e⟩
  have g0 := h0
  have lt0 : ∀ x ∈ p0, x.block < W.heap.size := by obtain ⟨m, hm⟩ := g0; exact DataW.trod_lt m _ _ _ hm
  obtain ⟨a0, len0, cap0, rfl⟩ := okWide_slice Tryd.underlying22 (hval 0 22 v0 rfl rfl)
  obtain ⟨z0, w0⟩ : ∃ zs, IsRow .u8 W a0 len0 cap0 zs := by
    obtain ⟨fuel, hf⟩ := h0
    rcases open_ints Tryd.underlying22 Tryd.underlying5 (by kernel_rfl) hf with ⟨hcs, _⟩ | ⟨x, l, c, zs, hcs, _, hl, hm, hz, _, hcell, hwz⟩
    · simp [Value.cells] at hcs
      obtain ⟨rfl, rfl, rfl⟩ := hcs
      exact ⟨[], .inl ⟨rfl, rfl, rfl, rfl⟩⟩
    · simp [Value.cells] at hcs
      obtain ⟨rfl, rfl, rfl⟩ := hcs
      exact ⟨zs, .inr ⟨_, rfl, hl, hm, by simpa using hz, hcell, hwz⟩⟩
  clear hA0 hval0
  refine (fnGrowTrue_walk W (tab_of_laid hL) a0 len0 cap0 z0 w0).mono fun e W' ⟨he, bel⟩ => ?_
  subst he
  exact ⟨_, rfl, _, _, _, [], _, _, hW', trodAll_mk1 (shut_bool Tryd.underlying4 _), (trodAll_cons_mk (Below.trod laidOut (by kernel_rfl) (of_decide_eq_true (by kernel_rfl)) g0 bel lt0) trodAll_mk0), Below.trodVars laidOut bel (by kernel_rfl) hV, bel.frame _, fun h => by cases h⟩

theorem fnGrowTrue_row : Rows.FnGrowTrueSaid :=
  OpenClaim.holds_of_wide 4 Tryd.f4 rfl rfl rfl rfl rfl rfl rfl ⟨rfl, rfl, rfl, rfl, rfl⟩ rfl rfl rfl rfl rfl (by kernel_rfl) Tryd.func4 (by kernel_rfl)
    (of_decide_eq_true (by kernel_rfl)) (by unfold Func.isWrapper; first | (rw [if_pos (by decide +kernel)]; kernel_rfl) | (rw [if_neg (by decide +kernel)]; exact ⟨rfl, rfl⟩))
    (fun os started H enc _ => fnGrowTrue_lifted os started H enc)

theorem fnGrowTrue_holds : Rows.FnGrowTrueCardSaid :=
  Claim7.holds_tied_plain_at .later [] [.data] true Rows.fnGrowTrueCard.stood.harness Rows.fnGrowTrueCard.stood.looks
    fnGrowTrue_row (fun _ h => by cases h) (by kernel_rfl) (fun _ h => by cases h) fnGrowTrue_row_tie rfl ⟨rfl, rfl⟩ (by kernel_rfl) rfl
    (fun f fn hf hfn => by
      obtain rfl : f = 4 := Option.some.inj ((show Tryd.prog.funcNamed "loop.example/g00565/laws.FnGrowTrue" = some 4 by kernel_rfl).symm.trans hf) |>.symm
      obtain rfl : fn = Tryd.f4 := (Option.some.inj (Tryd.func4.symm.trans hfn)).symm
      exact ⟨by kernel_rfl, fun j t ht => by
        rw [Tryd.params4] at ht
        have h3 : t = 22 := by
          match j, ht with
          | 0, ht => simp at ht; simp [← ht]
          | _ + 1, ht => simp at ht
        rcases h3 with rfl
        all_goals exact (show Tryd.prog.wantsStandIn _ = false by kernel_rfl)⟩)
    (by kernel_rfl)
#print axioms fnGrowTrue_holds
end Go.Proofs.YtklhkhlmhddmcaaDoor
