/- At every code the law FnLeasts returns true: the least is one of them, and none is ahead of it, the most so, too; no condition. -/
import Derived.Test.YtinjppnnggeebaaMany
import Derived.Test.YtinjppnnggeebaaLst
import Derived.Test.YtinjppnnggeebaaBestly
import Derived.Test.YtinjppnnggeebaaBig
import Derived.Test.YtinjppnnggeebaaKeep
namespace Go.Proofs.Ytinjppnnggeebaa
open Go.ChangeShapes Go.WideShapes Go.ChangeAt Go.RowKit
set_option linter.unusedVariables false

set_option maxHeartbeats 8000000 in
theorem fnLeasts_walk (w : World) (a0 : Option Addr) (len0 cap0 : Nat) (z0 : List Int) (w0 : IsRow .u8 w a0 len0 cap0 z0) :
    Calls Try.prog 5 #[.slice a0 len0 cap0] w fun e w' => e = .returned (.bool true) ∧ Below w.heap.size w w' := by
  have H0 := Has.of_row w0
  have hlen := H0.1
  generalize z0.take len0 = zs at H0 hlen
  subst hlen
  clear w0
  by_cases hbig : 1048576 < zs.length
  · go_enter Try.func5, Try.ntmps5
    go_wp2_with (go_at_call 6; refine (lwBig_yes _ _ _ _ hbig).mono ?_; rintro r u1 ⟨rfl, rfl⟩)
    go_ret
    exact ⟨rfl, Below.refl _ _⟩
  · have hsm : zs.length ≤ 1048576 := by omega
    go_enter Try.func5, Try.ntmps5
    go_wp2_with (first | (go_at_call 6; refine (lwBig_no _ _ _ _ hsm).mono ?_; rintro r u0 ⟨rfl, rfl⟩) | (go_at_call 22; refine (drawLeastOf_any _ a0 zs.length cap0 zs H0 hsm).mono ?_; rintro r u1 ⟨a', c', ys, rfl, L1, hb1⟩) | (go_at_call 23; refine (LeastOf_impl a' c' ys _ L1).mono ?_; rintro r u2 ⟨rfl, hb2⟩; have L2 := (L1.below hb2 (Nat.le_refl _)).alloc))
    refine (MostOf_impl a' c' ys _ (L2 _)).mono ?_
    rintro r u3 ⟨rfl, hb3⟩
    have hz3 := hb3.size
    simp at hz3
    have C0 := hb3.cell (p := ⟨u2.heap.size, 0, none⟩) (by simp)
    have C1 := hb3.cell (p := ⟨u2.heap.size, 1, none⟩) (by simp)
    simp [go_sem] at C0 C1
    have hT := (((hb1.trans (hb2.mono hb1.size)).alloc (Nat.le_trans hb1.size hb2.size) _).trans (hb3.mono (by have := hb1.size; have := hb2.size; simp; omega)))
    have L3 := (L2 _).below hb3 (Nat.le_refl _)
    have hz2' : u2.heap.size < u3.heap.size := by omega
    clear hb1 hb2 hb3 L1 L2 hz3
    rw [best_code ys]
    have hcc := code_cases ys
    have hls := leasts (ys := ys)
    rw [best_code ys] at hls
    generalize hC : bestCode false ys = C at *
    generalize hlv : bestVal false ys = lv at *
    generalize hmv : bestVal true ys = mv at *
    have hW : ∀ b o, b < u3.heap.size → (u3.alloc (.cells #[.int .i64 C, .int .i64 mv] 29)).cell? ⟨b, o, none⟩ = u3.cell? ⟨b, o, none⟩ := fun b o hb => ((Below.refl _ _).alloc (Nat.le_refl _) _).cell (p := ⟨b, o, none⟩) hb
    have M0 : (u3.alloc (.cells #[.int .i64 C, .int .i64 mv] 29)).cell? ⟨u3.heap.size, 0, none⟩ = some (.int .i64 C) := by simp [go_sem]
    have M1 : (u3.alloc (.cells #[.int .i64 C, .int .i64 mv] 29)).cell? ⟨u3.heap.size, 1, none⟩ = some (.int .i64 mv) := by simp [go_sem]
    have D0 := (hW _ _ hz2').trans C0
    have D1 := (hW _ _ hz2').trans C1
    have hTW := hT.alloc hT.size (.cells #[.int .i64 C, .int .i64 mv] 29)
    have LW := L3.alloc (.cells #[.int .i64 C, .int .i64 mv] 29)
    have hmW : u3.heap.size < (u3.alloc (.cells #[.int .i64 C, .int .i64 mv] 29)).heap.size := by simp
    have hlW : u2.heap.size < (u3.alloc (.cells #[.int .i64 C, .int .i64 mv] 29)).heap.size := by simp; omega
    clear hW hT L3
    have hfl := fld_int
    have hfc := fld_code
    rcases hcc with rfl | rfl | rfl
    · obtain ⟨_, hlm, hmm, hml, hall⟩ := hls rfl
      clear hls
      go_wp2
      generalize (u3.alloc (.cells #[.int .i64 0, .int .i64 mv] 29)) = W at *
      generalize u3.heap.size = y at *
      generalize u2.heap.size = p at *
      clear C0 C1
      have hy0 : ys.length ≠ 0 := by intro c; have := List.eq_nil_of_length_eq_zero c; rw [this] at hlm; cases hlm
      have hwf := LW.2.1
      have h40 := code_len hC
      have h40' : (ys.length : Int) ≤ 40 := by omega
      have hl0 := bounds_i64 (hwf lv hlm)
      have hm0 := bounds_i64 (hwf mv hmm)
      rcases LW.2.2 with hc | ⟨b, off, rfl, hbW, hcell⟩
      · exact absurd hc hy0
      go_loopw [6, 7] (fun v i wr => ∃ k : Nat, k ≤ ys.length ∧ i = .int .i64 k ∧ v = .bool (memB ys lv k) ∧ Below W.heap.size W wr) (fun _ i _ => ys.length - (intOf i).toNat)
      case atStart => exact ⟨0, Nat.zero_le _, rfl, rfl, Below.refl _ _⟩
      case round =>
        obtain ⟨k, hk, rfl, rfl, hbel⟩ := hrel
        have e1 : wr.cell? ⟨p, 1, none⟩ = some (.int .i64 lv) := (hbel.cell (p := ⟨p, 1, none⟩) hlW).trans D1
        have e2 : wr.cell? ⟨y, 1, none⟩ = some (.int .i64 mv) := (hbel.cell (p := ⟨y, 1, none⟩) hmW).trans M1
        have e3 : wr.cell? ⟨p, 0, none⟩ = some (.int .i64 0) := (hbel.cell (p := ⟨p, 0, none⟩) hlW).trans D0
        have e4 : wr.cell? ⟨y, 0, none⟩ = some (.int .i64 0) := (hbel.cell (p := ⟨y, 0, none⟩) hmW).trans M0
        have hzr := hbel.size
        by_cases hlt : k < ys.length
        · have hx : wr.cell? ⟨b, off + k, none⟩ = some (.int .i64 ys[k]) := (hbel.cell (p := ⟨b, off + k, none⟩) hbW).trans (by rw [hcell k hlt]; simp [List.getD, hlt])
          have hxb := bounds_i64 (hwf ys[k] (List.getElem_mem hlt))
          have hlt' : (k : Int) < (ys.length : Int) := by omega
          have hms := memB_succ ys lv k hlt
          have hkf := kind_fld
          have hkn := kd_nan (x := ys[k])
          have hnn := hall ys[k] (List.getElem_mem hlt)
          have hcases : ∃ v1 : Bool, (memB ys lv k = true ∧ v1 = true) ∨ (memB ys lv k = false ∧ (ys[k] == lv) = v1) := by
            cases memB ys lv k
            · exact ⟨ys[k] == lv, .inr ⟨rfl, rfl⟩⟩
            · exact ⟨true, .inl ⟨rfl, rfl⟩⟩
          obtain ⟨v1, hv1⟩ := hcases
          have hm1 : memB ys lv (k + 1) = v1 := by
            rw [hms]
            rcases hv1 with ⟨c1, c2⟩ | ⟨c1, c2⟩
            · rw [c1, c2]; rfl
            · rw [c1, c2]; rfl
          have HM : Hid (_) := hm1
          clear hms hm1 hall
          rcases hv1 with ⟨c1, rfl⟩ | ⟨c1, c2⟩
          all_goals
            go_wp2
            go_quiet (fail)
            go_wp2
            have f1 : (wr.drewN nq).cell? ⟨p, 1, none⟩ = some (.int .i64 lv) := e1
            have f2 : (wr.drewN nq).cell? ⟨y, 1, none⟩ = some (.int .i64 mv) := e2
            have fx : (wr.drewN nq).cell? ⟨b, off + k, none⟩ = some (.int .i64 ys[k]) := hx
            have hbel' := below_drewN hbel nq
            have s1 : p < (wr.drewN nq).heap.size := by show p < wr.heap.size; omega
            have s2 : y < (wr.drewN nq).heap.size := by show y < wr.heap.size; omega
            have s3 : b < (wr.drewN nq).heap.size := by show b < wr.heap.size; omega
            generalize wr.drewN nq = w13 at *
            have hne13 : Nonempty (KeptW w13) := ⟨⟨w13, Below.refl _ _⟩⟩
            have g1 := KeptW.cell f1 s1
            have g2 := KeptW.cell f2 s2
            have gx := KeptW.cell fx s3
            clear f1 f2 fx e1 e2 e3 e4 hx
            by_cases hn : nanB ys[k] = true
            · rw [hn] at hkn
              have hkn' : (kd ys[k] != 3) = false := by simpa using hkn
              clear hkn hnn
              refine wp_region_kept (by kernel_rfl) (by kernel_rfl) ?_
              repeat (go_big_quiet_step ((first | (go_at_call 8; exact KeptW.calls (parts_impl _ _ hxb.1 hxb.2)))))
              refine wpQuiet_nil ?_
              rintro _ ⟨d, rfl⟩
              go_wp2
              go_roundw
              case rel => exact ⟨k + 1, by omega, by go_num, by rw [HM.out], d.ofBelow hbel' hbel'.size⟩
              case measure => simp [intOf]; omega
            · have hn' : nanB ys[k] = false := by simpa using hn
              obtain ⟨n1, n2⟩ := hnn hn'
              rw [hn'] at hkn
              have hkn' : (kd ys[k] != 3) = true := by simpa using hkn
              have hA1 : ∀ w, Calls Try.prog 19 #[.int .i64 ys[k], .int .i64 lv] w fun r w' => r = .returned (.bool false) ∧ Below w.heap.size w w' := fun w => by
                have := ahead_impl ys[k] lv w hxb.1 hxb.2 hl0.1 hl0.2
                rw [n1] at this
                exact this
              have hA2 : ∀ w, Calls Try.prog 19 #[.int .i64 mv, .int .i64 ys[k]] w fun r w' => r = .returned (.bool false) ∧ Below w.heap.size w w' := fun w => by
                have := ahead_impl mv ys[k] w hm0.1 hm0.2 hxb.1 hxb.2
                rw [n2] at this
                exact this
              clear hkn hn
              refine wp_region_kept (by kernel_rfl) (by kernel_rfl) ?_
              repeat (go_big_quiet_step ((first | (go_at_call 8; exact KeptW.calls (parts_impl _ _ hxb.1 hxb.2)) | (go_at_call 19; first | exact KeptW.calls (hA1 _) | exact KeptW.calls (hA2 _)))))
              refine wpQuiet_nil ?_
              rintro _ ⟨d, rfl⟩
              go_wp2
              go_roundw
              case rel => exact ⟨k + 1, by omega, by go_num, by rw [HM.out], d.ofBelow hbel' hbel'.size⟩
              case measure => simp [intOf]; omega
        · have hkk : k = ys.length := by omega
          have hme : memB ys lv k = true := by rw [hkk]; exact memB_all ys lv hlm
          have LR := LW.below hbel (Nat.le_refl _)
          have hTR := hTW.trans (hbel.mono hTW.size)
          clear hkk
          rw [hme]
          go_wp2
          have hneR : Nonempty (KeptW wr) := ⟨⟨wr, Below.refl _ _⟩⟩
          have s1 : p < wr.heap.size := by omega
          have s2 : y < wr.heap.size := by omega
          have g1 := KeptW.cell e1 s1
          have g2 := KeptW.cell e2 s2
          have g3 := KeptW.cell e3 s1
          have g4 := KeptW.cell e4 s2
          clear e1 e2 e3 e4
          refine wp_region_kept (by kernel_rfl) (by kernel_rfl) ?_
          repeat (go_big_quiet_step ((first | (go_at_call 19; exact KeptW.calls (ahead_impl _ _ _ hm0.1 hm0.2 hl0.1 hl0.2)) | (go_at_call 25; exact KeptW.calls (LeastOf_spec _ _ ys _ (LR.below (KeptW.hb _) (Nat.le_refl _)))) | (go_at_call 26; exact KeptW.calls (MostOf_spec _ _ ys _ (LR.below (KeptW.hb _) (Nat.le_refl _)))))))
          refine wpQuiet_nil ?_
          rintro _ ⟨d, rfl⟩
          go_wp2
          go_ret
          exact ⟨rfl, d.ofBelow hTR hTR.size⟩
    · go_wp2
      generalize (u3.alloc (.cells #[.int .i64 2, .int .i64 mv] 29)) = W at *
      generalize u3.heap.size = y at *
      generalize u2.heap.size = p at *
      have d0 := KeptW.cell D0 hlW
      have m0 := KeptW.cell M0 hmW
      have hneW : Nonempty (KeptW W) := ⟨⟨W, Below.refl _ _⟩⟩
      clear D0 D1 M0 M1 C0 C1 hls
      refine wp_region_kept (by kernel_rfl) (by kernel_rfl) ?_
      repeat (go_big_quiet_step ((first | (go_at_call 25; exact KeptW.calls (LeastOf_spec _ _ ys _ (LW.below (KeptW.hb _) (Nat.le_refl _)))))))
      refine wpQuiet_nil ?_
      rintro _ ⟨d, rfl⟩
      go_wp2
      go_ret
      exact ⟨rfl, d.ofBelow hTW hTW.size⟩
    · go_wp2
      generalize (u3.alloc (.cells #[.int .i64 4, .int .i64 mv] 29)) = W at *
      generalize u3.heap.size = y at *
      generalize u2.heap.size = p at *
      have d0 := KeptW.cell D0 hlW
      have m0 := KeptW.cell M0 hmW
      have hneW : Nonempty (KeptW W) := ⟨⟨W, Below.refl _ _⟩⟩
      clear D0 D1 M0 M1 C0 C1 hls
      refine wp_region_kept (by kernel_rfl) (by kernel_rfl) ?_
      repeat (go_big_quiet_step ((first | (go_at_call 25; exact KeptW.calls (LeastOf_spec _ _ ys _ (LW.below (KeptW.hb _) (Nat.le_refl _)))))))
      refine wpQuiet_nil ?_
      rintro _ ⟨d, rfl⟩
      go_wp2
      go_ret
      exact ⟨rfl, d.ofBelow hTW hTW.size⟩


set_option maxRecDepth 100000 in
theorem fnLeasts_lifted (os : Os) (started : os.Started) (H : Type) (enc : TypeId × Value → H) :
    ReturnsInHanded {} Try.checked os 5 .any (Rows.fnLeastsSpec.pre6 enc Try.prog Try.f5 Rows.fnLeastsRow.domain false) (Rows.fnLeastsSpec.post enc Try.prog Try.f5 false true false false) := by
  refine returnsInHanded_of_change (C := Try.checked) own started (by kernel_rfl) Try.func5
    (ChangeSpec.witness6 (enc := enc) (C := Try.checked) false ⟨#[], #[.slice none 0 0], []⟩ 8 (by kernel_rfl) (by kernel_rfl) (by kernel_rfl) (by kernel_rfl)) ?_
  intro W base args ds gs before hval0 hW hcnd _
  have hval : ∀ (j : Nat) t v, Try.f5.params[j]? = some t → args[j]? = some v → Value.okWide Try.prog W .any base t v := hval0
  have hW' := hW
  obtain ⟨p, q, hA0, hV, rfl, hfz, hnd⟩ := hW
  have hA : DataW.TrodAll enc Try.prog W 0 (fun _ => true) true Try.f5.params.toList args.toList ds p := hA0
  rw [Try.params5] at hA hval
  obtain ⟨v0, vs0, d0, ds0, p0, q0, hargs, rfl, rfl, h0, r0⟩ := trodAll_cons hA
  obtain ⟨rfl, rfl, rfl⟩ := trodAll_nil r0
  obtain rfl : args = #[v0] := by cases args; simp_all
  obtain ⟨rfl, rfl⟩ := trodVars_none hV
  have g0 := h0
  have lt0 : ∀ x ∈ p0, x.block < W.heap.size := by obtain ⟨m, hm⟩ := g0; exact DataW.trod_lt m _ _ _ hm
  obtain ⟨a0, len0, cap0, rfl⟩ := okWide_slice Try.underlying22 (hval 0 22 v0 rfl rfl)
  obtain ⟨z0, w0⟩ : ∃ zs, IsRow .u8 W a0 len0 cap0 zs := by
    obtain ⟨fuel, hf⟩ := h0
    rcases open_ints Try.underlying22 Try.underlying5 (by kernel_rfl) hf with ⟨hcs, _⟩ | ⟨x, l, c, zs, hcs, _, hl, hm, hz, _, hcell, hwz⟩
    · simp [Value.cells] at hcs
      obtain ⟨rfl, rfl, rfl⟩ := hcs
      exact ⟨[], .inl ⟨rfl, rfl, rfl, rfl⟩⟩
    · simp [Value.cells] at hcs
      obtain ⟨rfl, rfl, rfl⟩ := hcs
      exact ⟨zs, .inr ⟨_, rfl, hl, hm, by simpa using hz, hcell, hwz⟩⟩
  clear hA0 hval0
  refine (fnLeasts_walk W a0 len0 cap0 z0 w0).mono fun e W' ⟨he, bel⟩ => ?_
  subst he
  exact ⟨_, rfl, _, _, _, [], _, [], hW', trodAll_mk1 (shut_bool Try.underlying4 _), (trodAll_cons_mk (Below.trod laidOut (by kernel_rfl) (of_decide_eq_true (by kernel_rfl)) g0 bel lt0) trodAll_mk0), rfl, bel.frame _, fun h => by cases h⟩

theorem fnLeasts_holds : Rows.FnLeastsSaid :=
  OpenClaim.holds_of_wide 5 Try.f5 rfl rfl rfl rfl rfl rfl rfl ⟨rfl, rfl, rfl, rfl, rfl⟩ rfl rfl rfl rfl rfl (by kernel_rfl) Try.func5 (by kernel_rfl)
    (of_decide_eq_true (by kernel_rfl)) (by unfold Func.isWrapper; first | (rw [if_pos (by decide +kernel)]; kernel_rfl) | (rw [if_neg (by decide +kernel)]; exact ⟨rfl, rfl⟩))
    (fun os started H enc _ => fnLeasts_lifted os started H enc)
#print axioms fnLeasts_holds
end Go.Proofs.Ytinjppnnggeebaa
