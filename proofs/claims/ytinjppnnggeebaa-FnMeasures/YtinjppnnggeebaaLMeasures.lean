/- At every code the law FnMeasures returns true: the bits of a measure are those of its parts, and all that are no number are one; no condition. -/
import Derived.Test.YtinjppnnggeebaaDraw
import Derived.Test.YtinjppnnggeebaaAhead
import Derived.Test.YtinjppnnggeebaaOrder
import Derived.Test.YtinjppnnggeebaaBig
import Derived.Test.YtinjppnnggeebaaEqParts
import Derived.Test.YtinjppnnggeebaaKeep
namespace Go.Proofs.Ytinjppnnggeebaa
open Go.ChangeShapes Go.WideShapes Go.ChangeAt Go.RowKit
set_option linter.unusedVariables false

set_option maxHeartbeats 8000000 in
theorem fnMeasures_walk (w : World) (a0 : Option Addr) (len0 cap0 : Nat) (z0 : List Int) (w0 : IsRow .u8 w a0 len0 cap0 z0) :
    Calls Try.prog 3 #[.slice a0 len0 cap0] w fun e w' => e = .returned (.bool true) ∧ Below w.heap.size w w' := by
  have H0 := Has.of_row w0
  have hlen := H0.1
  generalize z0.take len0 = zs at H0 hlen
  subst hlen
  clear w0
  by_cases hbig : 1048576 < zs.length
  · go_enter Try.func3, Try.ntmps3
    go_wp2_with (go_at_call 6; refine (lwBig_yes _ _ _ _ hbig).mono ?_; rintro r u1 ⟨rfl, rfl⟩)
    go_ret
    exact ⟨rfl, Below.refl _ _⟩
  · have hsm : zs.length ≤ 1048576 := by omega
    go_enter Try.func3, Try.ntmps3
    have tok1 : True := trivial
    go_wp2_with (first | (go_at_call 6; refine (lwBig_no _ _ _ _ hsm).mono ?_; rintro r u0 ⟨rfl, rfl⟩) | (go_at_call 7; refine (drawPartsOf_any _ a0 zs.length cap0 zs H0 hsm).mono ?_; rintro r u1 ⟨x, rfl, hx0, hx1, hb1⟩; have A1 := H0.below hb1 (Nat.le_refl _)) | (go_at_call 8; refine (parts_impl x _ hx0 hx1).mono ?_; rintro r u2 ⟨rfl, hb2⟩; have A2 := (A1.below hb2 (Nat.le_refl _)).alloc) | (go_at_call 9; have _t := tok1; refine (bits_impl _ _ _ _ _).mono ?_; rintro r u3 ⟨rfl, hb3⟩; clear tok1 _t; have hz3 := hb3.size; simp at hz3; have P0 := (hb3.cell (p := ⟨u2.heap.size, 0, none⟩) (by simp)).trans (cells4 u2).1; have P1 := (hb3.cell (p := ⟨u2.heap.size, 1, none⟩) (by simp)).trans (cells4 u2).2.1; have P2 := (hb3.cell (p := ⟨u2.heap.size, 2, none⟩) (by simp)).trans (cells4 u2).2.2.1; have P3 := (hb3.cell (p := ⟨u2.heap.size, 3, none⟩) (by simp)).trans (cells4 u2).2.2.2) | (go_at_call 10; refine (drawBitsOf_any _ a0 zs.length cap0 zs (((A2 _).below hb3 (Nat.le_refl _)).alloc _) hsm).mono ?_; rintro r u4 ⟨k, m, e, t, rfl, hb4⟩; have hz4 := hb4.size; simp at hz4; have B0 := hb4.cell (p := ⟨u3.heap.size, 0, none⟩) (by simp); have B1 := hb4.cell (p := ⟨u3.heap.size, 1, none⟩) (by simp); simp [go_sem] at B0 B1; replace P0 := (hb4.cell (p := ⟨u2.heap.size, 0, none⟩) (by simp; omega)).trans ((((Below.refl _ _).alloc (Nat.le_refl _) _).cell (p := ⟨u2.heap.size, 0, none⟩) (by show u2.heap.size < u3.heap.size; omega)).trans P0); replace P1 := (hb4.cell (p := ⟨u2.heap.size, 1, none⟩) (by simp; omega)).trans ((((Below.refl _ _).alloc (Nat.le_refl _) _).cell (p := ⟨u2.heap.size, 1, none⟩) (by show u2.heap.size < u3.heap.size; omega)).trans P1); replace P2 := (hb4.cell (p := ⟨u2.heap.size, 2, none⟩) (by simp; omega)).trans ((((Below.refl _ _).alloc (Nat.le_refl _) _).cell (p := ⟨u2.heap.size, 2, none⟩) (by show u2.heap.size < u3.heap.size; omega)).trans P2); replace P3 := (hb4.cell (p := ⟨u2.heap.size, 3, none⟩) (by simp; omega)).trans ((((Below.refl _ _).alloc (Nat.le_refl _) _).cell (p := ⟨u2.heap.size, 3, none⟩) (by show u2.heap.size < u3.heap.size; omega)).trans P3)))
    refine (bits_impl k m e t _).mono ?_
    rintro r u5 ⟨rfl, hb5⟩
    have hz5 := hb5.size
    simp at hz5
    have Q0 := (hb5.cell (p := ⟨u4.heap.size, 0, none⟩) (by simp)).trans (cells4 u4).1
    have Q1 := (hb5.cell (p := ⟨u4.heap.size, 1, none⟩) (by simp)).trans (cells4 u4).2.1
    have Q2 := (hb5.cell (p := ⟨u4.heap.size, 2, none⟩) (by simp)).trans (cells4 u4).2.2.1
    have Q3 := (hb5.cell (p := ⟨u4.heap.size, 3, none⟩) (by simp)).trans (cells4 u4).2.2.2
    replace P0 := (hb5.cell (p := ⟨u2.heap.size, 0, none⟩) (by simp; omega)).trans ((((Below.refl _ _).alloc (Nat.le_refl _) _).cell (p := ⟨u2.heap.size, 0, none⟩) (by show u2.heap.size < u4.heap.size; omega)).trans P0)
    replace P1 := (hb5.cell (p := ⟨u2.heap.size, 1, none⟩) (by simp; omega)).trans ((((Below.refl _ _).alloc (Nat.le_refl _) _).cell (p := ⟨u2.heap.size, 1, none⟩) (by show u2.heap.size < u4.heap.size; omega)).trans P1)
    replace P2 := (hb5.cell (p := ⟨u2.heap.size, 2, none⟩) (by simp; omega)).trans ((((Below.refl _ _).alloc (Nat.le_refl _) _).cell (p := ⟨u2.heap.size, 2, none⟩) (by show u2.heap.size < u4.heap.size; omega)).trans P2)
    replace P3 := (hb5.cell (p := ⟨u2.heap.size, 3, none⟩) (by simp; omega)).trans ((((Below.refl _ _).alloc (Nat.le_refl _) _).cell (p := ⟨u2.heap.size, 3, none⟩) (by show u2.heap.size < u4.heap.size; omega)).trans P3)
    replace B0 := (hb5.cell (p := ⟨u3.heap.size, 0, none⟩) (by simp; omega)).trans ((((Below.refl _ _).alloc (Nat.le_refl _) _).cell (p := ⟨u3.heap.size, 0, none⟩) (by show u3.heap.size < u4.heap.size; omega)).trans B0)
    replace B1 := (hb5.cell (p := ⟨u3.heap.size, 1, none⟩) (by simp; omega)).trans ((((Below.refl _ _).alloc (Nat.le_refl _) _).cell (p := ⟨u3.heap.size, 1, none⟩) (by show u3.heap.size < u4.heap.size; omega)).trans B1)
    have hT := ((((((hb1.trans (hb2.mono hb1.size)).alloc (Nat.le_trans hb1.size hb2.size) _).trans (hb3.mono (by have := hb1.size; have := hb2.size; simp; omega))).alloc (by have := hb1.size; have := hb2.size; omega) _).trans (hb4.mono (by have := hb1.size; have := hb2.size; simp; omega))).alloc (by have := hb1.size; have := hb2.size; omega) _).trans (hb5.mono (by have := hb1.size; have := hb2.size; simp; omega))
    clear hb1 hb2 A1 A2
    go_wp2
    have hfx := fault_parts hx0 hx1
    have hvx := val_parts hx0 hx1
    rw [hfx] at B0
    rw [hvx] at B1
    clear hb3 hb4 hb5
    have hz2' : u2.heap.size < u5.heap.size := by omega
    have hz3' : u3.heap.size < u5.heap.size := by omega
    have hz4' : u4.heap.size < u5.heap.size := by omega
    generalize hF : faultOf k m e t = F
    generalize hJ : valOf k m e t = J
    have hW : ∀ b o, b < u5.heap.size → (u5.alloc (.cells #[.int .i64 F, .int .i64 J] 29)).cell? ⟨b, o, none⟩ = u5.cell? ⟨b, o, none⟩ := fun b o hb => ((Below.refl _ _).alloc (Nat.le_refl _) _).cell (p := ⟨b, o, none⟩) hb
    have Y0 : (u5.alloc (.cells #[.int .i64 F, .int .i64 J] 29)).cell? ⟨u5.heap.size, 0, none⟩ = some (.int .i64 F) := by simp [go_sem]
    have Y1 : (u5.alloc (.cells #[.int .i64 F, .int .i64 J] 29)).cell? ⟨u5.heap.size, 1, none⟩ = some (.int .i64 J) := by simp [go_sem]
    replace Q0 := (hW _ _ hz4').trans Q0
    replace Q1 := (hW _ _ hz4').trans Q1
    replace Q2 := (hW _ _ hz4').trans Q2
    replace Q3 := (hW _ _ hz4').trans Q3
    replace P0 := (hW _ _ hz2').trans P0
    replace P1 := (hW _ _ hz2').trans P1
    replace P2 := (hW _ _ hz2').trans P2
    replace P3 := (hW _ _ hz2').trans P3
    replace B0 := (hW _ _ hz3').trans B0
    replace B1 := (hW _ _ hz3').trans B1
    replace hT := hT.alloc hT.size (.cells #[.int .i64 F, .int .i64 J] 29)
    have hq8 : u4.heap.size < (u5.alloc (.cells #[.int .i64 F, .int .i64 J] 29)).heap.size := by simp; omega
    have hy8 : u5.heap.size < (u5.alloc (.cells #[.int .i64 F, .int .i64 J] 29)).heap.size := by simp
    have hp8 : u2.heap.size < (u5.alloc (.cells #[.int .i64 F, .int .i64 J] 29)).heap.size := by simp; omega
    have hs8 : u3.heap.size < (u5.alloc (.cells #[.int .i64 F, .int .i64 J] 29)).heap.size := by simp; omega
    clear hW
    generalize u5.alloc (.cells #[.int .i64 F, .int .i64 J] 29) = W8 at *
    generalize u4.heap.size = q at *
    generalize u5.heap.size = y at *
    generalize u2.heap.size = p at *
    generalize u3.heap.size = b at *
    have hfl := fld_int
    have hfc := fld_code
    have hne8 : Nonempty (KeptW W8) := ⟨⟨W8, Below.refl _ _⟩⟩
    have hR8 : Below W8.heap.size W8 W8 := Below.refl _ _
    have q0 := KeptW.cell Q0 hq8
    have q1 := KeptW.cell Q1 hq8
    have q2 := KeptW.cell Q2 hq8
    have q3 := KeptW.cell Q3 hq8
    have y0 := KeptW.cell Y0 hy8
    have y1 := KeptW.cell Y1 hy8
    clear Q0 Q1 Q2 Q3 Y0 Y1
    have hFc := fault_cases k m e t
    rw [hF] at hFc
    have hcb := canon_bd hx0 hx1
    have hcc := canon_canon x
    have hsc := same_self_canon hx0 hx1
    have hcx : (kd x == 3) = true ∨ (kd x == 3) = false ∧ (canon x == x) = true := by
      by_cases c : 9218868437227405312 < sz x
      · left; unfold kd; rw [if_pos c]; rfl
      · right
        refine ⟨?_, by rw [canon_num c]; simp⟩
        have := kd_bd x
        unfold kd; rw [if_neg c]
        split
        · rfl
        · split <;> rfl
    rcases hFc with rfl | rfl | rfl
    · have hJ2 : joinOf k m e t = J := by rw [← hJ]; unfold valOf; rw [if_pos hF]
      obtain ⟨j0, j1, j2, j3⟩ := parts_join hF
      have jb := join_bd hF
      rw [hJ2] at j0 j1 j2 j3 jb
      clear hJ2
      refine wp_region_kept (by kernel_rfl) (by kernel_rfl) ?_
      repeat (go_big_quiet_step ((first | (go_at_call 11; exact KeptW.calls (bits_spec k m e t _)) | (go_at_call 8; exact KeptW.calls (parts_impl J _ jb.1 jb.2)) | (go_at_call 12; exact KeptW.calls (fault_impl k m e t _)) | (go_at_call 13; exact KeptW.calls (fault_spec k m e t _)))))
      refine wpQuiet_nil ?_
      rintro _ ⟨d, rfl⟩
      clear q0 q1 q2 q3 y0 y1
      have hT9 := d.ofBelow hT hT.size
      have p0 := KeptW.cell P0 hp8 d
      have p1 := KeptW.cell P1 hp8 d
      have p2 := KeptW.cell P2 hp8 d
      have p3 := KeptW.cell P3 hp8 d
      have b0 := KeptW.cell B0 hs8 d
      have b1 := KeptW.cell B1 hs8 d
      have hz9 := d.hb.size
      have hp9 : p < d.wd.heap.size := by omega
      have hs9 : b < d.wd.heap.size := by omega
      clear P0 P1 P2 P3 B0 B1 hT hq8 hy8 hp8 hs8 hne8
      go_wp2_with (go_at_call 14; refine (canon_impl _ _ hx0 hx1).mono ?_; rintro r u9 ⟨rfl, hb9⟩)
      have hz10 := hb9.size
      have hp10 : p < u9.heap.size := by omega
      have hs10 : b < u9.heap.size := by omega
      replace hT9 := hT9.trans (hb9.mono hT9.size)
      replace p0 := KeptW.cell ((hb9.cell (p := ⟨p, 0, none⟩) hp9).trans p0) hp10
      replace p1 := KeptW.cell ((hb9.cell (p := ⟨p, 1, none⟩) hp9).trans p1) hp10
      replace p2 := KeptW.cell ((hb9.cell (p := ⟨p, 2, none⟩) hp9).trans p2) hp10
      replace p3 := KeptW.cell ((hb9.cell (p := ⟨p, 3, none⟩) hp9).trans p3) hp10
      replace b0 := KeptW.cell ((hb9.cell (p := ⟨b, 0, none⟩) hs9).trans b0) hs10
      replace b1 := KeptW.cell ((hb9.cell (p := ⟨b, 1, none⟩) hs9).trans b1) hs10
      have hne10 : Nonempty (KeptW u9) := ⟨⟨u9, Below.refl _ _⟩⟩
      clear hb9 hz9 hz10
      rcases hcx with hcx | ⟨hcx, hcy⟩
      all_goals
        refine wp_region_kept (by kernel_rfl) (by kernel_rfl) ?_
        repeat (go_big_quiet_step ((first | (go_at_call 15; exact KeptW.calls (parts_spec' x _ hx0 hx1)) | (go_at_call 12; exact KeptW.calls (fault_impl _ _ _ _ _)) | (go_at_call 14; exact KeptW.calls (canon_impl (canon x) _ hcb.1 hcb.2)) | (go_at_call 16; exact KeptW.calls (same_impl x (canon x) _ hx0 hx1 hcb.1 hcb.2)))))
        refine wpQuiet_nil ?_
        rintro _ ⟨d2, rfl⟩
        go_wp2
        go_ret
        exact ⟨rfl, d2.ofBelow hT9 hT9.size⟩
    · refine wp_region_kept (by kernel_rfl) (by kernel_rfl) ?_
      repeat (go_big_quiet_step ((first | (go_at_call 11; exact KeptW.calls (bits_spec k m e t _)) | (go_at_call 12; exact KeptW.calls (fault_impl k m e t _)) | (go_at_call 13; exact KeptW.calls (fault_spec k m e t _)))))
      refine wpQuiet_nil ?_
      rintro _ ⟨d, rfl⟩
      clear q0 q1 q2 q3 y0 y1
      have hT9 := d.ofBelow hT hT.size
      have p0 := KeptW.cell P0 hp8 d
      have p1 := KeptW.cell P1 hp8 d
      have p2 := KeptW.cell P2 hp8 d
      have p3 := KeptW.cell P3 hp8 d
      have b0 := KeptW.cell B0 hs8 d
      have b1 := KeptW.cell B1 hs8 d
      have hz9 := d.hb.size
      have hp9 : p < d.wd.heap.size := by omega
      have hs9 : b < d.wd.heap.size := by omega
      clear P0 P1 P2 P3 B0 B1 hT hq8 hy8 hp8 hs8 hne8
      go_wp2_with (go_at_call 14; refine (canon_impl _ _ hx0 hx1).mono ?_; rintro r u9 ⟨rfl, hb9⟩)
      have hz10 := hb9.size
      have hp10 : p < u9.heap.size := by omega
      have hs10 : b < u9.heap.size := by omega
      replace hT9 := hT9.trans (hb9.mono hT9.size)
      replace p0 := KeptW.cell ((hb9.cell (p := ⟨p, 0, none⟩) hp9).trans p0) hp10
      replace p1 := KeptW.cell ((hb9.cell (p := ⟨p, 1, none⟩) hp9).trans p1) hp10
      replace p2 := KeptW.cell ((hb9.cell (p := ⟨p, 2, none⟩) hp9).trans p2) hp10
      replace p3 := KeptW.cell ((hb9.cell (p := ⟨p, 3, none⟩) hp9).trans p3) hp10
      replace b0 := KeptW.cell ((hb9.cell (p := ⟨b, 0, none⟩) hs9).trans b0) hs10
      replace b1 := KeptW.cell ((hb9.cell (p := ⟨b, 1, none⟩) hs9).trans b1) hs10
      have hne10 : Nonempty (KeptW u9) := ⟨⟨u9, Below.refl _ _⟩⟩
      clear hb9 hz9 hz10
      rcases hcx with hcx | ⟨hcx, hcy⟩
      all_goals
        refine wp_region_kept (by kernel_rfl) (by kernel_rfl) ?_
        repeat (go_big_quiet_step ((first | (go_at_call 15; exact KeptW.calls (parts_spec' x _ hx0 hx1)) | (go_at_call 12; exact KeptW.calls (fault_impl _ _ _ _ _)) | (go_at_call 14; exact KeptW.calls (canon_impl (canon x) _ hcb.1 hcb.2)) | (go_at_call 16; exact KeptW.calls (same_impl x (canon x) _ hx0 hx1 hcb.1 hcb.2)))))
        refine wpQuiet_nil ?_
        rintro _ ⟨d2, rfl⟩
        go_wp2
        go_ret
        exact ⟨rfl, d2.ofBelow hT9 hT9.size⟩
    · refine wp_region_kept (by kernel_rfl) (by kernel_rfl) ?_
      repeat (go_big_quiet_step ((first | (go_at_call 11; exact KeptW.calls (bits_spec k m e t _)) | (go_at_call 12; exact KeptW.calls (fault_impl k m e t _)) | (go_at_call 13; exact KeptW.calls (fault_spec k m e t _)))))
      refine wpQuiet_nil ?_
      rintro _ ⟨d, rfl⟩
      clear q0 q1 q2 q3 y0 y1
      have hT9 := d.ofBelow hT hT.size
      have p0 := KeptW.cell P0 hp8 d
      have p1 := KeptW.cell P1 hp8 d
      have p2 := KeptW.cell P2 hp8 d
      have p3 := KeptW.cell P3 hp8 d
      have b0 := KeptW.cell B0 hs8 d
      have b1 := KeptW.cell B1 hs8 d
      have hz9 := d.hb.size
      have hp9 : p < d.wd.heap.size := by omega
      have hs9 : b < d.wd.heap.size := by omega
      clear P0 P1 P2 P3 B0 B1 hT hq8 hy8 hp8 hs8 hne8
      go_wp2_with (go_at_call 14; refine (canon_impl _ _ hx0 hx1).mono ?_; rintro r u9 ⟨rfl, hb9⟩)
      have hz10 := hb9.size
      have hp10 : p < u9.heap.size := by omega
      have hs10 : b < u9.heap.size := by omega
      replace hT9 := hT9.trans (hb9.mono hT9.size)
      replace p0 := KeptW.cell ((hb9.cell (p := ⟨p, 0, none⟩) hp9).trans p0) hp10
      replace p1 := KeptW.cell ((hb9.cell (p := ⟨p, 1, none⟩) hp9).trans p1) hp10
      replace p2 := KeptW.cell ((hb9.cell (p := ⟨p, 2, none⟩) hp9).trans p2) hp10
      replace p3 := KeptW.cell ((hb9.cell (p := ⟨p, 3, none⟩) hp9).trans p3) hp10
      replace b0 := KeptW.cell ((hb9.cell (p := ⟨b, 0, none⟩) hs9).trans b0) hs10
      replace b1 := KeptW.cell ((hb9.cell (p := ⟨b, 1, none⟩) hs9).trans b1) hs10
      have hne10 : Nonempty (KeptW u9) := ⟨⟨u9, Below.refl _ _⟩⟩
      clear hb9 hz9 hz10
      rcases hcx with hcx | ⟨hcx, hcy⟩
      all_goals
        refine wp_region_kept (by kernel_rfl) (by kernel_rfl) ?_
        repeat (go_big_quiet_step ((first | (go_at_call 15; exact KeptW.calls (parts_spec' x _ hx0 hx1)) | (go_at_call 12; exact KeptW.calls (fault_impl _ _ _ _ _)) | (go_at_call 14; exact KeptW.calls (canon_impl (canon x) _ hcb.1 hcb.2)) | (go_at_call 16; exact KeptW.calls (same_impl x (canon x) _ hx0 hx1 hcb.1 hcb.2)))))
        refine wpQuiet_nil ?_
        rintro _ ⟨d2, rfl⟩
        go_wp2
        go_ret
        exact ⟨rfl, d2.ofBelow hT9 hT9.size⟩

set_option maxRecDepth 100000 in
theorem fnMeasures_lifted (os : Os) (started : os.Started) (H : Type) (enc : TypeId × Value → H) :
    ReturnsInHanded {} Try.checked os 3 .any (Rows.fnMeasuresSpec.pre6 enc Try.prog Try.f3 Rows.fnMeasuresRow.domain false) (Rows.fnMeasuresSpec.post enc Try.prog Try.f3 false true false false) := by
  refine returnsInHanded_of_change (C := Try.checked) own started (by kernel_rfl) Try.func3
    (ChangeSpec.witness6 (enc := enc) (C := Try.checked) false ⟨#[], #[.slice none 0 0], []⟩ 8 (by kernel_rfl) (by kernel_rfl) (by kernel_rfl) (by kernel_rfl)) ?_
  intro W base args ds gs before hval0 hW hcnd _
  have hval : ∀ (j : Nat) t v, Try.f3.params[j]? = some t → args[j]? = some v → Value.okWide Try.prog W .any base t v := hval0
  have hW' := hW
  obtain ⟨p, q, hA0, hV, rfl, hfz, hnd⟩ := hW
  have hA : DataW.TrodAll enc Try.prog W 0 (fun _ => true) true Try.f3.params.toList args.toList ds p := hA0
  rw [Try.params3] at hA hval
  obtain ⟨v0, vs0, d0, ds0, p0, q0, hargs, rfl, rfl, h0, r0⟩ := trodAll_cons hA
  obtain ⟨rfl, rfl, rfl⟩ := trodAll_nil r0
  obtain rfl : args = #[v0] := by cases args; simp_all
  obtain ⟨rfl, rfl⟩ := trodVars_none hV
  have g0 := h0
  have lt0 : ∀ x ∈ p0, x.block < W.heap.size := by obtain ⟨m, hm⟩ := g0; exact DataW.trod_lt m _ _ _ hm
  obtain ⟨a0, len0, cap0, rfl⟩ := okWide_slice Try.underlying22 (hval 0 22 v0 rfl rfl)
  obtain ⟨z0, w0⟩ : ∃ zs, IsRow .u8 W a0 len0 cap0 zs := by
    obtain ⟨fuel, hf⟩ := h0
    rcases open_ints Try.underlying22 Try.underlying5 (by kernel_rfl) hf with ⟨hcs, _⟩ | ⟨x, l, c, zs, hcs, _, hl, hm, hz, _, hcell, hwz⟩
    · simp [Value.cells] at hcs
      obtain ⟨rfl, rfl, rfl⟩ := hcs
      exact ⟨[], .inl ⟨rfl, rfl, rfl, rfl⟩⟩
    · simp [Value.cells] at hcs
      obtain ⟨rfl, rfl, rfl⟩ := hcs
      exact ⟨zs, .inr ⟨_, rfl, hl, hm, by simpa using hz, hcell, hwz⟩⟩
  clear hA0 hval0
  refine (fnMeasures_walk W a0 len0 cap0 z0 w0).mono fun e W' ⟨he, bel⟩ => ?_
  subst he
  exact ⟨_, rfl, _, _, _, [], _, [], hW', trodAll_mk1 (shut_bool Try.underlying4 _), (trodAll_cons_mk (Below.trod laidOut (by kernel_rfl) (of_decide_eq_true (by kernel_rfl)) g0 bel lt0) trodAll_mk0), rfl, bel.frame _, fun h => by cases h⟩

theorem fnMeasures_holds : Rows.FnMeasuresSaid :=
  OpenClaim.holds_of_wide 3 Try.f3 rfl rfl rfl rfl rfl rfl rfl ⟨rfl, rfl, rfl, rfl, rfl⟩ rfl rfl rfl rfl rfl (by kernel_rfl) Try.func3 (by kernel_rfl)
    (of_decide_eq_true (by kernel_rfl)) (by unfold Func.isWrapper; first | (rw [if_pos (by decide +kernel)]; kernel_rfl) | (rw [if_neg (by decide +kernel)]; exact ⟨rfl, rfl⟩))
    (fun os started H enc _ => fnMeasures_lifted os started H enc)
#print axioms fnMeasures_holds
end Go.Proofs.Ytinjppnnggeebaa
