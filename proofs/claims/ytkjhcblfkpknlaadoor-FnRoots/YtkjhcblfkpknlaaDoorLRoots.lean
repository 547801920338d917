/- At every code the law on roots holds: a root is that of both its parts; the table that begins pieces starts as the program's text lays it. -/
import Derived.Test.YtkjhcblfkpknlaaDoorIRootP
import Derived.Test.YtkjhcblfkpknlaaDoorPath4S
import Derived.Test.YtkjhcblfkpknlaaDoorDraw4
import Derived.Test.YtkjhcblfkpknlaaDoorBig
import Derived.Test.YtkjhcblfkpknlaaDoorISums
import Derived.Test.YtkjhcblfkpknlaaDoorRootsP
import Derived.Deep.DeepCutAuto
import Derived.Deep.RegionWith
import Derived.Test.YtkjhcblfkpknlaaDoorDoor
namespace Go.Proofs.YtkjhcblfkpknlaaDoor
open Go.ChangeShapes Go.WideShapes Go.ChangeAt Go.RowKit
set_option linter.unusedVariables false
set_option linter.unusedSimpArgs false

set_option maxRecDepth 100000 in
set_option maxHeartbeats 16000000 in
theorem fnRoots_walk (w : World) (hT : Tab w) (a0 : Option Addr) (len0 cap0 : Nat) (z0 : List Int) (w0 : IsRow .u8 w a0 len0 cap0 z0) :
    Calls Tryd.prog 4 #[.slice a0 len0 cap0] w fun e w' => e = .returned (.bool true) ∧ Below w.heap.size w w' := by
  have A0 := Has.of_row w0
  have hlen := A0.1
  generalize z0.take len0 = zs at A0 hlen
  subst hlen
  clear w0
  by_cases hbig : 1048576 < zs.length
  · go_enter Tryd.func4, Tryd.ntmps4
    go_wp2_with fail
    refine (lwBig_yes _ a0 _ cap0 hbig).mono ?_
    rintro r u ⟨rfl, rfl⟩
    go_wp2
    go_ret
    exact ⟨rfl, Below.refl _ _⟩
  · have hsm : zs.length ≤ 1048576 := by omega
    have FA : Hid (∀ wx : World, Below w.heap.size w wx → Has wx .u8 a0 zs.length zs ∧ Tab wx) := fun wx h => ⟨A0.below h (Nat.le_refl _), hT.below h (Nat.le_refl _)⟩
    clear hT
    go_enter Tryd.func4, Tryd.ntmps4
    go_wp2_with fail
    refine (lwBig_no _ a0 _ cap0 hsm).mono ?_
    rintro r u ⟨rfl, hu⟩
    have hu2 := hu.symm
    subst hu2
    clear hu
    go_wp2_with fail
    refine (drawRootOf_any _ a0 _ cap0 zs A0 hsm).mono ?_
    rintro e u1 ⟨a1, c1, ys, rfl, yl, yc, ym, Y1, hb1⟩
    have z1 := hb1.size
    go_wp2_with fail
    refine (implRootOf_any a1 c1 ys _ (FA.out _ hb1).2 Y1 (by omega) yc ym).mono ?_
    rintro r u2 ⟨rfl, hb2⟩
    have z2 := hb2.size
    have B2 := hb1.trans (hb2.mono hb1.size)
    have Y2 := (Y1.below hb2 (Nat.le_refl _)).alloc (.cells #[.int .i64 (lvF ys), .int .i64 (rtV ys)] 33)
    have B2' := B2.alloc B2.size (.cells #[.int .i64 (lvF ys), .int .i64 (rtV ys)] 33)
    clear hb1 hb2 Y1 B2
    go_wp2_with fail
    refine (drawSplitOf_any _ a0 _ cap0 zs (FA.out _ B2').1 hsm).mono ?_
    rintro e u3 ⟨n, rfl, n0, n1, hb3⟩
    have z3 := hb3.size
    simp at z3
    have P3 := (Blk.new u2 #[.int .i64 (lvF ys), .int .i64 (rtV ys)] 33).below hb3 (by simp)
    have Y3 := Y2.below hb3 (Nat.le_refl _)
    have B3 := B2'.trans (hb3.mono B2'.size)
    clear hb3 Y2 B2'
    have SI : Hid (∀ u : World, Calls Tryd.prog 29 #[.int .i64 n] u fun r w' => r = .returned (.agg #[.int .i64 (if 2 ≤ n ∧ n ≤ 24 then (0 : Int) else 3), .int .i64 (if 2 ≤ n ∧ n ≤ 24 then splN n else (0 : Int))]) ∧ Below u.heap.size u w') := fun u => implSplit_any n u
    have SS : Hid (∀ u : World, Calls Tryd.prog 30 #[.int .i64 n] u fun r w' => r = .returned (.agg #[.int .i64 (if 2 ≤ n ∧ n ≤ 24 then (0 : Int) else 3), .int .i64 (if 2 ≤ n ∧ n ≤ 24 then splN n else (0 : Int))]) ∧ Below u.heap.size u w') := fun u => specSplit_any n u
    generalize hsc : (if 2 ≤ n ∧ n ≤ 24 then (0 : Int) else 3) = sc at SI SS
    generalize hsv : (if 2 ≤ n ∧ n ≤ 24 then splN n else (0 : Int)) = sv at SI SS
    have HSC : Hid ((if 2 ≤ n ∧ n ≤ 24 then (0 : Int) else 3) = (sc : Int)) := hsc
    have HSV : Hid ((if 2 ≤ n ∧ n ≤ 24 then splN n else (0 : Int)) = (sv : Int)) := hsv
    clear hsc hsv
    go_wp2_with fail
    refine (SI.out _).mono ?_
    rintro r u4 ⟨rfl, hb4⟩
    have z4 := hb4.size
    have P4 := P3.below hb4 P3.lt
    have Y4 := Y3.below hb4 (Nat.le_refl _)
    have B4 := B3.trans (hb4.mono B3.size)
    clear hb4 Y3 B3 P3
    generalize u2.heap.size = p at P4 ⊢
    obtain ⟨Z, hZ⟩ : ∃ Z, Z = u4.alloc (.cells #[.int .i64 sc, .int .i64 sv] 33) := ⟨_, rfl⟩
    have hZb : Below u4.heap.size u4 Z := by rw [hZ]; exact (Below.refl _ _).alloc (Nat.le_refl _) _
    have PZ := P4.below hZb P4.lt
    have QZ : Blk Z u4.heap.size #[.int .i64 sc, .int .i64 sv] 33 := by rw [hZ]; exact Blk.new _ _ _
    have YZ := Y4.below hZb (Nat.le_refl _)
    have BZ := B4.trans (hZb.mono B4.size)
    have hBZ := BZ.size
    have q1 : u4.heap.size < Z.heap.size := QZ.lt
    have p1 : p < Z.heap.size := PZ.lt
    have hf1 := fldR1
    have hf0 := fldR0
    go_wp2_with fail
    rw [← hZ]
    generalize u4.heap.size = q at *
    clear hZ hZb SI P4 Y4 B4 z1 z2 z3 z4
    go_cut [49] (fun s49 wx => s49 = .bool false ∧ Below Z.heap.size Z wx)
    case first =>
      have hne : Nonempty (KeptW Z) := ⟨⟨Z, Below.refl _ _⟩⟩
      by_cases hin : 2 ≤ n ∧ n ≤ 24
      · have e0 : sc = 0 := by rw [← HSC.out, if_pos hin]
        have e1 : sv = splN n := by rw [← HSV.out, if_pos hin]
        subst e0 e1
        clear HSC HSV
        obtain ⟨k1, k2, k3⟩ := splN_bd hin.1 (by omega)
        generalize splN n = k at *
        have kb : k ≤ 24 := by omega
        have hd1 : decide (n ≤ k) = false := by simp; omega
        have hd2 : decide (2 * k < n) = false := by simp; omega
        have hkk : (k != k) = false := by simp
        have K0 := KeptW.cell (v := .int .i64 0) (by have := QZ.cell 0; simpa using this) q1
        have K1 := KeptW.cell (v := .int .i64 k) (by have := QZ.cell 1; simpa using this) q1
        clear hin PZ QZ YZ BZ
        refine wp_region_kept (by kernel_rfl) (by kernel_rfl) ?_
        iterate 32 (go_big_quiet_step ((go_at_call 30; exact KeptW.calls (SS.out _))))
        refine wpQuiet_nil ?_
        rintro _ ⟨d1, rfl⟩
        go_wp2_with fail
        go_meet
        exact ⟨rfl, d1.hb⟩
      · have e0 : sc = 3 := by rw [← HSC.out, if_neg hin]
        have e1 : sv = 0 := by rw [← HSV.out, if_neg hin]
        subst e0 e1
        clear HSC HSV
        have K0 := KeptW.cell (v := .int .i64 3) (by have := QZ.cell 0; simpa using this) q1
        clear hin PZ QZ YZ BZ
        refine wp_region_kept (by kernel_rfl) (by kernel_rfl) ?_
        iterate 32 (go_big_quiet_step ((go_at_call 30; exact KeptW.calls (SS.out _))))
        refine wpQuiet_nil ?_
        rintro _ ⟨d1, rfl⟩
        go_wp2_with fail
        go_meet
        exact ⟨rfl, d1.hb⟩
    case rest =>
      obtain ⟨rfl, hcb⟩ := hcut
      generalize wc = X at *
      have zc := hcb.size
      have PX := PZ.below hcb p1
      have YX := YZ.below hcb (Nat.le_refl _)
      have BX := BZ.trans (hcb.mono hBZ)
      have TX := (FA.out _ BX).2
      have px : p < X.heap.size := PX.lt
      have FIN : Hid (∀ wx : World, Below X.heap.size X wx → Below w.heap.size w wx) := fun wx h => BX.trans (h.mono BX.size)
      have r0 := PX.cell 0
      have r1 := PX.cell 1
      simp at r0 r1
      have SR : Hid (∀ wx : World, Below X.heap.size X wx → Calls Tryd.prog 31 #[.slice a1 ys.length c1] wx fun r w' => r = .returned (.agg #[.int .i64 (lvF ys), .int .i64 (rtV ys)]) ∧ Below wx.heap.size wx w') := fun wx h => specRootOf_any a1 c1 ys wx (YX.below h (Nat.le_refl _)) (by omega) yc ym
      clear PZ QZ YZ BZ SS HSC HSV hcb A0
      by_cases hlv : lvF ys = 0
      · obtain ⟨h24, hall⟩ := lvF_zero hlv
        have HLV : Hid (lvF ys = 0) := hlv
        have hvv : (rtV ys == rtV ys) = true := by simp
        by_cases h2 : 2 ≤ ys.length
        · obtain ⟨k1, k2, k3⟩ := splN_bd (n := (ys.length : Int)) (by omega) (by omega)
          obtain ⟨m, hm1⟩ : ∃ m : Nat, splN (ys.length : Int) = m := ⟨(splN (ys.length : Int)).toNat, by omega⟩
          have NV : Hid (nodeV (rtV (ys.take m)) (rtV (ys.drop m)) = rtV ys) := rtV_parts hlv h2 m hm1
          obtain ⟨b1, o1, hx, _, _⟩ : ∃ b off, a1 = some ⟨b, off, none⟩ ∧ b < X.heap.size ∧ ∀ i, i < ys.length → X.cell? ⟨b, off + i, none⟩ = some (.int .i64 (ys.getD i 0)) := by
            rcases YX.2.2 with c | h
            · omega
            · exact h
          subst hx
          have tl : (ys.take m).length = m := by simp; omega
          have dl : (ys.drop m).length = ys.length - m := by simp
          have hi := has_init YX m (by omega)
          have hr := has_rest YX m (by omega)
          have R1 : Hid (∀ wx : World, Below X.heap.size X wx → Calls Tryd.prog 25 #[.slice (some ⟨b1, o1, none⟩) m c1] wx fun r w' => r = .returned (.agg #[.int .i64 (lvF (ys.take m)), .int .i64 (rtV (ys.take m))]) ∧ Below wx.heap.size wx w') := by
            intro wx h
            have := implRootOf_any (some ⟨b1, o1, none⟩) c1 (ys.take m) wx (TX.below h (Nat.le_refl _)) (hi.below h (Nat.le_refl _)) (by omega) (by omega) ym
            rw [tl] at this
            exact this
          have R2 : Hid (∀ wx : World, Below X.heap.size X wx → Calls Tryd.prog 25 #[.slice (some ⟨b1, o1 + m, none⟩) (ys.length - m) (c1 - m)] wx fun r w' => r = .returned (.agg #[.int .i64 (lvF (ys.drop m)), .int .i64 (rtV (ys.drop m))]) ∧ Below wx.heap.size wx w') := by
            intro wx h
            have := implRootOf_any (some ⟨b1, o1 + m, none⟩) (c1 - m) (ys.drop m) wx (TX.below h (Nat.le_refl _)) (hr.below h (Nat.le_refl _)) (by omega) (by omega) (by omega)
            rw [dl] at this
            exact this
          have SP : Hid (∀ u : World, Calls Tryd.prog 29 #[.int .i64 ys.length] u fun r w' => r = .returned (.agg #[.int .i64 0, .int .i64 m]) ∧ Below u.heap.size u w') := by
            intro u
            have := implSplit_any (ys.length : Int) u
            rw [if_pos (by omega), if_pos (by omega), hm1] at this
            exact this
          have NS : Hid (∀ wx : World, Below X.heap.size X wx → Calls Tryd.prog 33 #[.int .i64 (rtV (ys.take m)), .int .i64 (rtV (ys.drop m))] wx fun r w' => r = .returned (.agg #[.int .i64 (nodeC (rtV (ys.take m)) (rtV (ys.drop m))), .int .i64 (rtV ys)]) ∧ Below wx.heap.size wx w') := by
            intro wx h
            have := implNodeSum_any (rtV (ys.take m)) (rtV (ys.drop m)) wx (TX.below h (Nat.le_refl _))
            rw [NV.out] at this
            exact this
          rw [hlv] at r0 SR
          generalize nodeC (rtV (ys.take m)) (rtV (ys.drop m)) = ncd at *
          generalize rtV (ys.take m) = v1 at *
          generalize rtV (ys.drop m) = v2 at *
          generalize lvF (ys.take m) = l1 at *
          generalize lvF (ys.drop m) = l2 at *
          generalize rtV ys = V at *
          have m1 : (1 : Int) ≤ m := by omega
          have m2 : (m : Int) < ys.length := by omega
          have m3 : (ys.length : Int) ≤ c1 := by omega
          have m4 : ¬ (c1 : Int) = m := by omega
          have m8 : ¬ c1 = m := by omega
          have m6 : (m : Int) ≤ c1 := by omega
          have hd1 : decide ((m : Int) < 1) = false := by simp; omega
          have hd2 : decide ((ys.length : Int) ≤ m) = false := by simp; omega
          have h2' : ¬ (ys.length : Int) < 2 := by omega
          clear hi hr tl dl hm1 k1 k2 k3 NV HLV hlv hall FA TX BX YX PX h2
          go_wp2_with fail
          refine (SP.out _).mono ?_
          rintro r u5 ⟨rfl, hb5⟩
          have z5 := hb5.size
          have r0' := (hb5.cell (p := ⟨p, 0, none⟩) px).trans r0
          have r1' := (hb5.cell (p := ⟨p, 1, none⟩) px).trans r1
          have px5 : p < u5.heap.size := by omega
          have hne : Nonempty (KeptW u5) := ⟨⟨u5, Below.refl _ _⟩⟩
          have K1 := KeptW.cell r1' px5
          have KB : Hid (∀ d : KeptW u5, Below X.heap.size X d.wd) := fun d => hb5.trans (d.hb.mono z5)
          clear r0 r1
          go_wp2_with fail
          refine wp_region_kept (by kernel_rfl) (by kernel_rfl) ?_
          iterate 24 (go_big_quiet_step ((first | (go_at_call_of 25 (Value.slice (some ⟨b1, o1, none⟩) m c1); exact KeptW.calls (R1.out _ (KB.out _))) | (go_at_call_of 25 (Value.slice (some ⟨b1, o1 + m, none⟩) (ys.length - m) (c1 - m)); exact KeptW.calls (R2.out _ (KB.out _))) | (go_at_call 33; exact KeptW.calls (NS.out _ (KB.out _))) | (go_at_call 31; exact KeptW.calls (SR.out _ (KB.out _))))))
          refine wpQuiet_nil ?_
          rintro _ ⟨d, rfl⟩
          go_wp2
          go_ret
          exact ⟨rfl, FIN.out _ (KB.out d)⟩
        · rw [hlv] at r0
          have h2' : (ys.length : Int) < 2 := by omega
          have hne : Nonempty (KeptW X) := ⟨⟨X, Below.refl _ _⟩⟩
          have KB : Hid (∀ d : KeptW X, Below X.heap.size X d.wd) := fun d => d.hb
          by_cases hz : ys.length = 0
          · rw [rtV_nil hlv hz] at r1
            have K1 := KeptW.cell r1 px
            have hzb : ((ys.length : Int) == 0) = true := by simpa using hz
            have SM : Hid (∀ u : World, Calls Tryd.prog 32 #[.slice none 0 0] u fun r w' => r = .returned (.agg #[.int .i64 (sumC []), .int .i64 11]) ∧ Below u.heap.size u w') := fun u => by
              have := implSumOf_any none 0 [] u (has_none u) (by simp)
              rw [show sumV [] = 11 from by simp [sumV, sumL]] at this
              exact this
            generalize sumC [] = sc0 at *
            have HZ : Hid (ys.length = 0) := hz
            clear hz hlv hall TX BX YX PX FA HLV hvv SR h2
            go_wp2_with fail
            refine wp_region_kept (by kernel_rfl) (by kernel_rfl) ?_
            iterate 24 (go_big_quiet_step ((go_at_call 32; exact KeptW.calls (SM.out _))))
            refine wpQuiet_nil ?_
            rintro _ ⟨d, rfl⟩
            go_wp2
            go_ret
            exact ⟨rfl, FIN.out _ (KB.out d)⟩
          · have ho : ys.length = 1 := by omega
            rw [rtV_one hlv ho] at r1
            have K1 := KeptW.cell r1 px
            obtain ⟨b1, o1, hx, hbl, hcell⟩ : ∃ b off, a1 = some ⟨b, off, none⟩ ∧ b < X.heap.size ∧ ∀ i, i < ys.length → X.cell? ⟨b, off + i, none⟩ = some (.int .i64 (ys.getD i 0)) := by
              rcases YX.2.2 with c | h
              · omega
              · exact h
            subst hx
            have e1 := hcell 0 (by omega)
            rw [Nat.add_zero] at e1
            generalize ys.getD 0 0 = y at *
            have K2 := KeptW.cell e1 hbl
            have hyy : (y == y) = true := by simp
            have hzb : ((ys.length : Int) == 0) = false := by simp only [beq_eq_false_iff_ne, ne_eq]; omega
            have hob : ((ys.length : Int) == 1) = true := by simp only [beq_iff_eq]; omega
            have hol : (0 : Int) < (ys.length : Int) := by omega
            have HO : Hid (ys.length = 1) := ho
            clear ho hz hlv hall TX BX YX PX FA HLV hvv SR h2 hcell e1
            go_wp2_with fail
            refine wp_region_kept (by kernel_rfl) (by kernel_rfl) ?_
            iterate 24 (go_big_quiet_step (fail))
            refine wpQuiet_nil ?_
            rintro _ ⟨d, rfl⟩
            go_wp2
            go_ret
            exact ⟨rfl, FIN.out _ (KB.out d)⟩
      · have hlv' : (lvF ys != 0) = true := by simpa using hlv
        have hcc : (lvF ys == lvF ys) = true := by simp
        have hne : Nonempty (KeptW X) := ⟨⟨X, Below.refl _ _⟩⟩
        have K0 := KeptW.cell r0 px
        have KB : Hid (∀ d : KeptW X, Below X.heap.size X d.wd) := fun d => d.hb
        generalize lvF ys = cd at *
        generalize rtV ys = V at *
        clear hlv TX BX YX PX FA
        go_wp2_with fail
        refine wp_region_kept (by kernel_rfl) (by kernel_rfl) ?_
        iterate 7 (go_big_quiet_step ((go_at_call 31; exact KeptW.calls (SR.out _ (KB.out _)))))
        refine wpQuiet_nil ?_
        rintro _ ⟨d, rfl⟩
        go_wp2
        go_ret
        exact ⟨rfl, FIN.out _ (KB.out d)⟩

set_option maxRecDepth 100000 in
theorem fnRoots_lifted (os : Os) (started : os.Started) (H : Type) (enc : TypeId × Value → H) :
    ReturnsInHanded {} Tryd.checked os 4 .any (fun w args => (Rows.fnRootsSpec.pre enc Tryd.prog Tryd.f4 [] false w args ∧ laidMetH Tryd.prog [("loop.example/g00565/impl.pieceStarts", Rows.laid_loop_example_g00565_impl_pieceStarts)] w) ∧ sizedMet enc Tryd.prog Tryd.f4 (OpenSpec.ofChange Rows.fnRootsSpec) false w args) (Rows.fnRootsSpec.post enc Tryd.prog Tryd.f4 false true false false) := by
  refine returnsInHanded_of_change_and (C := Tryd.checked) (X := fun w _ => laidMetH Tryd.prog [("loop.example/g00565/impl.pieceStarts", Rows.laid_loop_example_g00565_impl_pieceStarts)] w) (fun _ _ _ hh h => h.of_heap hh) own started (by kernel_rfl) Tryd.func4
    (ChangeSpec.witness_shaped (enc := enc) (C := Tryd.checked) (os := os) (X := fun w _ => laidMetH Tryd.prog [("loop.example/g00565/impl.pieceStarts", Rows.laid_loop_example_g00565_impl_pieceStarts)] w) false (World.doorLaid Tryd.prog 400 os) #[.slice none 0 0] 8 rfl (World.shaped_of_RefB (by kernel_rfl) (by kernel_rfl)) (by kernel_rfl) (by kernel_rfl) (by kernel_rfl) (door_met os _)) ?_
  intro W base args ds gs before hval0 hW _ _ hL _
  have hval : ∀ (j : Nat) t v, Tryd.f4.params[j]? = some t → args[j]? = some v → Value.okWide Tryd.prog W .any base t v := hval0
  have hW' := hW
  obtain ⟨p, q, hA0, hV, rfl, hfz, hnd⟩ := hW
  have hA : DataW.TrodAll enc Tryd.prog W 0 (fun _ => true) true Tryd.f4.params.toList args.toList ds p := hA0
  rw [Tryd.params4] at hA hval
  obtain ⟨v0, vs0, d0, ds0, p0, q0, hargs, rfl, rfl, h0, r0⟩ := trodAll_cons hA
  obtain ⟨rfl, rfl, rfl⟩ := trodAll_nil r0
  obtain rfl : args = #[v0] := by cases args; simp_all
  obtain ⟨g, rfl⟩ : ∃ g, gs = [g] := by obtain ⟨_, _, _, _, d, _, e, _⟩ := trodVars_one hV; exact ⟨d, e⟩
  have g0 := h0
  have lt0 : ∀ x ∈ p0, x.block < W.heap.size := by obtain ⟨m, hm⟩ := g0; exact DataW.trod_lt m _ _ _ hm
  obtain ⟨a0, len0, cap0, rfl⟩ := okWide_slice Tryd.underlying22 (hval 0 22 v0 rfl rfl)
  obtain ⟨z0, w0⟩ : ∃ zs, IsRow .u8 W a0 len0 cap0 zs := by
    obtain ⟨fuel, hf⟩ := h0
    rcases open_ints Tryd.underlying22 Tryd.underlying5 (by kernel_rfl) hf with ⟨hcs, _⟩ | ⟨x, l, c, zs, hcs, _, hl, hm, hz, _, hcell, hwz⟩
    · simp [Value.cells] at hcs
      obtain ⟨rfl, rfl, rfl⟩ := hcs
      exact ⟨[], .inl ⟨rfl, rfl, rfl, rfl⟩⟩
    · simp [Value.cells] at hcs
      obtain ⟨rfl, rfl, rfl⟩ := hcs
      exact ⟨zs, .inr ⟨_, rfl, hl, hm, by simpa using hz, hcell, hwz⟩⟩
  clear hA0 hval0
  refine (fnRoots_walk W (tab_of_laid hL) a0 len0 cap0 z0 w0).mono fun e W' ⟨he, bel⟩ => ?_
  subst he
  exact ⟨_, rfl, _, _, _, [], _, _, hW', trodAll_mk1 (shut_bool Tryd.underlying4 _), (trodAll_cons_mk (Below.trod laidOut (by kernel_rfl) (of_decide_eq_true (by kernel_rfl)) g0 bel lt0) trodAll_mk0), Below.trodVars laidOut bel (by kernel_rfl) hV, bel.frame _, fun h => by cases h⟩

theorem fnRoots_row : Rows.FnRootsSaid :=
  OpenClaim.holds_of_wide 4 Tryd.f4 rfl rfl rfl rfl rfl rfl rfl ⟨rfl, rfl, rfl, rfl, rfl⟩ rfl rfl rfl rfl rfl (by kernel_rfl) Tryd.func4 (by kernel_rfl)
    (of_decide_eq_true (by kernel_rfl)) (by unfold Func.isWrapper; first | (rw [if_pos (by decide +kernel)]; kernel_rfl) | (rw [if_neg (by decide +kernel)]; exact ⟨rfl, rfl⟩))
    (fun os started H enc _ => fnRoots_lifted os started H enc)

theorem fnRoots_holds : Rows.FnRootsCardSaid :=
  Claim7.holds_tied_plain_at .later [] [.data] true Rows.fnRootsCard.stood.harness false
    fnRoots_row (fun _ h => by cases h) (by kernel_rfl) (fun _ h => by cases h) fnRoots_row_tie rfl ⟨rfl, rfl⟩ (by kernel_rfl) rfl
    (fun f fn hf hfn => by
      obtain rfl : f = 4 := Option.some.inj ((show Tryd.prog.funcNamed "loop.example/g00565/laws.FnRoots" = some 4 by kernel_rfl).symm.trans hf) |>.symm
      obtain rfl : fn = Tryd.f4 := (Option.some.inj (Tryd.func4.symm.trans hfn)).symm
      exact ⟨by kernel_rfl, fun j t ht => by
        rw [Tryd.params4] at ht
        have h3 : t = 22 := by
          match j, ht with
          | 0, ht => simp at ht; simp [← ht]
          | _ + 1, ht => simp at ht
        rcases h3 with rfl
        all_goals exact (show Tryd.prog.wantsStandIn _ = false by kernel_rfl)⟩)
    (by kernel_rfl)
#print axioms fnRoots_holds
end Go.Proofs.YtkjhcblfkpknlaaDoor
