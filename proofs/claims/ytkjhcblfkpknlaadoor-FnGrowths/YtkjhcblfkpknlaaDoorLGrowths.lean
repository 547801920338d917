/- At every code the law on growths holds: a greater log is shown to go on from each smaller one that it had; the table that begins pieces starts as the program's text lays it. -/
import Derived.Test.YtkjhcblfkpknlaaDoorIGrwS
import Derived.Test.YtkjhcblfkpknlaaDoorIGrwP
import Derived.Test.YtkjhcblfkpknlaaDoorDraw5D
import Derived.Test.YtkjhcblfkpknlaaDoorDraw5R
import Derived.Test.YtkjhcblfkpknlaaDoorDraw5G
import Derived.Test.YtkjhcblfkpknlaaDoorBig
import Derived.Test.YtkjhcblfkpknlaaDoorPathsP
import Derived.Deep.DeepCutAuto
import Derived.Deep.RegionWith
import Derived.Test.YtkjhcblfkpknlaaDoorDoor
namespace Go.Proofs.YtkjhcblfkpknlaaDoor
open Go.ChangeShapes Go.WideShapes Go.ChangeAt Go.RowKit
set_option linter.unusedVariables false
set_option linter.unusedSimpArgs false

set_option maxRecDepth 100000 in
set_option maxHeartbeats 16000000 in
theorem fnGrowths_walk (w : World) (hT : Tab w) (a0 : Option Addr) (len0 cap0 : Nat) (z0 : List Int) (w0 : IsRow .u8 w a0 len0 cap0 z0) :
    Calls Tryd.prog 9 #[.slice a0 len0 cap0] w fun e w' => e = .returned (.bool true) ∧ Below w.heap.size w w' := by
  have A0 := Has.of_row w0
  have hlen := A0.1
  generalize z0.take len0 = zs at A0 hlen
  subst hlen
  clear w0
  by_cases hbig : 1048576 < zs.length
  · go_enter Tryd.func9, Tryd.ntmps9
    go_wp2_with fail
    refine (lwBig_yes _ a0 _ cap0 hbig).mono ?_
    rintro r u ⟨rfl, rfl⟩
    go_wp2
    go_ret
    exact ⟨rfl, Below.refl _ _⟩
  · have hsm : zs.length ≤ 1048576 := by omega
    have FA : Hid (∀ wx : World, Below w.heap.size w wx → Has wx .u8 a0 zs.length zs ∧ Tab wx) := fun wx h => ⟨A0.below h (Nat.le_refl _), hT.below h (Nat.le_refl _)⟩
    clear hT
    go_enter Tryd.func9, Tryd.ntmps9
    go_wp2_with fail
    refine (lwBig_no _ a0 _ cap0 hsm).mono ?_
    rintro r u ⟨rfl, hu⟩
    have hu2 := hu.symm
    subst hu2
    clear hu
    go_wp2_with fail
    refine (drawGrowthOf_any _ a0 _ cap0 zs A0 hsm).mono ?_
    rintro e u1 ⟨a1, c1, ys, k, rfl, yl, yc, ym, kb, Y1, hb1⟩
    have z1 := hb1.size
    go_wp2_with fail
    refine (implGrowthOf_any a1 c1 ys k _ (FA.out _ hb1).2 Y1 (by omega) yc ym).mono ?_
    rintro r u2 ⟨pa, pc, rfl, O2, hb2⟩
    have z2 := hb2.size
    have Q2 := (has_of_own O2 (gwL_wf ys k)).alloc (.cells #[.int .i64 (gwC ys k), .slice pa (gwL ys k).length pc] 28)
    have hpc := own_caps O2
    have B2 := hb1.trans (hb2.mono hb1.size)
    have Y2 := (Y1.below hb2 (Nat.le_refl _)).alloc (.cells #[.int .i64 (gwC ys k), .slice pa (gwL ys k).length pc] 28)
    have B2' := B2.alloc B2.size (.cells #[.int .i64 (gwC ys k), .slice pa (gwL ys k).length pc] 28)
    clear hb1 hb2 Y1 B2 O2
    go_wp2_with fail
    refine (drawGrowRoots_any _ a0 _ cap0 zs (FA.out _ B2').1 hsm).mono ?_
    rintro e u3 ⟨s, t, f, a3, c3, ps, rfl, pl, pc3, pm3, P3, hb3⟩
    have z3 := hb3.size
    simp at z3
    have V3 := (Blk.new u2 #[.int .i64 (gwC ys k), .slice pa (gwL ys k).length pc] 28).below hb3 (by simp)
    have Y3 := Y2.below hb3 (Nat.le_refl _)
    have Q3 := Q2.below hb3 (Nat.le_refl _)
    have B3 := B2'.trans (hb3.mono B2'.size)
    clear hb3 Y2 B2' Q2
    go_wp2_with fail
    refine (implGrowRoots_any s t f a3 c3 ps _ (FA.out _ B3).2 P3 (by omega) pc3 pm3).mono ?_
    rintro r u4 ⟨rfl, hb4⟩
    have z4 := hb4.size
    have b4a : Below u4.heap.size u4 (u4.alloc (.cells #[.int .i64 (grC s t f ps), .int .i64 (grV s t f ps).1, .int .i64 (grV s t f ps).2] 57)) := (Below.refl _ _).alloc (Nat.le_refl _) _
    have V4 := (V3.below hb4 V3.lt).below b4a (by have := V3.lt; omega)
    have Y4 := (Y3.below hb4 (Nat.le_refl _)).alloc (.cells #[.int .i64 (grC s t f ps), .int .i64 (grV s t f ps).1, .int .i64 (grV s t f ps).2] 57)
    have Q4 := (Q3.below hb4 (Nat.le_refl _)).alloc (.cells #[.int .i64 (grC s t f ps), .int .i64 (grV s t f ps).1, .int .i64 (grV s t f ps).2] 57)
    have P4 := (P3.below hb4 (Nat.le_refl _)).alloc (.cells #[.int .i64 (grC s t f ps), .int .i64 (grV s t f ps).1, .int .i64 (grV s t f ps).2] 57)
    have B4 := (B3.trans (hb4.mono B3.size)).trans (b4a.mono (B3.trans (hb4.mono B3.size)).size)
    have W4 := Blk.new u4 #[.int .i64 (grC s t f ps), .int .i64 (grV s t f ps).1, .int .i64 (grV s t f ps).2] 57
    clear hb4 Y3 B3 V3 P3 Q3 b4a
    go_wp2_with fail
    refine (drawAcceptGrowth_any _ a0 _ cap0 zs (FA.out _ B4).1 hsm).mono ?_
    rintro e u5 ⟨s', f', t', d', y, cy, qs, rfl, ql, qc, qm, G5, hb5⟩
    have z5 := hb5.size
    have V5 := V4.below hb5 V4.lt
    have Y5 := Y4.below hb5 (Nat.le_refl _)
    have Q5 := Q4.below hb5 (Nat.le_refl _)
    have P5 := P4.below hb5 (Nat.le_refl _)
    have B5 := B4.trans (hb5.mono B4.size)
    have W5 := W4.below hb5 W4.lt
    clear V4 Y4 Q4 P4 B4 W4 hb5
    go_wp2_with fail
    refine (drawStepsOf_any _ a0 _ cap0 zs (FA.out _ B5).1 hsm).mono ?_
    rintro e Z ⟨m, n, rfl, mb, nb, hb6⟩
    have z6 := hb6.size
    have VZ := V5.below hb6 V5.lt
    have YZ := Y5.below hb6 (Nat.le_refl _)
    have QZ := Q5.below hb6 (Nat.le_refl _)
    have PZ := P5.below hb6 (Nat.le_refl _)
    have GZ := G5.below hb6 (Nat.le_refl _)
    have BZ := B5.trans (hb6.mono B5.size)
    have WZ := W5.below hb6 W5.lt
    have TZ := (FA.out _ BZ).2
    clear V5 Y5 Q5 P5 B5 W5 hb6 G5
    have px : u2.heap.size < Z.heap.size := VZ.lt
    have qx : u4.heap.size < Z.heap.size := WZ.lt
    generalize u2.heap.size = p at *
    generalize u4.heap.size = q at *
    have hf0 := fldR0
    have hf1 := fldR1
    have hs0 := fldS0
    have hs1 := fldS1
    have hw0 := fldW0
    have hw1 := fldW1
    have hw2 := fldW2
    go_wp2_with fail
    go_cut [120] (fun s120 wx => s120 = .bool false ∧ Below Z.heap.size Z wx)
    case first =>
      have hne : Nonempty (KeptW Z) := ⟨⟨Z, Below.refl _ _⟩⟩
      have SG : Hid (∀ d : KeptW Z, Calls Tryd.prog 49 #[.int .i64 s, .int .i64 t, .int .i64 f, .slice a3 ps.length c3] d.wd fun r w' => r = .returned (.agg #[.int .i64 (grC s t f ps), .int .i64 (grV s t f ps).1, .int .i64 (grV s t f ps).2]) ∧ Below d.wd.heap.size d.wd w') := fun d => specGrowRoots_any s t f a3 c3 ps d.wd (PZ.below d.hb (Nat.le_refl _)) (by omega) pc3 pm3
      have IA : Hid (∀ d : KeptW Z, Calls Tryd.prog 50 #[.int .i64 s', .int .i64 f', .int .i64 t', .int .i64 d', .slice y qs.length cy] d.wd fun r w' => r = .returned (.bool (agB s' f' t' d' qs)) ∧ Below d.wd.heap.size d.wd w') := fun d => implAcceptGrowth_any s' f' t' d' y cy qs d.wd (TZ.below d.hb (Nat.le_refl _)) (GZ.below d.hb (Nat.le_refl _)) (by omega) qc qm
      have SA : Hid (∀ d : KeptW Z, Calls Tryd.prog 51 #[.int .i64 s', .int .i64 f', .int .i64 t', .int .i64 d', .slice y qs.length cy] d.wd fun r w' => r = .returned (.bool (agB s' f' t' d' qs)) ∧ Below d.wd.heap.size d.wd w') := fun d => specAcceptGrowth_any s' f' t' d' y cy qs d.wd (GZ.below d.hb (Nat.le_refl _)) (by omega) qc qm
      have IS : Hid (∀ d : KeptW Z, Calls Tryd.prog 52 #[.int .i64 m, .int .i64 n] d.wd fun r w' => r = .returned (.agg #[.int .i64 (spC m n), .int .i64 (spV m n)]) ∧ Below d.wd.heap.size d.wd w') := fun d => implStepsOf_any m n d.wd
      have SS : Hid (∀ d : KeptW Z, Calls Tryd.prog 53 #[.int .i64 m, .int .i64 n] d.wd fun r w' => r = .returned (.agg #[.int .i64 (spC m n), .int .i64 (spV m n)]) ∧ Below d.wd.heap.size d.wd w') := fun d => specStepsOf_any m n d.wd
      have K0 := KeptW.cell (v := .int .i64 (grC s t f ps)) (by have := WZ.cell 0; simpa using this) qx
      have K1 := KeptW.cell (v := .int .i64 (grV s t f ps).1) (by have := WZ.cell 1; simpa using this) qx
      have K2 := KeptW.cell (v := .int .i64 (grV s t f ps).2) (by have := WZ.cell 2; simpa using this) qx
      generalize grC s t f ps = cc at *
      generalize (grV s t f ps).1 = cv at *
      generalize (grV s t f ps).2 = cw at *
      generalize agB s' f' t' d' qs = B at *
      generalize spC m n = sc at *
      generalize spV m n = sv at *
      have hcc : (cc != cc) = false := by simp
      have hcv : (cv != cv) = false := by simp
      have hcw : (cw != cw) = false := by simp
      have hBB : (B != B) = false := by simp
      have hsc : (sc != sc) = false := by simp
      have hsv : (sv != sv) = false := by simp
      clear VZ YZ QZ PZ BZ WZ TZ GZ FA
      refine wp_region_kept (by kernel_rfl) (by kernel_rfl) ?_
      simp only [List.append_eq, List.cons_append, List.nil_append]
      repeat (go_big_quiet_step ((first | (go_at_call 49; exact KeptW.calls (SG.out _)) | (go_at_call 50; exact KeptW.calls (IA.out _)) | (go_at_call 51; exact KeptW.calls (SA.out _)) | (go_at_call 52; exact KeptW.calls (IS.out _)) | (go_at_call 53; exact KeptW.calls (SS.out _)))))
      refine wpQuiet_nil ?_
      rintro _ ⟨d1, rfl⟩
      go_wp2_with fail
      go_meet
      exact ⟨rfl, d1.hb⟩
    case rest =>
      obtain ⟨rfl, hcb⟩ := hcut
      generalize wc = X at *
      have zc := hcb.size
      have VX := VZ.below hcb px
      have YX := YZ.below hcb (Nat.le_refl _)
      have QX := QZ.below hcb (Nat.le_refl _)
      have BX := BZ.trans (hcb.mono BZ.size)
      have TX := (FA.out _ BX).2
      have pX : p < X.heap.size := VX.lt
      have FIN : Hid (∀ wx : World, Below X.heap.size X wx → Below w.heap.size w wx) := fun wx h => BX.trans (h.mono BX.size)
      have r0 := VX.cell 0
      have r1 := VX.cell 1
      simp at r0 r1
      have SPc : Hid (∀ wx : World, Below X.heap.size X wx → Calls Tryd.prog 54 #[.slice a1 ys.length c1, .int .i64 k] wx fun r w' => ∃ pa pc, r = .returned (.agg #[.int .i64 (gwC ys k), .slice pa (gwL ys k).length pc]) ∧ w'.ownsRow wx.heap.size 2 1 (.slice pa (gwL ys k).length pc) (gwL ys k).length ((gwL ys k).map (.int .i64)) ∧ Below wx.heap.size wx w') := fun wx h => specGrowthOf_any a1 c1 ys k wx (YX.below h (Nat.le_refl _)) (by omega) yc ym
      have D0 : Below X.heap.size X X.drew := (Below.refl _ _).drew
      clear VZ YZ QZ PZ BZ WZ TZ GZ hcb A0 z1 z2 z3 z4 z5 z6
      by_cases hC : gwC ys k = 0
      · obtain ⟨hlv, hk0, hk1⟩ : lvF ys = 0 ∧ 1 ≤ k ∧ k ≤ ys.length := by
          unfold gwC at hC
          split at hC
          · split at hC
            · exact ⟨‹_›, ‹_›⟩
            · omega
          · omega
        obtain ⟨h24, hall⟩ := lvF_zero hlv
        obtain ⟨ag, sl, pl6⟩ := grow_gw hlv hk0 hk1
        obtain ⟨j, rfl⟩ : ∃ j : Nat, k = (j : Int) := ⟨k.toNat, by omega⟩
        rw [show ((j : Int)).toNat = j from rfl] at ag
        have tl : (ys.take j).length = j := by simp; omega
        have hi := has_init YX j (by omega)
        rw [hC] at r0 SPc
        have RO : Hid (∀ wx : World, Below X.heap.size X wx → Calls Tryd.prog 25 #[.slice a1 ys.length c1] wx fun r w' => r = .returned (.agg #[.int .i64 0, .int .i64 (rtV ys)]) ∧ Below wx.heap.size wx w') := fun wx h => by
          have := implRootOf_any a1 c1 ys wx (TX.below h (Nat.le_refl _)) (YX.below h (Nat.le_refl _)) (by omega) yc ym
          rw [hlv] at this
          exact this
        have RJ : Hid (∀ wx : World, Below X.heap.size X wx → Calls Tryd.prog 25 #[.slice a1 j c1] wx fun r w' => r = .returned (.agg #[.int .i64 0, .int .i64 (rtV (ys.take j))]) ∧ Below wx.heap.size wx w') := fun wx h => by
          have := implRootOf_any a1 c1 (ys.take j) wx (TX.below h (Nat.le_refl _)) (hi.below h (Nat.le_refl _)) (by omega) (by omega) ym
          rw [lvF_take hlv, tl] at this
          exact this
        have AG : Hid (∀ wx : World, Below X.heap.size X wx → Calls Tryd.prog 50 #[.int .i64 j, .int .i64 (rtV (ys.take j)), .int .i64 ys.length, .int .i64 (rtV ys), .slice pa (gwL ys j).length pc] wx fun r w' => r = .returned (.bool true) ∧ Below wx.heap.size wx w') := fun wx h => by
          have := implAcceptGrowth_any j (rtV (ys.take j)) ys.length (rtV ys) pa pc (gwL ys j) wx (TX.below h (Nat.le_refl _)) (QX.below h (Nat.le_refl _)) (by omega) hpc.1 hpc.2
          rw [ag] at this
          exact this
        have ST : Hid (∀ wx : World, Below X.heap.size X wx → Calls Tryd.prog 52 #[.int .i64 j, .int .i64 ys.length] wx fun r w' => r = .returned (.agg #[.int .i64 (spC j ys.length), .int .i64 ((gwL ys j).length : Nat)]) ∧ Below wx.heap.size wx w') := fun wx h => by
          have := implStepsOf_any j ys.length wx
          rw [← sl] at this
          exact this
        have LN : Hid (∀ (wx : World) (a' : Option Addr) (c' : Nat), Below X.heap.size X wx → Has wx .i64 a' (gwL ys j).length (gwL ys j) → Calls Tryd.prog 26 #[.slice pa (gwL ys j).length pc, .slice a' (gwL ys j).length c'] wx fun r w' => r = .returned (.bool true) ∧ Below wx.heap.size wx w') := fun wx a' c' h h2 => lwNums_any pa a' pc c' (gwL ys j) wx (QX.below h (Nat.le_refl _)) h2 (by omega)
        have WF : Hid (∀ n ∈ gwL ys j, (Lit.int .i64 n).wf = true) := gwL_wf ys j
        generalize spC (j : Int) (ys.length : Int) = sc at *
        generalize rtV (ys.take j) = V1 at *
        generalize rtV ys = V2 at *
        generalize gwL ys j = pp at *
        have hll : ((pp.length : Int) == (pp.length : Int)) = true := by simp
        have j0 : (1 : Int) ≤ j := hk0
        have j1 : (j : Int) ≤ ys.length := hk1
        have j2 : (j : Int) ≤ c1 := by omega
        have j3 : (0 : Int) ≤ j := by omega
        have C1 : ∀ wx : World, Below X.heap.size X wx → wx.cell? ⟨p, 1, none⟩ = some (.slice pa pp.length pc) := fun wx h => (h.cell (p := ⟨p, 1, none⟩) pX).trans r1
        obtain ⟨b1, o1, hx1⟩ : ∃ b off, a1 = some ⟨b, off, none⟩ := by
          rcases YX.2.2 with c | ⟨b, o, h, _⟩
          · omega
          · exact ⟨b, o, h⟩
        subst hx1
        clear QX YX TX hlv hall ag sl FA VX BX hpc hi tl
        go_wp2_with fail
        go_region_held3 (fun wx => Below X.heap.size X wx)
          ((first | exact D0 | exact D1 | assumption))
          ((first | (go_at_call_of 25 (Value.slice (some ⟨b1, o1, none⟩) j c1); refine (RJ.out _ (by assumption)).mono ?_; rintro _ ua ⟨rfl, hba⟩; have D1 : Below X.heap.size X ua := Below.trans (by assumption) (hba.mono (Below.size (by assumption)))) | (go_at_call_of 25 (Value.slice (some ⟨b1, o1, none⟩) ys.length c1); refine (RO.out _ (by assumption)).mono ?_; rintro _ ua ⟨rfl, hba⟩; have D1 : Below X.heap.size X ua := Below.trans (by assumption) (hba.mono (Below.size (by assumption)))) | (go_at_call 50; refine (AG.out _ (by assumption)).mono ?_; rintro _ ua ⟨rfl, hba⟩; have D1 : Below X.heap.size X ua := Below.trans (by assumption) (hba.mono (Below.size (by assumption)))) | (go_at_call 52; refine (ST.out _ (by assumption)).mono ?_; rintro _ ua ⟨rfl, hba⟩; have D1 : Below X.heap.size X ua := Below.trans (by assumption) (hba.mono (Below.size (by assumption)))) | (go_at_call 54; refine (SPc.out _ (by assumption)).mono ?_; rintro _ ua ⟨pa', pc', rfl, Ob, hba⟩; have Hb := has_of_own Ob WF.out; have D1 : Below X.heap.size X ua := Below.trans (by assumption) (hba.mono (Below.size (by assumption)))) | (go_at_call 26; refine (LN.out _ _ _ (by assumption) Hb).mono ?_; rintro _ ua ⟨rfl, hba⟩; have D1 : Below X.heap.size X ua := Below.trans (by assumption) (hba.mono (Below.size (by assumption)))) | fail))
        go_wp2
        go_ret
        exact ⟨rfl, FIN.out _ (by assumption)⟩
      · have C0 : ∀ wx : World, Below X.heap.size X wx → wx.cell? ⟨p, 0, none⟩ = some (.int .i64 (gwC ys k)) := fun wx h => (h.cell (p := ⟨p, 0, none⟩) pX).trans r0
        generalize gwC ys k = cd at *
        generalize gwL ys k = pp at *
        have hcn : (cd != 0) = true := by simpa using hC
        have hcd : (cd == cd) = true := by simp
        clear QX YX TX FA VX BX hpc
        go_wp2_with fail
        go_region_held3 (fun wx => Below X.heap.size X wx)
          ((first | exact D0 | exact D1 | assumption))
          ((first | (go_at_call 54; refine (SPc.out _ (by assumption)).mono ?_; rintro _ ua ⟨pa', pc', rfl, Ob, hba⟩; have D1 : Below X.heap.size X ua := Below.trans (by assumption) (hba.mono (Below.size (by assumption)))) | fail))
        go_wp2
        go_ret
        exact ⟨rfl, FIN.out _ D1⟩

set_option maxRecDepth 100000 in
theorem fnGrowths_lifted (os : Os) (started : os.Started) (H : Type) (enc : TypeId × Value → H) :
    ReturnsInHanded {} Tryd.checked os 9 .any (fun w args => (Rows.fnGrowthsSpec.pre enc Tryd.prog Tryd.f9 [] false w args ∧ laidMetH Tryd.prog [("loop.example/g00565/impl.pieceStarts", Rows.laid_loop_example_g00565_impl_pieceStarts)] w) ∧ sizedMet enc Tryd.prog Tryd.f9 (OpenSpec.ofChange Rows.fnGrowthsSpec) false w args) (Rows.fnGrowthsSpec.post enc Tryd.prog Tryd.f9 false true false false) := by
  refine returnsInHanded_of_change_and (C := Tryd.checked) (X := fun w _ => laidMetH Tryd.prog [("loop.example/g00565/impl.pieceStarts", Rows.laid_loop_example_g00565_impl_pieceStarts)] w) (fun _ _ _ hh h => h.of_heap hh) own started (by kernel_rfl) Tryd.func9
    (ChangeSpec.witness_shaped (enc := enc) (C := Tryd.checked) (os := os) (X := fun w _ => laidMetH Tryd.prog [("loop.example/g00565/impl.pieceStarts", Rows.laid_loop_example_g00565_impl_pieceStarts)] w) false (World.doorLaid Tryd.prog 400 os) #[.slice none 0 0] 8 rfl (World.shaped_of_RefB (by kernel_rfl) (by kernel_rfl)) (by kernel_rfl) (by kernel_rfl) (by kernel_rfl) (door_met os _)) ?_
  intro W base args ds gs before hval0 hW _ _ hL _
  have hval : ∀ (j : Nat) t v, Tryd.f9.params[j]? = some t → args[j]? = some v → Value.okWide Tryd.prog W .any base t v := hval0
  have hW' := hW
  obtain ⟨p, q, hA0, hV, rfl, hfz, hnd⟩ := hW
  have hA : DataW.TrodAll enc Tryd.prog W 0 (fun _ => true) true Tryd.f9.params.toList args.toList ds p := hA0
  rw [Tryd.params9] at hA hval
  obtain ⟨v0, vs0, d0, ds0, p0, q0, hargs, rfl, rfl, h0, r0⟩ := trodAll_cons hA
  obtain ⟨rfl, rfl, rfl⟩ := trodAll_nil r0
  obtain rfl : args = #[v0] := by cases args; simp_all
  obtain ⟨g, rfl⟩ : ∃ g, gs = [g] := by obtain ⟨_, _, _, _, d, _, e, _⟩ := trodVars_one hV; exact ⟨d, e⟩
  have g0 := h0
  have lt0 : ∀ x ∈ p0, x.block < W.heap.size := by obtain ⟨m, hm⟩ := g0; exact DataW.trod_lt m _ _ _ hm
  obtain ⟨a0, len0, cap0, rfl⟩ := okWide_slice Tryd.underlying22 (hval 0 22 v0 rfl rfl)
  obtain ⟨z0, w0⟩ : ∃ zs, IsRow .u8 W a0 len0 cap0 zs := by
    obtain ⟨fuel, hf⟩ := h0
    rcases open_ints Tryd.underlying22 Tryd.underlying5 (by kernel_rfl) hf with ⟨hcs, _⟩ | ⟨x, l, c, zs, hcs, _, hl, hm, hz, _, hcell, hwz⟩
    · simp [Value.cells] at hcs
      obtain ⟨rfl, rfl, rfl⟩ := hcs
      exact ⟨[], .inl ⟨rfl, rfl, rfl, rfl⟩⟩
    · simp [Value.cells] at hcs
      obtain ⟨rfl, rfl, rfl⟩ := hcs
      exact ⟨zs, .inr ⟨_, rfl, hl, hm, by simpa using hz, hcell, hwz⟩⟩
  clear hA0 hval0
  refine (fnGrowths_walk W (tab_of_laid hL) a0 len0 cap0 z0 w0).mono fun e W' ⟨he, bel⟩ => ?_
  subst he
  exact ⟨_, rfl, _, _, _, [], _, _, hW', trodAll_mk1 (shut_bool Tryd.underlying4 _), (trodAll_cons_mk (Below.trod laidOut (by kernel_rfl) (of_decide_eq_true (by kernel_rfl)) g0 bel lt0) trodAll_mk0), Below.trodVars laidOut bel (by kernel_rfl) hV, bel.frame _, fun h => by cases h⟩

theorem fnGrowths_row : Rows.FnGrowthsSaid :=
  OpenClaim.holds_of_wide 9 Tryd.f9 rfl rfl rfl rfl rfl rfl rfl ⟨rfl, rfl, rfl, rfl, rfl⟩ rfl rfl rfl rfl rfl (by kernel_rfl) Tryd.func9 (by kernel_rfl)
    (of_decide_eq_true (by kernel_rfl)) (by unfold Func.isWrapper; first | (rw [if_pos (by decide +kernel)]; kernel_rfl) | (rw [if_neg (by decide +kernel)]; exact ⟨rfl, rfl⟩))
    (fun os started H enc _ => fnGrowths_lifted os started H enc)

theorem fnGrowths_holds : Rows.FnGrowthsCardSaid :=
  Claim7.holds_tied_plain_at .later [] [.data] true Rows.fnGrowthsCard.stood.harness false
    fnGrowths_row (fun _ h => by cases h) (by kernel_rfl) (fun _ h => by cases h) fnGrowths_row_tie rfl ⟨rfl, rfl⟩ (by kernel_rfl) rfl
    (fun f fn hf hfn => by
      obtain rfl : f = 9 := Option.some.inj ((show Tryd.prog.funcNamed "loop.example/g00565/laws.FnGrowths" = some 9 by kernel_rfl).symm.trans hf) |>.symm
      obtain rfl : fn = Tryd.f9 := (Option.some.inj (Tryd.func9.symm.trans hfn)).symm
      exact ⟨by kernel_rfl, fun j t ht => by
        rw [Tryd.params9] at ht
        have h3 : t = 22 := by
          match j, ht with
          | 0, ht => simp at ht; simp [← ht]
          | _ + 1, ht => simp at ht
        rcases h3 with rfl
        all_goals exact (show Tryd.prog.wantsStandIn _ = false by kernel_rfl)⟩)
    (by kernel_rfl)
#print axioms fnGrowths_holds
end Go.Proofs.YtkjhcblfkpknlaaDoor
