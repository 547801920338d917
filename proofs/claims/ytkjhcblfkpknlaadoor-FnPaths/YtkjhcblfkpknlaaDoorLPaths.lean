/- At every code the law on paths holds: from each leaf its path leads up to the root; the table that begins pieces starts as the program's text lays it. -/
import Derived.Test.YtkjhcblfkpknlaaDoorIRootP
import Derived.Test.YtkjhcblfkpknlaaDoorPath4S
import Derived.Test.YtkjhcblfkpknlaaDoorDraw4P
import Derived.Test.YtkjhcblfkpknlaaDoorBig
import Derived.Test.YtkjhcblfkpknlaaDoorPathsP
import Derived.Test.YtkjhcblfkpknlaaDoorAccept4
import Derived.Deep.DeepCutAuto
import Derived.Deep.RegionWith
import Derived.Test.YtkjhcblfkpknlaaDoorDoor
namespace Go.Proofs.YtkjhcblfkpknlaaDoor
open Go.ChangeShapes Go.WideShapes Go.ChangeAt Go.RowKit
set_option linter.unusedVariables false
set_option linter.unusedSimpArgs false

set_option maxRecDepth 100000 in
set_option maxHeartbeats 16000000 in
theorem fnPaths_walk (w : World) (hT : Tab w) (a0 : Option Addr) (len0 cap0 : Nat) (z0 : List Int) (w0 : IsRow .u8 w a0 len0 cap0 z0) :
    Calls Tryd.prog 3 #[.slice a0 len0 cap0] w fun e w' => e = .returned (.bool true) ∧ Below w.heap.size w w' := by
  have A0 := Has.of_row w0
  have hlen := A0.1
  generalize z0.take len0 = zs at A0 hlen
  subst hlen
  clear w0
  by_cases hbig : 1048576 < zs.length
  · go_enter Tryd.func3, Tryd.ntmps3
    go_wp2_with fail
    refine (lwBig_yes _ a0 _ cap0 hbig).mono ?_
    rintro r u ⟨rfl, rfl⟩
    go_wp2
    go_ret
    exact ⟨rfl, Below.refl _ _⟩
  · have hsm : zs.length ≤ 1048576 := by omega
    have FA : Hid (∀ wx : World, Below w.heap.size w wx → Has wx .u8 a0 zs.length zs ∧ Tab wx) := fun wx h => ⟨A0.below h (Nat.le_refl _), hT.below h (Nat.le_refl _)⟩
    clear hT
    go_enter Tryd.func3, Tryd.ntmps3
    go_wp2_with fail
    refine (lwBig_no _ a0 _ cap0 hsm).mono ?_
    rintro r u ⟨rfl, hu⟩
    have hu2 := hu.symm
    subst hu2
    clear hu
    go_wp2_with fail
    refine (drawPathOf_any _ a0 _ cap0 zs A0 hsm).mono ?_
    rintro e u1 ⟨a1, c1, ys, k, rfl, yl, yc, ym, kb, Y1, hb1⟩
    have z1 := hb1.size
    go_wp2_with fail
    refine (implPathOf_any a1 c1 ys k _ (FA.out _ hb1).2 Y1 (by omega) yc ym).mono ?_
    rintro r u2 ⟨pa, pc, rfl, O2, hb2⟩
    have z2 := hb2.size
    have Q2 := (has_of_own O2 (ptL_wf ys k)).alloc (.cells #[.int .i64 (ptC ys k), .slice pa (ptL ys k).length pc] 28)
    have hpc := own_caps O2
    have B2 := hb1.trans (hb2.mono hb1.size)
    have Y2 := (Y1.below hb2 (Nat.le_refl _)).alloc (.cells #[.int .i64 (ptC ys k), .slice pa (ptL ys k).length pc] 28)
    have B2' := B2.alloc B2.size (.cells #[.int .i64 (ptC ys k), .slice pa (ptL ys k).length pc] 28)
    clear hb1 hb2 Y1 B2 O2
    go_wp2_with fail
    refine (drawClimbPath_any _ a0 _ cap0 zs (FA.out _ B2').1 hsm).mono ?_
    rintro e u3 ⟨l, kk, z, a3, c3, ps, rfl, pl, pc3, pm3, zb, P3, hb3⟩
    have z3 := hb3.size
    simp at z3
    have V3 := (Blk.new u2 #[.int .i64 (ptC ys k), .slice pa (ptL ys k).length pc] 28).below hb3 (by simp)
    have Y3 := Y2.below hb3 (Nat.le_refl _)
    have Q3 := Q2.below hb3 (Nat.le_refl _)
    have B3 := B2'.trans (hb3.mono B2'.size)
    clear hb3 Y2 B2' Q2
    go_wp2_with fail
    refine (implClimb_any l kk z a3 c3 ps _ (FA.out _ B3).2 P3 (by omega) pc3 pm3).mono ?_
    rintro r u4 ⟨rfl, hb4⟩
    have z4 := hb4.size
    have b4a : Below u4.heap.size u4 (u4.alloc (.cells #[.int .i64 (clC l kk z ps), .int .i64 (clV l kk z ps)] 33)) := (Below.refl _ _).alloc (Nat.le_refl _) _
    have V4 := (V3.below hb4 V3.lt).below b4a (by have := V3.lt; omega)
    have Y4 := (Y3.below hb4 (Nat.le_refl _)).alloc (.cells #[.int .i64 (clC l kk z ps), .int .i64 (clV l kk z ps)] 33)
    have Q4 := (Q3.below hb4 (Nat.le_refl _)).alloc (.cells #[.int .i64 (clC l kk z ps), .int .i64 (clV l kk z ps)] 33)
    have P4 := (P3.below hb4 (Nat.le_refl _)).alloc (.cells #[.int .i64 (clC l kk z ps), .int .i64 (clV l kk z ps)] 33)
    have B4 := (B3.trans (hb4.mono B3.size)).trans (b4a.mono (B3.trans (hb4.mono B3.size)).size)
    have W4 := Blk.new u4 #[.int .i64 (clC l kk z ps), .int .i64 (clV l kk z ps)] 33
    clear hb4 Y3 B3 V3 P3 Q3 b4a
    go_wp2_with fail
    refine (drawAcceptLeaf_any _ a0 _ cap0 zs (FA.out _ B4).1 hsm).mono ?_
    rintro e Z ⟨x, cx, ds, ka, za, y, cy, qs, rt, rfl, dl, ql, qc, qm, zab, D5, G5, hb5⟩
    have z5 := hb5.size
    have VZ := V4.below hb5 V4.lt
    have YZ := Y4.below hb5 (Nat.le_refl _)
    have QZ := Q4.below hb5 (Nat.le_refl _)
    have PZ := P4.below hb5 (Nat.le_refl _)
    have BZ := B4.trans (hb5.mono B4.size)
    have WZ := W4.below hb5 W4.lt
    have TZ := (FA.out _ BZ).2
    clear V4 Y4 Q4 P4 B4 W4 hb5
    have px : u2.heap.size < Z.heap.size := VZ.lt
    have qx : u4.heap.size < Z.heap.size := WZ.lt
    generalize u2.heap.size = p at *
    generalize u4.heap.size = q at *
    have hf0 := fldR0
    have hf1 := fldR1
    have hs0 := fldS0
    have hs1 := fldS1
    go_wp2_with fail
    go_cut [81] (fun s81 wx => s81 = .bool false ∧ Below Z.heap.size Z wx)
    case first =>
      have hne : Nonempty (KeptW Z) := ⟨⟨Z, Below.refl _ _⟩⟩
      have SC : Hid (∀ d : KeptW Z, Calls Tryd.prog 19 #[.int .i64 l, .int .i64 kk, .int .i64 z, .slice a3 ps.length c3] d.wd fun r w' => r = .returned (.agg #[.int .i64 (clC l kk z ps), .int .i64 (clV l kk z ps)]) ∧ Below d.wd.heap.size d.wd w') := fun d => specClimb_any l kk z a3 c3 ps d.wd (PZ.below d.hb (Nat.le_refl _)) (by omega) pc3 pm3 (by omega)
      have IA : Hid (∀ d : KeptW Z, Calls Tryd.prog 20 #[.slice x ds.length cx, .int .i64 ka, .int .i64 za, .slice y qs.length cy, .int .i64 rt] d.wd fun r w' => r = .returned (.bool (acB ds ka za qs rt)) ∧ Below d.wd.heap.size d.wd w') := fun d => implAccept_any x y cx cy ds qs ka za rt d.wd (TZ.below d.hb (Nat.le_refl _)) (D5.below d.hb (Nat.le_refl _)) (G5.below d.hb (Nat.le_refl _)) (by omega) qc qm
      have SA : Hid (∀ d : KeptW Z, Calls Tryd.prog 21 #[.slice x ds.length cx, .int .i64 ka, .int .i64 za, .slice y qs.length cy, .int .i64 rt] d.wd fun r w' => r = .returned (.bool (acB ds ka za qs rt)) ∧ Below d.wd.heap.size d.wd w') := fun d => specAccept_any x y cx cy ds qs ka za rt d.wd (D5.below d.hb (Nat.le_refl _)) (by omega) (G5.below d.hb (Nat.le_refl _)) (by omega) qc qm (by omega)
      have K0 := KeptW.cell (v := .int .i64 (clC l kk z ps)) (by have := WZ.cell 0; simpa using this) qx
      have K1 := KeptW.cell (v := .int .i64 (clV l kk z ps)) (by have := WZ.cell 1; simpa using this) qx
      generalize clC l kk z ps = cc at *
      generalize clV l kk z ps = cv at *
      generalize acB ds ka za qs rt = B at *
      have hcc : (cc != cc) = false := by simp
      have hcv : (cv != cv) = false := by simp
      have hBB : (B != B) = false := by simp
      clear VZ YZ QZ PZ BZ WZ TZ D5 G5 FA
      refine wp_region_kept (by kernel_rfl) (by kernel_rfl) ?_
      iterate 35 (go_big_quiet_step ((first | (go_at_call 19; exact KeptW.calls (SC.out _)) | (go_at_call 20; exact KeptW.calls (IA.out _)) | (go_at_call 21; exact KeptW.calls (SA.out _)))))
      refine wpQuiet_nil ?_
      rintro _ ⟨d1, rfl⟩
      go_wp2_with fail
      go_meet
      exact ⟨rfl, d1.hb⟩
    case rest =>
      obtain ⟨rfl, hcb⟩ := hcut
      generalize wc = X at *
      have zc := hcb.size
      have VX := VZ.below hcb px
      have YX := YZ.below hcb (Nat.le_refl _)
      have QX := QZ.below hcb (Nat.le_refl _)
      have BX := BZ.trans (hcb.mono BZ.size)
      have TX := (FA.out _ BX).2
      have pX : p < X.heap.size := VX.lt
      have FIN : Hid (∀ wx : World, Below X.heap.size X wx → Below w.heap.size w wx) := fun wx h => BX.trans (h.mono BX.size)
      have r0 := VX.cell 0
      have r1 := VX.cell 1
      simp at r0 r1
      have SPc : Hid (∀ wx : World, Below X.heap.size X wx → Calls Tryd.prog 22 #[.slice a1 ys.length c1, .int .i64 k] wx fun r w' => ∃ pa pc, r = .returned (.agg #[.int .i64 (ptC ys k), .slice pa (ptL ys k).length pc]) ∧ w'.ownsRow wx.heap.size 2 1 (.slice pa (ptL ys k).length pc) (ptL ys k).length ((ptL ys k).map (.int .i64)) ∧ Below wx.heap.size wx w') := fun wx h => specPathOf_any a1 c1 ys k wx (YX.below h (Nat.le_refl _)) (by omega) yc ym
      have D0 : Below X.heap.size X X.drew := (Below.refl _ _).drew
      clear VZ YZ QZ PZ BZ WZ TZ D5 G5 hcb A0 z1 z2 z3 z4 z5
      by_cases hC : ptC ys k = 0
      · obtain ⟨hlv, hk0, hk1⟩ : lvF ys = 0 ∧ 0 ≤ k ∧ k < ys.length := by
          unfold ptC at hC
          split at hC
          · split at hC
            · exact ⟨‹_›, ‹_›⟩
            · omega
          · omega
        obtain ⟨h24, hall⟩ := lvF_zero hlv
        obtain ⟨cl0, clv, pl6⟩ := climb_pt hlv hk0 hk1
        obtain ⟨j, rfl⟩ : ∃ j : Nat, k = (j : Int) := ⟨k.toNat, by omega⟩
        rw [show ((j : Int)).toNat = j from rfl] at cl0 clv
        obtain ⟨b1, o1, hx1, hbl, hcell⟩ : ∃ b off, a1 = some ⟨b, off, none⟩ ∧ b < X.heap.size ∧ ∀ i, i < ys.length → X.cell? ⟨b, off + i, none⟩ = some (.int .i64 (ys.getD i 0)) := by
          rcases YX.2.2 with c | h
          · omega
          · exact h
        subst hx1
        have cj := hcell j (by omega)
        rw [hC] at r0 SPc
        have CL : Hid (∀ wx : World, Below X.heap.size X wx → Calls Tryd.prog 17 #[.int .i64 (ys.getD j 0), .int .i64 j, .int .i64 ys.length, .slice pa (ptL ys j).length pc] wx fun r w' => r = .returned (.agg #[.int .i64 0, .int .i64 (rtV ys)]) ∧ Below wx.heap.size wx w') := fun wx h => by
          have := implClimb_any (ys.getD j 0) j ys.length pa pc (ptL ys j) wx (TX.below h (Nat.le_refl _)) (QX.below h (Nat.le_refl _)) (by omega) hpc.1 hpc.2
          rw [cl0, clv] at this
          exact this
        have RO : Hid (∀ wx : World, Below X.heap.size X wx → Calls Tryd.prog 25 #[.slice (some ⟨b1, o1, none⟩) ys.length c1] wx fun r w' => r = .returned (.agg #[.int .i64 0, .int .i64 (rtV ys)]) ∧ Below wx.heap.size wx w') := fun wx h => by
          have := implRootOf_any (some ⟨b1, o1, none⟩) c1 ys wx (TX.below h (Nat.le_refl _)) (YX.below h (Nat.le_refl _)) (by omega) yc ym
          rw [hlv] at this
          exact this
        have LN : Hid (∀ (wx : World) (a' : Option Addr) (c' : Nat), Below X.heap.size X wx → Has wx .i64 a' (ptL ys j).length (ptL ys j) → Calls Tryd.prog 26 #[.slice pa (ptL ys j).length pc, .slice a' (ptL ys j).length c'] wx fun r w' => r = .returned (.bool true) ∧ Below wx.heap.size wx w') := fun wx a' c' h h2 => lwNums_any pa a' pc c' (ptL ys j) wx (QX.below h (Nat.le_refl _)) h2 (by omega)
        have WF : Hid (∀ n ∈ ptL ys j, (Lit.int .i64 n).wf = true) := ptL_wf ys j
        generalize ys.getD j 0 = lf at *
        generalize rtV ys = V at *
        generalize ptL ys j = pp at *
        have hVV : (V == V) = true := by simp
        have h6 : decide ((pp.length : Int) ≤ 6) = true := by simp; omega
        have hk1' : ¬ (ys.length : Int) ≤ j := by omega
        have jlt : (j : Int) < ys.length := hk1
        have C1 : ∀ wx : World, Below X.heap.size X wx → wx.cell? ⟨p, 1, none⟩ = some (.slice pa pp.length pc) := fun wx h => (h.cell (p := ⟨p, 1, none⟩) pX).trans r1
        have CJ : ∀ wx : World, Below X.heap.size X wx → wx.cell? ⟨b1, o1 + j, none⟩ = some (.int .i64 lf) := fun wx h => (h.cell (p := ⟨b1, o1 + j, none⟩) hbl).trans cj
        clear hcell QX YX TX hlv hall cl0 clv FA VX BX hpc
        go_wp2_with fail
        go_cut [16] (fun s16 wx => ∃ b, s16 = .pointer (some ⟨b, 0, none⟩) ∧ X.heap.size ≤ b ∧ b < wx.heap.size ∧ wx.cell? ⟨b, 0, none⟩ = some (.int .i64 0) ∧ wx.cell? ⟨b, 1, none⟩ = some (.int .i64 V) ∧ Below X.heap.size X wx)
        case first =>
          go_region_held3 (fun wx => Below X.heap.size X wx)
            ((first | exact D0 | exact D1 | exact (D0.alloc (by simp) _) | exact (D1.alloc D1.size _) | exact ((D0.alloc (by simp) _).alloc (by simp) _) | exact (D1.setCell (by simp) _).setCell (by simp) _))
            ((go_at_call 17; refine (CL.out _ (by assumption)).mono ?_; rintro _ ua ⟨rfl, hba⟩; have D1 : Below X.heap.size X ua := Below.trans (by assumption) (hba.mono (Below.size (by assumption))); have zz := hba.size; (try simp at zz); obtain ⟨hca, hfa⟩ := bcell hba))
          all_goals go_wp2_with fail
          all_goals go_meet
          · exact ⟨_, rfl, D1.size, by simp, by simp [go_sem], by simp [go_sem], D1.alloc D1.size _⟩
          · have q0 : ua.cell? ⟨X.heap.size, 0, none⟩ = some (.int .i64 0) := (hca _ 0 (by simp)).trans (by simp [go_sem])
            have q1 : ua.cell? ⟨X.heap.size, 1, none⟩ = some (.int .i64 0) := (hca _ 1 (by simp)).trans (by simp [go_sem])
            exact ⟨_, rfl, Nat.le_refl _, by simp; omega, (World.cell?_setCell_other (h := by simp) ..).trans (World.cell?_setCell_same (h := q0) ..), World.cell?_setCell_same (h := (World.cell?_setCell_other (h := by simp) ..).trans q1) .., (D1.setCell (by simp) _).setCell (by simp) _⟩
        case rest =>
          obtain ⟨b, rfl, hXb, hbE, e0, e1, hE⟩ := hcut
          generalize wc = E at *
          have E0 : ∀ wx : World, Below E.heap.size E wx → wx.cell? ⟨b, 0, none⟩ = some (.int .i64 0) := fun wx h => (h.cell (p := ⟨b, 0, none⟩) hbE).trans e0
          have E1 : ∀ wx : World, Below E.heap.size E wx → wx.cell? ⟨b, 1, none⟩ = some (.int .i64 V) := fun wx h => (h.cell (p := ⟨b, 1, none⟩) hbE).trans e1
          have EX : Hid (∀ wx : World, Below E.heap.size E wx → Below X.heap.size X wx) := fun wx h => hE.trans (h.mono hE.size)
          have P1 : ∀ wx : World, Below E.heap.size E wx → wx.cell? ⟨p, 1, none⟩ = some (.slice pa pp.length pc) := fun wx h => C1 wx (EX.out wx h)
          have DE : Below E.heap.size E E.drew := (Below.refl _ _).drew
          clear C1 CJ CL D0 r0 r1 cj
          go_wp2_with fail
          go_region_held3 (fun wx => Below E.heap.size E wx)
            ((first | exact DE | exact D1 | assumption))
            ((first | (go_at_call 25; refine (RO.out _ (EX.out _ (by assumption))).mono ?_; rintro _ ua ⟨rfl, hba⟩; have D1 : Below E.heap.size E ua := Below.trans (by assumption) (hba.mono (Below.size (by assumption)))) | (go_at_call 22; refine (SPc.out _ (EX.out _ (by assumption))).mono ?_; rintro _ ua ⟨pa', pc', rfl, Ob, hba⟩; have Hb := has_of_own Ob WF.out; have D1 : Below E.heap.size E ua := Below.trans (by assumption) (hba.mono (Below.size (by assumption)))) | (go_at_call 26; refine (LN.out _ _ _ (EX.out _ (by assumption)) Hb).mono ?_; rintro _ ua ⟨rfl, hba⟩; have D1 : Below E.heap.size E ua := Below.trans (by assumption) (hba.mono (Below.size (by assumption)))) | fail))
          go_wp2
          go_ret
          exact ⟨rfl, FIN.out _ (EX.out _ (by assumption))⟩
      · have LFi : Hid (∀ wx : World, Below X.heap.size X wx → Calls Tryd.prog 23 #[.slice a1 ys.length c1] wx fun r w' => r = .returned (.int .i64 (lvF ys)) ∧ w' = wx) := fun wx h => implLeavesFault_any a1 c1 ys wx (YX.below h (Nat.le_refl _)) (by omega)
        have LFs : Hid (∀ wx : World, Below X.heap.size X wx → Calls Tryd.prog 24 #[.slice a1 ys.length c1] wx fun r w' => r = .returned (.int .i64 (lvF ys)) ∧ w' = wx) := fun wx h => specLeavesFault_any a1 c1 ys wx (YX.below h (Nat.le_refl _)) (by omega)
        have C0 : ∀ wx : World, Below X.heap.size X wx → wx.cell? ⟨p, 0, none⟩ = some (.int .i64 (ptC ys k)) := fun wx h => (h.cell (p := ⟨p, 0, none⟩) pX).trans r0
        generalize ptC ys k = cd at *
        generalize ptL ys k = pp at *
        generalize lvF ys = lv at *
        have hcn : (cd != 0) = true := by simpa using hC
        have hcd : (cd == cd) = true := by simp
        have hlv : (lv == lv) = true := by simp
        clear QX YX TX FA VX BX hpc
        go_wp2_with fail
        go_region_held3 (fun wx => Below X.heap.size X wx)
          ((first | exact D0 | exact D1 | assumption))
          ((first | (go_at_call 22; refine (SPc.out _ (by assumption)).mono ?_; rintro _ ua ⟨pa', pc', rfl, Ob, hba⟩; have D1 : Below X.heap.size X ua := Below.trans (by assumption) (hba.mono (Below.size (by assumption)))) | (go_at_call 23; refine (LFi.out _ (by assumption)).mono ?_; rintro _ ua ⟨rfl, hua⟩; have hua2 := hua.symm; subst hua2) | (go_at_call 24; refine (LFs.out _ (by assumption)).mono ?_; rintro _ ua ⟨rfl, hua⟩; have hua2 := hua.symm; subst hua2) | fail))
        go_wp2
        go_ret
        exact ⟨rfl, FIN.out _ D1⟩

set_option maxRecDepth 100000 in
theorem fnPaths_lifted (os : Os) (started : os.Started) (H : Type) (enc : TypeId × Value → H) :
    ReturnsInHanded {} Tryd.checked os 3 .any (fun w args => (Rows.fnPathsSpec.pre enc Tryd.prog Tryd.f3 [] false w args ∧ laidMetH Tryd.prog [("loop.example/g00565/impl.pieceStarts", Rows.laid_loop_example_g00565_impl_pieceStarts)] w) ∧ sizedMet enc Tryd.prog Tryd.f3 (OpenSpec.ofChange Rows.fnPathsSpec) false w args) (Rows.fnPathsSpec.post enc Tryd.prog Tryd.f3 false true false false) := by
  refine returnsInHanded_of_change_and (C := Tryd.checked) (X := fun w _ => laidMetH Tryd.prog [("loop.example/g00565/impl.pieceStarts", Rows.laid_loop_example_g00565_impl_pieceStarts)] w) (fun _ _ _ hh h => h.of_heap hh) own started (by kernel_rfl) Tryd.func3
    (ChangeSpec.witness_shaped (enc := enc) (C := Tryd.checked) (os := os) (X := fun w _ => laidMetH Tryd.prog [("loop.example/g00565/impl.pieceStarts", Rows.laid_loop_example_g00565_impl_pieceStarts)] w) false (World.doorLaid Tryd.prog 400 os) #[.slice none 0 0] 8 rfl (World.shaped_of_RefB (by kernel_rfl) (by kernel_rfl)) (by kernel_rfl) (by kernel_rfl) (by kernel_rfl) (door_met os _)) ?_
  intro W base args ds gs before hval0 hW _ _ hL _
  have hval : ∀ (j : Nat) t v, Tryd.f3.params[j]? = some t → args[j]? = some v → Value.okWide Tryd.prog W .any base t v := hval0
  have hW' := hW
  obtain ⟨p, q, hA0, hV, rfl, hfz, hnd⟩ := hW
  have hA : DataW.TrodAll enc Tryd.prog W 0 (fun _ => true) true Tryd.f3.params.toList args.toList ds p := hA0
  rw [Tryd.params3] at hA hval
  obtain ⟨v0, vs0, d0, ds0, p0, q0, hargs, rfl, rfl, h0, r0⟩ := trodAll_cons hA
  obtain ⟨rfl, rfl, rfl⟩ := trodAll_nil r0
  obtain rfl : args = #[v0] := by cases args; simp_all
  obtain ⟨g, rfl⟩ : ∃ g, gs = [g] := by obtain ⟨_, _, _, _, d, _, e, _⟩ := trodVars_one hV; exact ⟨d, e⟩
  have g0 := h0
  have lt0 : ∀ x ∈ p0, x.block < W.heap.size := by obtain ⟨m, hm⟩ := g0; exact DataW.trod_lt m _ _ _ hm
  obtain ⟨a0, len0, cap0, rfl⟩ := okWide_slice Tryd.underlying22 (hval 0 22 v0 rfl rfl)
  obtain ⟨z0, w0⟩ : ∃ zs, IsRow .u8 W a0 len0 cap0 zs := by
    obtain ⟨fuel, hf⟩ := h0
    rcases open_ints Tryd.underlying22 Tryd.underlying5 (by kernel_rfl) hf with ⟨hcs, _⟩ | ⟨x, l, c, zs, hcs, _, hl, hm, hz, _, hcell, hwz⟩
    · simp [Value.cells] at hcs
      obtain ⟨rfl, rfl, rfl⟩ := hcs
      exact ⟨[], .inl ⟨rfl, rfl, rfl, rfl⟩⟩
    · simp [Value.cells] at hcs
      obtain ⟨rfl, rfl, rfl⟩ := hcs
      exact ⟨zs, .inr ⟨_, rfl, hl, hm, by simpa using hz, hcell, hwz⟩⟩
  clear hA0 hval0
  refine (fnPaths_walk W (tab_of_laid hL) a0 len0 cap0 z0 w0).mono fun e W' ⟨he, bel⟩ => ?_
  subst he
  exact ⟨_, rfl, _, _, _, [], _, _, hW', trodAll_mk1 (shut_bool Tryd.underlying4 _), (trodAll_cons_mk (Below.trod laidOut (by kernel_rfl) (of_decide_eq_true (by kernel_rfl)) g0 bel lt0) trodAll_mk0), Below.trodVars laidOut bel (by kernel_rfl) hV, bel.frame _, fun h => by cases h⟩

theorem fnPaths_row : Rows.FnPathsSaid :=
  OpenClaim.holds_of_wide 3 Tryd.f3 rfl rfl rfl rfl rfl rfl rfl ⟨rfl, rfl, rfl, rfl, rfl⟩ rfl rfl rfl rfl rfl (by kernel_rfl) Tryd.func3 (by kernel_rfl)
    (of_decide_eq_true (by kernel_rfl)) (by unfold Func.isWrapper; first | (rw [if_pos (by decide +kernel)]; kernel_rfl) | (rw [if_neg (by decide +kernel)]; exact ⟨rfl, rfl⟩))
    (fun os started H enc _ => fnPaths_lifted os started H enc)

theorem fnPaths_holds : Rows.FnPathsCardSaid :=
  Claim7.holds_tied_plain_at .later [] [.data] true Rows.fnPathsCard.stood.harness false
    fnPaths_row (fun _ h => by cases h) (by kernel_rfl) (fun _ h => by cases h) fnPaths_row_tie rfl ⟨rfl, rfl⟩ (by kernel_rfl) rfl
    (fun f fn hf hfn => by
      obtain rfl : f = 3 := Option.some.inj ((show Tryd.prog.funcNamed "loop.example/g00565/laws.FnPaths" = some 3 by kernel_rfl).symm.trans hf) |>.symm
      obtain rfl : fn = Tryd.f3 := (Option.some.inj (Tryd.func3.symm.trans hfn)).symm
      exact ⟨by kernel_rfl, fun j t ht => by
        rw [Tryd.params3] at ht
        have h3 : t = 22 := by
          match j, ht with
          | 0, ht => simp at ht; simp [← ht]
          | _ + 1, ht => simp at ht
        rcases h3 with rfl
        all_goals exact (show Tryd.prog.wantsStandIn _ = false by kernel_rfl)⟩)
    (by kernel_rfl)
#print axioms fnPaths_holds
end Go.Proofs.YtkjhcblfkpknlaaDoor
