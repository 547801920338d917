/- At every code the law on maps of slots holds: of each key it is shown what it has, or that it has nothing; the table that begins pieces starts as the program's text lays it. -/
import Derived.Test.YtjjddjohckcmbaaDoorMpsP
import Derived.Test.YtjjddjohckcmbaaDoorSDd
import Derived.Test.YtjjddjohckcmbaaDoorIAcS
import Derived.Test.YtjjddjohckcmbaaDoorIPath7
import Derived.Test.YtjjddjohckcmbaaDoorIFind
import Derived.Test.YtjjddjohckcmbaaDoorBig
import Derived.Test.YtjjddjohckcmbaaDoorMoves
import Derived.Test.YtjjddjohckcmbaaDoorRegB
import Derived.Deep.DeepCutAuto
import Derived.Deep.RegionWith
import Derived.Deep.RegionHeld3
import Derived.Test.YtjjddjohckcmbaaDoorDoor
namespace Go.Proofs.YtjjddjohckcmbaaDoor
open Go.ChangeShapes Go.WideShapes Go.ChangeAt Go.RowKit
set_option linter.unusedVariables false
set_option linter.unusedSimpArgs false

set_option maxRecDepth 100000 in
set_option maxHeartbeats 16000000 in
theorem fnMaps_walk (w : World) (hT : Tab w) (a0 : Option Addr) (len0 cap0 : Nat) (z0 : List Int) (w0 : IsRow .u8 w a0 len0 cap0 z0) :
    Calls Tryd.prog 3 #[.slice a0 len0 cap0] w fun e w' => e = .returned (.bool true) ∧ Below w.heap.size w w' := by
  have A0 := Has.of_row w0
  have hlen := A0.1
  generalize z0.take len0 = zs at A0 hlen
  subst hlen
  clear w0
  by_cases hbig : 1048576 < zs.length
  case pos =>
    go_enter Tryd.func3, Tryd.ntmps3
    go_wp2_with fail
    refine (lwBig_yes _ a0 _ cap0 hbig).mono ?_
    rintro r u ⟨rfl, rfl⟩
    go_wp2
    go_ret
    exact ⟨rfl, Below.refl _ _⟩
  have hsm : zs.length ≤ 1048576 := by omega
  have FA : Hid (∀ wx : World, Below w.heap.size w wx → Has wx .u8 a0 zs.length zs ∧ Tab wx) := fun wx h => ⟨A0.below h (Nat.le_refl _), hT.below h (Nat.le_refl _)⟩
  clear hT hbig A0
  go_enter Tryd.func3, Tryd.ntmps3
  go_wp2_with fail
  refine (lwBig_no _ a0 _ cap0 hsm).mono ?_
  rintro r u ⟨rfl, hu⟩
  have hu2 := hu.symm
  subst hu2
  clear hu
  go_wp2_with fail
  refine (drawMapPath_any _ a0 _ cap0 zs (FA.out _ (Below.refl _ _)).1 hsm).mono ?_
  rintro e u1 ⟨a1, c1, l, k, rfl, l13, kb, HL, hb1⟩
  go_wp2_with fail
  refine (implMapPath_any a1 c1 l k _ (FA.out _ hb1).2 HL (by omega)).mono ?_
  rintro r u2 ⟨pa, pc, rfl, OP, hb2⟩
  have B2 := hb1.trans (hb2.mono hb1.size)
  replace HL := HL.below hb2 (Nat.le_refl _)
  have HP := has_of_own OP (mpL_wf l k).2
  obtain ⟨U, hU⟩ : ∃ U, U = u2.alloc (.cells #[.int .i64 (mpF l k), .slice pa (mpL l k).length pc] 29) := ⟨_, rfl⟩
  obtain ⟨V1, hV1⟩ : ∃ V, V = u2.heap.size := ⟨_, rfl⟩
  have SV1 : Blk U V1 #[.int .i64 (mpF l k), .slice pa (mpL l k).length pc] 29 := by rw [hU, hV1]; exact Blk.new _ _ _
  have bU : Below u2.heap.size u2 U := by rw [hU]; exact (Below.refl _ _).alloc (Nat.le_refl _) _
  have BU := B2.trans (bU.mono B2.size)
  replace HL := HL.below bU (Nat.le_refl _)
  replace HP := HP.below bU (Nat.le_refl _)
  clear hb1 hb2 OP bU B2
  go_wp2_with fail
  simp only [← hU, ← hV1]
  clear hU hV1
  refine (drawClimbSlot_any _ a0 _ cap0 zs (FA.out _ BU).1 hsm).mono ?_
  rintro e u3 ⟨k2, t2, v2, a3, c3, p2, rfl, q2, H2, hb3⟩
  have B3 := BU.trans (hb3.mono BU.size)
  replace SV1 := SV1.below hb3 SV1.lt
  replace HL := HL.below hb3 (Nat.le_refl _)
  replace HP := HP.below hb3 (Nat.le_refl _)
  clear hb3 BU
  go_wp2_with fail
  refine (implClimbSlot_any k2 v2 t2 a3 c3 p2 _ (FA.out _ B3).2 H2 (by omega)).mono ?_
  rintro r u4 ⟨rfl, hb4⟩
  have B4 := B3.trans (hb4.mono B3.size)
  replace SV1 := SV1.below hb4 SV1.lt
  replace HL := HL.below hb4 (Nat.le_refl _)
  replace HP := HP.below hb4 (Nat.le_refl _)
  replace H2 := H2.below hb4 (Nat.le_refl _)
  obtain ⟨U', hU⟩ : ∃ U, U = u4.alloc (.cells #[.int .i64 (clF k2 t2 v2 p2), .int .i64 (clW k2 t2 v2 p2)] 34) := ⟨_, rfl⟩
  obtain ⟨V2, hV2⟩ : ∃ V, V = u4.heap.size := ⟨_, rfl⟩
  have SV2 : Blk U' V2 #[.int .i64 (clF k2 t2 v2 p2), .int .i64 (clW k2 t2 v2 p2)] 34 := by rw [hU, hV2]; exact Blk.new _ _ _
  have bU : Below u4.heap.size u4 U' := by rw [hU]; exact (Below.refl _ _).alloc (Nat.le_refl _) _
  have BU := B4.trans (bU.mono B4.size)
  replace SV1 := SV1.below bU SV1.lt
  replace HL := HL.below bU (Nat.le_refl _)
  replace HP := HP.below bU (Nat.le_refl _)
  replace H2 := H2.below bU (Nat.le_refl _)
  clear hb4 bU B4 B3
  go_wp2_with fail
  simp only [← hU, ← hV2]
  clear hU hV2
  refine (drawAcceptSlot_any _ a0 _ cap0 zs (FA.out _ BU).1 hsm).mono ?_
  rintro e Z ⟨k3, t3, v3, a4, c4, p3, r3, rfl, q3, H3, hb5⟩
  have BZ := BU.trans (hb5.mono BU.size)
  replace SV1 := SV1.below hb5 SV1.lt
  replace SV2 := SV2.below hb5 SV2.lt
  replace HL := HL.below hb5 (Nat.le_refl _)
  replace HP := HP.below hb5 (Nat.le_refl _)
  replace H2 := H2.below hb5 (Nat.le_refl _)
  have TZ := (FA.out _ BZ).2
  clear hb5 BU
  have SC : Hid (∀ u : World, Below Z.heap.size Z u → Calls Tryd.prog 16 #[.int .i64 k2, .bool t2, .int .i64 v2, .slice a3 p2.length c3] u fun r w' => r = .returned (.agg #[.int .i64 (clF k2 t2 v2 p2), .int .i64 (clW k2 t2 v2 p2)]) ∧ Below u.heap.size u w') := fun u h => specClimbSlot_any k2 v2 t2 a3 c3 p2 u (H2.below h (Nat.le_refl _)) (by omega)
  have IA : Hid (∀ u : World, Below Z.heap.size Z u → Calls Tryd.prog 17 #[.int .i64 k3, .bool t3, .int .i64 v3, .slice a4 p3.length c4, .int .i64 r3] u fun r w' => r = .returned (.bool (decide (clF k3 t3 v3 p3 = 0 ∧ clW k3 t3 v3 p3 = r3))) ∧ Below u.heap.size u w') := fun u h => implAcceptSlot_any k3 v3 t3 a4 c4 p3 r3 u (TZ.below h (Nat.le_refl _)) (H3.below h (Nat.le_refl _)) (by omega)
  have SA : Hid (∀ u : World, Below Z.heap.size Z u → Calls Tryd.prog 18 #[.int .i64 k3, .bool t3, .int .i64 v3, .slice a4 p3.length c4, .int .i64 r3] u fun r w' => r = .returned (.bool (decide (clF k3 t3 v3 p3 = 0 ∧ clW k3 t3 v3 p3 = r3))) ∧ Below u.heap.size u w') := fun u h => specAcceptSlot_any k3 v3 t3 a4 c4 p3 r3 u (H3.below h (Nat.le_refl _)) (by omega)
  have MS : Hid (∀ u : World, Below Z.heap.size Z u → Calls Tryd.prog 19 #[.slice a1 l.length c1, .int .i64 k] u fun r w' => ∃ a2 c2, r = .returned (.agg #[.int .i64 (mpF l k), .slice a2 (mpL l k).length c2]) ∧ Below u.heap.size u w') := fun u h => (specMapPath_any a1 c1 l k u (HL.below h (Nat.le_refl _)) (by omega)).mono fun r w' ⟨a2, c2, e, _, hb⟩ => ⟨a2, c2, e, hb⟩
  have FI : Hid (∀ u : World, Below Z.heap.size Z u → Calls Tryd.prog 20 #[.slice a1 l.length c1] u fun r w' => r = .returned (.int .i64 (slF l)) ∧ Below u.heap.size u w') := fun u h => implSlotsFault_any a1 c1 l u (HL.below h (Nat.le_refl _)) (by omega)
  have FS : Hid (∀ u : World, Below Z.heap.size Z u → Calls Tryd.prog 21 #[.slice a1 l.length c1] u fun r w' => r = .returned (.int .i64 (slF l)) ∧ Below u.heap.size u w') := fun u h => specSlotsFault_any a1 c1 l u (HL.below h (Nat.le_refl _)) (by omega)
  have DI : Hid (∀ u : World, Below Z.heap.size Z u → Calls Tryd.prog 22 #[.slice a1 l.length c1, .int .i64 k] u fun r w' => r = .returned (.agg #[.int .i64 (fdC l k), .int .i64 (fdV l k)]) ∧ Below u.heap.size u w') := fun u h => implFindSlot_any a1 c1 l k u (HL.below h (Nat.le_refl _)) (by omega) (WalkArith.wf_i64 (by omega))
  have DS : Hid (∀ u : World, Below Z.heap.size Z u → Calls Tryd.prog 25 #[.slice a1 l.length c1, .int .i64 k] u fun r w' => r = .returned (.agg #[.int .i64 (fdC l k), .int .i64 (fdV l k)]) ∧ Below u.heap.size u w') := fun u h => specFindSlot_any a1 c1 l k u (HL.below h (Nat.le_refl _)) (by omega)
  have RI : Hid (∀ u : World, Below Z.heap.size Z u → Calls Tryd.prog 23 #[.slice a1 l.length c1] u fun r w' => r = .returned (.agg #[.int .i64 (slF l), .int .i64 (mrV l)]) ∧ Below u.heap.size u w') := fun u h => implMapRoot_any a1 c1 l u (TZ.below h (Nat.le_refl _)) (HL.below h (Nat.le_refl _)) (by omega)
  have RS : Hid (∀ u : World, Below Z.heap.size Z u → Calls Tryd.prog 24 #[.slice a1 l.length c1] u fun r w' => r = .returned (.agg #[.int .i64 (slF l), .int .i64 (mrV l)]) ∧ Below u.heap.size u w') := fun u h => specMapRoot_any a1 c1 l u (HL.below h (Nat.le_refl _)) (by omega)
  have AL : Hid (mpF l k = 0 → ∀ u : World, Below Z.heap.size Z u → Calls Tryd.prog 17 #[.int .i64 k, .bool (fdC l k == 0), .int .i64 (fdV l k), .slice pa (mpL l k).length pc, .int .i64 (mrV l)] u fun r w' => r = .returned (.bool true) ∧ Below u.heap.size u w') := fun e u h => by
    have := implAcceptSlot_any k (fdV l k) (fdC l k == 0) pa pc (mpL l k) (mrV l) u (TZ.below h (Nat.le_refl _)) (HP.below h (Nat.le_refl _)) (mpL_wf l k).1
    rw [maps_ok e] at this
    exact this
  have Z0 : Hid (mpF l k = 0 → slF l = 0 ∧ (mpL l k).length = 6) := fun e => ⟨(mpF_zero e).1, mpL_six e⟩
  generalize clF k2 t2 v2 p2 = cf at *
  generalize clW k2 t2 v2 p2 = cw at *
  generalize decide (clF k3 t3 v3 p3 = 0 ∧ clW k3 t3 v3 p3 = r3) = kk at *
  generalize mpF l k = mf at *
  generalize (mpL l k).length = ml at *
  generalize slF l = sf at *
  generalize fdC l k = fc at *
  generalize fdV l k = fv at *
  generalize mrV l = mv at *
  have BZH : Hid (Below w.heap.size w Z) := BZ
  have q4 : (cf != cf) = false := by simp
  have q5 : (cw != cw) = false := by simp
  have q6 : (kk != kk) = false := by simp
  have hf0 := fldM0
  have hf1 := fldM1
  have VL1 := SV1.lt
  have VL2 := SV2.lt
  have SH1 : Hid (Blk Z V1 #[.int .i64 mf, .slice pa ml pc] 29) := SV1
  have p0 := SV2.cell 0
  have p1 := SV2.cell 1
  simp at p0 p1
  clear TZ HL HP H2 H3 BZ l13 kb q2 q3 SV1 SV2
  go_wp2_with fail
  go_cut [82] (fun s82 wx => s82 = .bool false ∧ Below Z.heap.size Z wx)
  case first =>
    have hne : Nonempty (KeptW Z) := ⟨⟨Z, Below.refl _ _⟩⟩
    have KB : Hid (∀ d : KeptW Z, Below Z.heap.size Z d.wd) := fun d => d.hb
    have K3 := KeptW.cell p0 VL2
    have K4 := KeptW.cell p1 VL2
    clear p0 p1
    refine wp_region_kept (by kernel_rfl) (by kernel_rfl) ?_
    try simp only [List.append_eq, List.cons_append, List.nil_append]
    iterate 35 (go_big_quiet_step (first | (go_at_call 16; exact KeptW.calls (SC.out _ (KB.out _))) | (go_at_call 17; exact KeptW.calls (IA.out _ (KB.out _))) | (go_at_call 18; exact KeptW.calls (SA.out _ (KB.out _)))))
    refine wpQuiet_nil ?_
    rintro _ ⟨d1, rfl⟩
    go_wp2_with fail
    go_meet
    exact ⟨rfl, d1.hb⟩
  case rest =>
    obtain ⟨rfl, hcb⟩ := hcut
    generalize wc = X at *
    have BX : Below w.heap.size w X := BZH.out.trans (hcb.mono BZH.out.size)
    have SX := SH1.out.below hcb VL1
    have m0 : X.cell? ⟨V1, 0, none⟩ = some (.int .i64 mf) := (SX.cell 0).trans rfl
    have m1 : X.cell? ⟨V1, 1, none⟩ = some (.slice pa ml pc) := (SX.cell 1).trans rfl
    have VX := SX.lt
    have XE : Hid (∀ u : World, Below X.heap.size X u → Below Z.heap.size Z u) := fun u hu => hcb.trans (hu.mono hcb.size)
    have WX : Hid (∀ u : World, Below X.heap.size X u → Below w.heap.size w u) := fun u hu => BX.trans (hu.mono BX.size)
    clear SC IA SA q4 q5 q6 p0 p1 VL1 VL2 BZH SH1 SX BX hcb
    by_cases hm : mf = 0
    case neg =>
      have hmb : (mf != 0) = true := by simpa using hm
      have hmm : (mf == mf) = true := by simp
      have hss : (sf == sf) = true := by simp
      have FQ := fldM2
      have d0 : ∀ wx : World, Below X.heap.size X wx → wx.cell? ⟨V1, 0, none⟩ = some (.int .i64 mf) := fun wx h => (h.cell (p := ⟨V1, 0, none⟩) VX).trans m0
      have DE : Below X.heap.size X X.drew := (Below.refl _ _).drew
      clear AL Z0 hm m1 DI DS RI RS
      go_wp2_with fail
      go_region_held3 (fun wx => Below X.heap.size X wx)
        ((first | exact DE | exact D1 | assumption))
        ((first | (go_at_call 19; refine (MS.out _ (XE.out _ (by assumption))).mono ?_; rintro _ ua ⟨j1, j2, rfl, hba⟩; have D1 : Below X.heap.size X ua := Below.trans (by assumption) (hba.mono (Below.size (by assumption)))) | (go_at_call 20; refine (FI.out _ (XE.out _ (by assumption))).mono ?_; rintro _ ua ⟨rfl, hba⟩; have D1 : Below X.heap.size X ua := Below.trans (by assumption) (hba.mono (Below.size (by assumption)))) | (go_at_call 21; refine (FS.out _ (XE.out _ (by assumption))).mono ?_; rintro _ ua ⟨rfl, hba⟩; have D1 : Below X.heap.size X ua := Below.trans (by assumption) (hba.mono (Below.size (by assumption)))) | fail))
      go_wp2
      go_ret
      exact ⟨by first | rfl | simp, WX.out _ D1⟩
    case pos =>
      obtain ⟨s0, m6⟩ := Z0.out hm
      have ALC := AL.out hm
      have ALH : Hid (∀ u : World, Below Z.heap.size Z u → Calls Tryd.prog 17 #[.int .i64 k, .bool (fc == 0), .int .i64 fv, .slice pa ml pc, .int .i64 mv] u fun r w' => r = .returned (.bool true) ∧ Below u.heap.size u w') := ALC
      subst hm s0 m6
      clear ALC AL Z0 MS FI FS
      go_wp2_with fail
      refine (DI.out _ (XE.out _ (Below.refl _ _))).mono ?_
      rintro r u5 ⟨rfl, hb5⟩
      obtain ⟨Y, hY⟩ : ∃ Y, Y = u5.alloc (.cells #[.int .i64 fc, .int .i64 fv] 34) := ⟨_, rfl⟩
      obtain ⟨V3, hV3⟩ : ∃ V, V = u5.heap.size := ⟨_, rfl⟩
      have SV3 : Blk Y V3 #[.int .i64 fc, .int .i64 fv] 34 := by rw [hY, hV3]; exact Blk.new _ _ _
      have BY : Below X.heap.size X Y := by rw [hY]; exact hb5.alloc hb5.size _
      clear hb5
      go_wp2_with fail
      simp only [← hY, ← hV3]
      clear hY hV3
      refine (RI.out _ (XE.out _ BY)).mono ?_
      rintro r u6 ⟨rfl, hb6⟩
      have B6 := BY.trans (hb6.mono BY.size)
      replace SV3 := SV3.below hb6 SV3.lt
      obtain ⟨T, hT⟩ : ∃ Y, Y = u6.alloc (.cells #[.int .i64 0, .int .i64 mv] 34) := ⟨_, rfl⟩
      obtain ⟨V4, hV4⟩ : ∃ V, V = u6.heap.size := ⟨_, rfl⟩
      have SV4 : Blk T V4 #[.int .i64 0, .int .i64 mv] 34 := by rw [hT, hV4]; exact Blk.new _ _ _
      have BT : Below X.heap.size X T := by rw [hT]; exact B6.alloc B6.size _
      have bT : Below u6.heap.size u6 T := by rw [hT]; exact (Below.refl _ _).alloc (Nat.le_refl _) _
      replace SV3 := SV3.below bT SV3.lt
      have n0 := (BT.cell (p := ⟨V1, 0, none⟩) VX).trans m0
      have n1 := (BT.cell (p := ⟨V1, 1, none⟩) VX).trans m1
      have VT := Nat.lt_of_lt_of_le VX BT.size
      have VL3 := SV3.lt
      have VL4 := SV4.lt
      have x0 : T.cell? ⟨V3, 0, none⟩ = some (.int .i64 fc) := (SV3.cell 0).trans rfl
      have x1 : T.cell? ⟨V3, 1, none⟩ = some (.int .i64 fv) := (SV3.cell 1).trans rfl
      have y0 : T.cell? ⟨V4, 0, none⟩ = some (.int .i64 0) := (SV4.cell 0).trans rfl
      have y1 : T.cell? ⟨V4, 1, none⟩ = some (.int .i64 mv) := (SV4.cell 1).trans rfl
      have hfc : (fc == fc) = true := by simp
      have hmv : (mv == mv) = true := by simp
      have BTH : Hid (Below X.heap.size X T) := BT
      clear hb6 B6 bT SV3 SV4 BY BT m0 m1 VX
      go_wp2_with fail
      simp only [← hT, ← hV4]
      clear hT hV4
      have hne : Nonempty (KeptW T) := ⟨⟨T, Below.refl _ _⟩⟩
      have KB : Hid (∀ d : KeptW T, Below Z.heap.size Z d.wd) := fun d => XE.out _ (BTH.out.trans (d.hb.mono BTH.out.size))
      have K1 := KeptW.cell n1 VT
      have K3 := KeptW.cell x0 VL3
      have K4 := KeptW.cell x1 VL3
      have K5 := KeptW.cell y0 VL4
      have K6 := KeptW.cell y1 VL4
      clear n0 n1 x0 x1 y0 y1
      go_wp2_with fail
      refine wp_region_kept (by kernel_rfl) (by kernel_rfl) ?_
      try simp only [List.append_eq, List.cons_append, List.nil_append]
      iterate 40 (go_big_quiet_step (first | (go_at_call 17; exact KeptW.calls (ALH.out _ (KB.out _))) | (go_at_call 24; exact KeptW.calls (RS.out _ (KB.out _))) | (go_at_call 25; exact KeptW.calls (DS.out _ (KB.out _)))))
      refine wpQuiet_nil ?_
      rintro _ ⟨d1, rfl⟩
      go_wp2
      go_ret
      exact ⟨by first | rfl | simp, WX.out _ (BTH.out.trans (d1.hb.mono BTH.out.size))⟩

set_option maxRecDepth 100000 in
theorem fnMaps_lifted (os : Os) (started : os.Started) (H : Type) (enc : TypeId × Value → H) :
    ReturnsInHanded {} Tryd.checked os 3 .any (fun w args => (Rows.fnMapsSpec.pre enc Tryd.prog Tryd.f3 [] false w args ∧ laidMetH Tryd.prog [("loop.example/g00565/impl.pieceStarts", Rows.laid_loop_example_g00565_impl_pieceStarts)] w) ∧ sizedMet enc Tryd.prog Tryd.f3 (OpenSpec.ofChange Rows.fnMapsSpec) false w args) (Rows.fnMapsSpec.post enc Tryd.prog Tryd.f3 false true false false) := by
  refine returnsInHanded_of_change_and (C := Tryd.checked) (X := fun w _ => laidMetH Tryd.prog [("loop.example/g00565/impl.pieceStarts", Rows.laid_loop_example_g00565_impl_pieceStarts)] w) (fun _ _ _ hh h => h.of_heap hh) own started (by kernel_rfl) Tryd.func3
    (ChangeSpec.witness_shaped (enc := enc) (C := Tryd.checked) (os := os) (X := fun w _ => laidMetH Tryd.prog [("loop.example/g00565/impl.pieceStarts", Rows.laid_loop_example_g00565_impl_pieceStarts)] w) false (World.doorLaid Tryd.prog 400 os) #[.slice none 0 0] 8 rfl (World.shaped_of_RefB (by kernel_rfl) (by kernel_rfl)) (by kernel_rfl) (by kernel_rfl) (by kernel_rfl) (door_met os _)) ?_
  intro W base args ds gs before hval0 hW _ _ hL _
  have hval : ∀ (j : Nat) t v, Tryd.f3.params[j]? = some t → args[j]? = some v → Value.okWide Tryd.prog W .any base t v := hval0
  have hW' := hW
  obtain ⟨p, q, hA0, hV, rfl, hfz, hnd⟩ := hW
  have hA : DataW.TrodAll enc Tryd.prog W 0 (fun _ => true) true Tryd.f3.params.toList args.toList ds p := hA0
  rw [Tryd.params3] at hA hval
  obtain ⟨v0, vs0, d0, ds0, p0, q0, hargs, rfl, rfl, h0, r0⟩ := trodAll_cons hA
  obtain ⟨rfl, rfl, rfl⟩ := trodAll_nil r0
  obtain rfl : args = #[v0] := by cases args; simp_all
  obtain ⟨g, rfl⟩ : ∃ g, gs = [g] := by obtain ⟨_, _, _, _, d, _, e, _⟩ := trodVars_one hV; exact ⟨d, e⟩
  have g0 := h0
  have lt0 : ∀ x ∈ p0, x.block < W.heap.size := by obtain ⟨m, hm⟩ := g0; exact DataW.trod_lt m _ _ _ hm
  obtain ⟨a0, len0, cap0, rfl⟩ := okWide_slice Tryd.underlying22 (hval 0 22 v0 rfl rfl)
  obtain ⟨z0, w0⟩ : ∃ zs, IsRow .u8 W a0 len0 cap0 zs := by
    obtain ⟨fuel, hf⟩ := h0
    rcases open_ints Tryd.underlying22 Tryd.underlying5 (by kernel_rfl) hf with ⟨hcs, _⟩ | ⟨x, l, c, zs, hcs, _, hl, hm, hz, _, hcell, hwz⟩
    · simp [Value.cells] at hcs
      obtain ⟨rfl, rfl, rfl⟩ := hcs
      exact ⟨[], .inl ⟨rfl, rfl, rfl, rfl⟩⟩
    · simp [Value.cells] at hcs
      obtain ⟨rfl, rfl, rfl⟩ := hcs
      exact ⟨zs, .inr ⟨_, rfl, hl, hm, by simpa using hz, hcell, hwz⟩⟩
  clear hA0 hval0
  refine (fnMaps_walk W (tab_of_laid hL) a0 len0 cap0 z0 w0).mono fun e W' ⟨he, bel⟩ => ?_
  subst he
  exact ⟨_, rfl, _, _, _, [], _, _, hW', trodAll_mk1 (shut_bool Tryd.underlying4 _), (trodAll_cons_mk (Below.trod laidOut (by kernel_rfl) (of_decide_eq_true (by kernel_rfl)) g0 bel lt0) trodAll_mk0), Below.trodVars laidOut bel (by kernel_rfl) hV, bel.frame _, fun h => by cases h⟩

theorem fnMaps_row : Rows.FnMapsSaid :=
  OpenClaim.holds_of_wide 3 Tryd.f3 rfl rfl rfl rfl rfl rfl rfl ⟨rfl, rfl, rfl, rfl, rfl⟩ rfl rfl rfl rfl rfl (by kernel_rfl) Tryd.func3 (by kernel_rfl)
    (of_decide_eq_true (by kernel_rfl)) (by unfold Func.isWrapper; first | (rw [if_pos (by decide +kernel)]; kernel_rfl) | (rw [if_neg (by decide +kernel)]; exact ⟨rfl, rfl⟩))
    (fun os started H enc _ => fnMaps_lifted os started H enc)

theorem fnMaps_holds : Rows.FnMapsCardSaid :=
  Claim7.holds_tied_plain_at .later [] [.data] true Rows.fnMapsCard.stood.harness Rows.fnMapsCard.stood.looks
    fnMaps_row (fun _ h => by cases h) (by kernel_rfl) (fun _ h => by cases h) fnMaps_row_tie rfl ⟨rfl, rfl⟩ (by kernel_rfl) rfl
    (fun f fn hf hfn => by
      obtain rfl : f = 3 := Option.some.inj ((show Tryd.prog.funcNamed "loop.example/g00565/laws.FnMaps" = some 3 by kernel_rfl).symm.trans hf) |>.symm
      obtain rfl : fn = Tryd.f3 := (Option.some.inj (Tryd.func3.symm.trans hfn)).symm
      exact ⟨by kernel_rfl, fun j t ht => by
        rw [Tryd.params3] at ht
        have h3 : t = 22 := by
          match j, ht with
          | 0, ht => simp at ht; simp [← ht]
          | _ + 1, ht => simp at ht
        rcases h3 with rfl
        all_goals exact (show Tryd.prog.wantsStandIn _ = false by kernel_rfl)⟩)
    (by kernel_rfl)
#print axioms fnMaps_holds
end Go.Proofs.YtjjddjohckcmbaaDoor
