/- At every code the law on signatures holds: what is shown are the secrets of the bits of what is signed, and the others' public numbers; the table that begins pieces starts as the program's text lays it. -/
import Derived.Test.YtncckpdglimdoaaDoorKyBo
import Derived.Test.YtncckpdglimdoaaDoorKyBc
import Derived.Test.YtncckpdglimdoaaDoorKyV
import Derived.Test.YtncckpdglimdoaaDoorKyC
import Derived.Test.YtncckpdglimdoaaDoorKyU
import Derived.Test.YtncckpdglimdoaaDoorKyOp
import Derived.Test.YtncckpdglimdoaaDoorKySr
import Derived.Test.YtncckpdglimdoaaDoorKyX
import Derived.Test.YtncckpdglimdoaaDoorKyR
import Derived.Test.YtncckpdglimdoaaDoorBig
import Derived.Test.YtncckpdglimdoaaDoorMoves
import Derived.Test.YtncckpdglimdoaaDoorRegB
import Derived.Test.YtncckpdglimdoaaDoorPathsP
import Derived.Deep.DeepCutAuto
import Derived.Deep.RegionWith
import Derived.Deep.RegionHeld3
import Derived.Test.YtncckpdglimdoaaDoorDoor
namespace Go.Proofs.YtncckpdglimdoaaDoor
open Go.ChangeShapes Go.WideShapes Go.ChangeAt Go.RowKit
set_option linter.unusedVariables false
set_option linter.unusedSimpArgs false

set_option maxRecDepth 100000 in
set_option maxHeartbeats 16000000 in
theorem fnSigns_walk (w : World) (hT : Tab w) (a0 : Option Addr) (len0 cap0 : Nat) (z0 : List Int) (w0 : IsRow .u8 w a0 len0 cap0 z0) :
    Calls Tryd.prog 4 #[.slice a0 len0 cap0] w fun e w' => e = .returned (.bool true) ∧ Below w.heap.size w w' := by
  have A0 := Has.of_row w0
  have hlen := A0.1
  generalize z0.take len0 = zs at A0 hlen
  subst hlen
  clear w0
  by_cases hbig : 1048576 < zs.length
  case pos =>
    go_enter Tryd.func4, Tryd.ntmps4
    go_wp2_with fail
    refine (lwBig_yes _ a0 _ cap0 hbig).mono ?_
    rintro r u ⟨rfl, rfl⟩
    go_wp2
    go_ret
    exact ⟨rfl, Below.refl _ _⟩
  have hsm : zs.length ≤ 1048576 := by omega
  have FA : Hid (∀ wx : World, Below w.heap.size w wx → Has wx .u8 a0 zs.length zs ∧ Tab wx) := fun wx h => ⟨A0.below h (Nat.le_refl _), hT.below h (Nat.le_refl _)⟩
  clear hT hbig A0
  go_enter Tryd.func4, Tryd.ntmps4
  go_wp2_with fail
  refine (lwBig_no _ a0 _ cap0 hsm).mono ?_
  rintro r u ⟨rfl, hu⟩
  have hu2 := hu.symm
  subst hu2
  clear hu
  go_wp2_with fail
  refine (drawOpenSign_any _ a0 _ cap0 zs (FA.out _ (Below.refl _ _)).1 hsm).mono ?_
  rintro e u1 ⟨i1, a1, c1, sh1, a2, c2, ot1, x1, rfl, l1, l2, H1, H2, hb1⟩
  have B1 := hb1.alloc hb1.size (.cells #[.int .i64 i1, .slice a1 sh1.length c1, .slice a2 ot1.length c2] 28)
  obtain ⟨U, hU⟩ : ∃ U, U = u1.alloc (.cells #[.int .i64 i1, .slice a1 sh1.length c1, .slice a2 ot1.length c2] 28) := ⟨_, rfl⟩
  obtain ⟨V1, hV1⟩ : ∃ V, V = u1.heap.size := ⟨_, rfl⟩
  have SV1 : Blk U V1 #[.int .i64 i1, .slice a1 sh1.length c1, .slice a2 ot1.length c2] 28 := by rw [hU, hV1]; exact Blk.new _ _ _
  replace H1 : Has U .i64 a1 sh1.length sh1 := by rw [hU]; exact H1.alloc _
  replace H2 : Has U .i64 a2 ot1.length ot1 := by rw [hU]; exact H2.alloc _
  rw [← hU] at B1
  clear hb1
  go_wp2_with fail
  simp only [← hU, ← hV1]
  clear hU hV1
  refine (drawCheckSign_any _ a0 _ cap0 zs (FA.out _ B1).1 hsm).mono ?_
  rintro e u2 ⟨i2, a3, c3, sh2, a4, c4, ot2, x2, a5, c5, ps, rt, rfl, l3, l4, lp, pc1, pc2, H3, H4, HP, hb2⟩
  replace SV1 := SV1.below hb2 SV1.lt
  replace H1 := H1.below hb2 (Nat.le_refl _)
  replace H2 := H2.below hb2 (Nat.le_refl _)
  have B2 := (B1.trans (hb2.mono B1.size)).alloc (B1.trans (hb2.mono B1.size)).size (.cells #[.int .i64 i2, .slice a3 sh2.length c3, .slice a4 ot2.length c4] 28)
  obtain ⟨U', hU⟩ : ∃ U, U = u2.alloc (.cells #[.int .i64 i2, .slice a3 sh2.length c3, .slice a4 ot2.length c4] 28) := ⟨_, rfl⟩
  obtain ⟨V2, hV2⟩ : ∃ V, V = u2.heap.size := ⟨_, rfl⟩
  have SV2 : Blk U' V2 #[.int .i64 i2, .slice a3 sh2.length c3, .slice a4 ot2.length c4] 28 := by rw [hU, hV2]; exact Blk.new _ _ _
  have bb : Below u2.heap.size u2 U' := by rw [hU]; exact (Below.refl _ _).alloc (Nat.le_refl _) _
  replace SV1 := SV1.below bb SV1.lt
  replace H1 := H1.below bb (Nat.le_refl _)
  replace H2 := H2.below bb (Nat.le_refl _)
  replace H3 := H3.below bb (Nat.le_refl _)
  replace H4 := H4.below bb (Nat.le_refl _)
  replace HP := HP.below bb (Nat.le_refl _)
  rw [← hU] at B2
  clear hb2 bb B1
  go_wp2_with fail
  simp only [← hU, ← hV2]
  clear hU hV2
  refine (drawKeysRoot_any _ a0 _ cap0 zs (FA.out _ B2).1 hsm).mono ?_
  rintro e Z ⟨s3, n3, rfl, hb3⟩
  replace SV1 := SV1.below hb3 SV1.lt
  replace SV2 := SV2.below hb3 SV2.lt
  replace H1 := H1.below hb3 (Nat.le_refl _)
  replace H2 := H2.below hb3 (Nat.le_refl _)
  replace H3 := H3.below hb3 (Nat.le_refl _)
  replace H4 := H4.below hb3 (Nat.le_refl _)
  replace HP := HP.below hb3 (Nat.le_refl _)
  have BZ := B2.trans (hb3.mono B2.size)
  have TZ := (FA.out _ BZ).2
  clear hb3 B2
  have OI : Hid (∀ u : World, Below Z.heap.size Z u → Calls Tryd.prog 27 #[.agg #[.int .i64 i1, .slice a1 sh1.length c1, .slice a2 ot1.length c2], .int .i64 x1] u fun r w' => r = .returned (.agg #[.int .i64 (opC i1 sh1 ot1 x1), .int .i64 (opV i1 sh1 ot1 x1)]) ∧ Below u.heap.size u w') := fun u h => implOpenSign_any i1 x1 a1 a2 c1 c2 sh1 ot1 u (TZ.below h (Nat.le_refl _)) (H1.below h (Nat.le_refl _)) (H2.below h (Nat.le_refl _)) (by omega) (by omega)
  have OS : Hid (∀ u : World, Below Z.heap.size Z u → Calls Tryd.prog 34 #[.agg #[.int .i64 i1, .slice a1 sh1.length c1, .slice a2 ot1.length c2], .int .i64 x1] u fun r w' => r = .returned (.agg #[.int .i64 (opC i1 sh1 ot1 x1), .int .i64 (opV i1 sh1 ot1 x1)]) ∧ Below u.heap.size u w') := fun u h => specOpenSign_any i1 x1 a1 a2 c1 c2 sh1 ot1 u (H1.below h (Nat.le_refl _)) (H2.below h (Nat.le_refl _)) (by omega) (by omega)
  have CI : Hid (∀ u : World, Below Z.heap.size Z u → Calls Tryd.prog 29 #[.agg #[.int .i64 i2, .slice a3 sh2.length c3, .slice a4 ot2.length c4], .int .i64 x2, .int .i64 5, .slice a5 ps.length c5, .int .i64 rt] u fun r w' => r = .returned (.bool (ckB i2 sh2 ot2 x2 5 ps rt)) ∧ Below u.heap.size u w') := fun u h => implCheckSign_any i2 x2 5 rt a3 a4 a5 c3 c4 c5 sh2 ot2 ps u (TZ.below h (Nat.le_refl _)) (H3.below h (Nat.le_refl _)) (H4.below h (Nat.le_refl _)) (HP.below h (Nat.le_refl _)) (by omega) (by omega) (by omega) pc1 pc2
  have CS : Hid (∀ u : World, Below Z.heap.size Z u → Calls Tryd.prog 35 #[.agg #[.int .i64 i2, .slice a3 sh2.length c3, .slice a4 ot2.length c4], .int .i64 x2, .int .i64 5, .slice a5 ps.length c5, .int .i64 rt] u fun r w' => r = .returned (.bool (ckB i2 sh2 ot2 x2 5 ps rt)) ∧ Below u.heap.size u w') := fun u h => specCheckSign_any i2 x2 5 rt a3 a4 a5 c3 c4 c5 sh2 ot2 ps u (H3.below h (Nat.le_refl _)) (H4.below h (Nat.le_refl _)) (HP.below h (Nat.le_refl _)) (by omega) (by omega) (by omega) pc1 pc2 ⟨by omega, by omega⟩
  have KI : Hid (∀ u : World, Below Z.heap.size Z u → Calls Tryd.prog 30 #[.int .i64 s3, .int .i64 n3] u fun r w' => r = .returned (.agg #[.int .i64 (krC s3 n3), .int .i64 (krV s3 n3)]) ∧ Below u.heap.size u w') := fun u h => implKeysRoot_any s3 n3 u (TZ.below h (Nat.le_refl _))
  have KS : Hid (∀ u : World, Below Z.heap.size Z u → Calls Tryd.prog 36 #[.int .i64 s3, .int .i64 n3] u fun r w' => r = .returned (.agg #[.int .i64 (krC s3 n3), .int .i64 (krV s3 n3)]) ∧ Below u.heap.size u w') := fun u h => specKeysRoot_any s3 n3 u
  have FI : Hid (∀ u : World, Below Z.heap.size Z u → Calls Tryd.prog 28 #[.agg #[.int .i64 i1, .slice a1 sh1.length c1, .slice a2 ot1.length c2]] u fun r w' => r = .returned (.int .i64 (sgF i1 sh1 ot1)) ∧ Below u.heap.size u w') := fun u h => implSignFault_any i1 a1 a2 c1 c2 sh1 ot1 u (H1.below h (Nat.le_refl _)) (H2.below h (Nat.le_refl _)) (by omega) (by omega)
  have FS : Hid (∀ u : World, Below Z.heap.size Z u → Calls Tryd.prog 37 #[.agg #[.int .i64 i1, .slice a1 sh1.length c1, .slice a2 ot1.length c2]] u fun r w' => r = .returned (.int .i64 (sgF i1 sh1 ot1)) ∧ Below u.heap.size u w') := fun u h => specSignFault_any i1 a1 a2 c1 c2 sh1 ot1 u (H1.below h (Nat.le_refl _)) (H2.below h (Nat.le_refl _)) (by omega) (by omega)
  generalize opC i1 sh1 ot1 x1 = oc at *
  generalize opV i1 sh1 ot1 x1 = ov at *
  generalize ckB i2 sh2 ot2 x2 5 ps rt = kb at *
  generalize krC s3 n3 = kc at *
  generalize krV s3 n3 = kv at *
  generalize sgF i1 sh1 ot1 = fc at *
  have BZH : Hid (Below w.heap.size w Z) := BZ
  have q1 : (oc != oc) = false := by simp
  have q2 : (ov != ov) = false := by simp
  have q3 : (kb != kb) = false := by simp
  have q4 : (kc != kc) = false := by simp
  have q5 : (kv != kv) = false := by simp
  have q6 : (fc != fc) = false := by simp
  have hf0 := fldR0
  have hf1 := fldR1
  have VL1 := SV1.lt
  have VL2 := SV2.lt
  have m0 := SV1.cell 0
  have m1 := SV1.cell 1
  have m2 := SV1.cell 2
  have p0 := SV2.cell 0
  have p1 := SV2.cell 1
  have p2 := SV2.cell 2
  simp at m0 m1 m2 p0 p1 p2
  clear TZ H1 H2 H3 H4 HP BZ l1 l2 l3 l4 lp pc1 pc2 SV1 SV2
  go_wp2_with fail
  go_cut [101] (fun s101 wx => s101 = .bool false ∧ Below Z.heap.size Z wx)
  case first =>
    have hne : Nonempty (KeptW Z) := ⟨⟨Z, Below.refl _ _⟩⟩
    have KB : Hid (∀ d : KeptW Z, Below Z.heap.size Z d.wd) := fun d => d.hb
    have K0 := KeptW.cell m0 VL1
    have K1 := KeptW.cell m1 VL1
    have K2 := KeptW.cell m2 VL1
    have K3 := KeptW.cell p0 VL2
    have K4 := KeptW.cell p1 VL2
    have K5 := KeptW.cell p2 VL2
    clear m0 m1 m2 p0 p1 p2
    refine wp_region_kept (by kernel_rfl) (by kernel_rfl) ?_
    try simp only [List.append_eq, List.cons_append, List.nil_append]
    iterate 64 (go_big_quiet_step (first | (go_at_call 27; exact KeptW.calls (OI.out _ (KB.out _))) | (go_at_call 34; exact KeptW.calls (OS.out _ (KB.out _))) | (go_at_call 29; exact KeptW.calls (CI.out _ (KB.out _))) | (go_at_call 35; exact KeptW.calls (CS.out _ (KB.out _))) | (go_at_call 30; exact KeptW.calls (KI.out _ (KB.out _))) | (go_at_call 36; exact KeptW.calls (KS.out _ (KB.out _))) | (go_at_call 28; exact KeptW.calls (FI.out _ (KB.out _))) | (go_at_call 37; exact KeptW.calls (FS.out _ (KB.out _)))))
    refine wpQuiet_nil ?_
    rintro _ ⟨d1, rfl⟩
    go_wp2_with fail
    go_meet
    exact ⟨rfl, d1.hb⟩
  case rest =>
    obtain ⟨rfl, hcb⟩ := hcut
    generalize wc = X at *
    have BX : Below w.heap.size w X := BZH.out.trans (hcb.mono BZH.out.size)
    clear OI OS CI CS KI KS FI FS q1 q2 q3 q4 q5 q6 m0 m1 m2 p0 p1 p2 hcb VL1 VL2 BZH
    go_wp2_with fail
    refine (drawSignSum_any _ a0 _ cap0 zs (FA.out _ BX).1 hsm).mono ?_
    rintro e u5 ⟨s, i, x, rfl, hb5⟩
    have B5 := BX.trans (hb5.mono BX.size)
    clear hb5 BX
    go_wp2_with fail
    refine (implSignSum_any s i x _ (FA.out _ B5).2).mono ?_
    rintro r u6 ⟨a6, c6, a7, c7, rfl, O6, O7, _, hb6⟩
    have B6 := B5.trans (hb6.mono B5.size)
    have H6 := has_of_own O6 (ssS_ok s i x).2
    have H7 := has_of_own O7 (ssO_ok s i x).2
    by_cases hok : ssOk s i x = true
    case neg =>
      have e1 : ssC s i x = 3 := by unfold ssC; rw [if_neg hok]
      have e2 : ssI s i x = 0 := by unfold ssI; rw [if_neg hok]
      have e3 : ssS s i x = [] := by unfold ssS; rw [if_neg hok]
      have e4 : ssO s i x = [] := by unfold ssO; rw [if_neg hok]
      have SS : Hid (∀ u : World, Calls Tryd.prog 25 #[.int .i64 s, .int .i64 i, .int .i64 x] u fun r w' => ∃ a1 c1 a2 c2, r = .returned (.agg #[.int .i64 3, .int .i64 0, .slice a1 0 c1, .slice a2 0 c2]) ∧ Below u.heap.size u w') := fun u => by
        refine (specSignSum_any s i x u).mono ?_
        rw [e1, e2, e3, e4]
        rintro r w' ⟨b1, d1, b2, d2, rfl, _, _, _, hb⟩
        exact ⟨b1, d1, b2, d2, rfl, hb⟩
      rw [e1, e2, e3, e4]
      obtain ⟨Y, hY⟩ : ∃ Y, Y = u6.alloc (.cells #[.int .i64 3, .int .i64 0, .slice a6 0 c6, .slice a7 0 c7] 30) := ⟨_, rfl⟩
      obtain ⟨V3, hV3⟩ : ∃ V, V = u6.heap.size := ⟨_, rfl⟩
      have SV : Blk Y V3 #[.int .i64 3, .int .i64 0, .slice a6 0 c6, .slice a7 0 c7] 30 := by rw [hY, hV3]; exact Blk.new _ _ _
      have BY : Below w.heap.size w Y := by rw [hY]; exact B6.alloc B6.size _
      have BYH : Hid (Below w.heap.size w Y) := BY
      have m0 := SV.cell 0
      simp at m0
      have vl := SV.lt
      have FQ := fldG0
      clear O6 O7 H6 H7 e1 e2 e3 e4 hok B5 B6 hb6 BY
      go_wp2_with fail
      simp only [← hV3, ← hY]
      clear hY hV3
      go_wp2_with fail
      have D : Below Y.heap.size Y Y.drew := (Below.refl _ _).drew
      clear m0 vl
      refine wp_region_noPanic ?_
      refine wp_region_held_drew (S := fun u => Blk u V3 #[.int .i64 3, .int .i64 0, .slice a6 0 c6, .slice a7 0 c7] 30) (by kernel_rfl) (SV.below (Below.refl _ _).drew SV.lt) (fun hs => ?_)
      obtain ⟨XD, hXD⟩ := al_w D
      rw [← hXD] at hs D
      simp only [← hXD]
      clear hXD
      refine take_at (i := 0) (d := some 115) (v := ?mv1) rfl rfl (by kernel_rfl) (by kernel_rfl) (by kernel_rfl) (fun _ _ _ h => h) (Or.inl ⟨by rfl, ?my1⟩) hs ?mg1
      case my1 => (intro z hSz; (have o0 := hSz.cell 0; have o1 := hSz.lt; simp at o0); go_simp; (try with_reducible rfl))
      try simp only [Act.put, List.setIfInBounds_toArray, List.set_cons_zero, List.set_cons_succ]
      refine take_at (i := 1) (d := some 116) (v := ?mv2) rfl rfl (by kernel_rfl) (by kernel_rfl) (by kernel_rfl) (fun _ _ _ h => h) (Or.inl ⟨by rfl, ?my2⟩) hs ?mg2
      case my2 => (intro z hSz; (have o0 := hSz.cell 0; have o1 := hSz.lt; simp at o0); go_simp; (try with_reducible rfl))
      try simp only [Act.put, List.setIfInBounds_toArray, List.set_cons_zero, List.set_cons_succ]
      refine take_at (i := 2) (d := some 117) (v := ?mv3) rfl rfl (by kernel_rfl) (by kernel_rfl) (by kernel_rfl) (fun _ _ _ h => h) (Or.inl ⟨by rfl, ?my3⟩) hs ?mg3
      case my3 => (intro z hSz; (have o0 := hSz.cell 0; have o1 := hSz.lt; simp at o0); go_simp; (try with_reducible rfl))
      try simp only [Act.put, List.setIfInBounds_toArray, List.set_cons_zero, List.set_cons_succ]
      refine take_at (i := 5) (d := some 120) (v := ?mv4) rfl rfl (by kernel_rfl) (by kernel_rfl) (by kernel_rfl) (fun _ _ _ h => h) (Or.inl ⟨by rfl, ?my4⟩) hs ?mg4
      case my4 => (intro z hSz; (have o0 := hSz.cell 0; have o1 := hSz.lt; simp at o0); go_simp; (try with_reducible rfl))
      try simp only [Act.put, List.setIfInBounds_toArray, List.set_cons_zero, List.set_cons_succ]
      refine take_at (i := 6) (d := some 121) (v := ?mv5) rfl rfl (by kernel_rfl) (by kernel_rfl) (by kernel_rfl) (fun _ _ _ h => h) (Or.inl ⟨by rfl, ?my5⟩) hs ?mg5
      case my5 => (intro z hSz; (have o0 := hSz.cell 0; have o1 := hSz.lt; simp at o0); go_simp; (try with_reducible rfl))
      try simp only [Act.put, List.setIfInBounds_toArray, List.set_cons_zero, List.set_cons_succ]
      refine wpAnyH_ready (rs := [3]) (by kernel_rfl) (by simp) ?_
      refine AllReadyH.cons rfl (fun K' hK' => ?_) AllReadyH.nil
      go_simp
      refine (SS.out _).mono ?_
      rintro _ uc ⟨b1, d1, b2, d2, rfl, hbc⟩
      refine hK'.out _ _ (hs.below hbc hs.lt) (fun hs => ?_)
      clear hK' K'
      try simp only [Act.put, List.setIfInBounds_toArray, List.set_cons_zero, List.set_cons_succ]
      replace D := D.trans (hbc.mono D.size)
      refine take_at (i := 4) (d := some 119) (v := ?mv6) rfl rfl (by kernel_rfl) (by kernel_rfl) (by kernel_rfl) (fun _ _ _ h => h) (Or.inl ⟨by rfl, ?my6⟩) hs ?mg6
      case my6 => (intro z hSz; (have o0 := hSz.cell 0; have o1 := hSz.lt; simp at o0); go_simp; (try with_reducible rfl))
      try simp only [Act.put, List.setIfInBounds_toArray, List.set_cons_zero, List.set_cons_succ]
      refine take_at (i := 7) (d := some 122) (v := ?mv7) rfl rfl (by kernel_rfl) (by kernel_rfl) (by kernel_rfl) (fun _ _ _ h => h) (Or.inl ⟨by rfl, ?my7⟩) hs ?mg7
      case my7 => (intro z hSz; (have o0 := hSz.cell 0; have o1 := hSz.lt; simp at o0); go_simp; (try with_reducible rfl))
      try simp only [Act.put, List.setIfInBounds_toArray, List.set_cons_zero, List.set_cons_succ]
      refine take_at (i := 8) (d := some 2) (v := ?mv8) rfl rfl (by kernel_rfl) (by kernel_rfl) (by kernel_rfl) (fun _ _ _ h => h) (Or.inl ⟨by rfl, ?my8⟩) hs ?mg8
      case my8 => (intro z hSz; (have o0 := hSz.cell 0; have o1 := hSz.lt; simp at o0); go_simp; (try with_reducible rfl))
      try simp only [Act.put, List.setIfInBounds_toArray, List.set_cons_zero, List.set_cons_succ]
      refine wpAnyH_done (by kernel_rfl) (NoPanic.normal ?_) _
      go_wp2
      go_ret
      exact ⟨rfl, BYH.out.trans (D.mono BYH.out.size)⟩
    case pos =>
      have bd : (0 ≤ s ∧ s ≤ 999) ∧ (0 ≤ i ∧ i ≤ 7) ∧ 0 ≤ x ∧ x ≤ 65520 := by simpa [ssOk] using hok
      obtain ⟨bs, bi, bx⟩ := bd
      have e1 : ssC s i x = 0 := by unfold ssC; rw [if_pos hok]
      have e2 : ssI s i x = i := by unfold ssI; rw [if_pos hok]
      have e3 : ssS s i x = shW s i x (List.range 16) := by unfold ssS; rw [if_pos hok]
      have e4 : ssO s i x = otW s i x (List.range 16) := by unfold ssO; rw [if_pos hok]
      rw [e3] at O6 H6
      rw [e4] at O7 H7
      rw [e1, e2, e3, e4]
      have LS : (shW s i x (List.range 16)).length = 16 := by rw [shW_len]; simp
      have LO : (otW s i x (List.range 16)).length = 16 := by rw [otW_len]; simp
      obtain ⟨g6, rfl, _, k6⟩ := ownN_at O6 (by omega)
      obtain ⟨g7, rfl, _, k7⟩ := ownN_at O7 (by omega)
      have C6 : Hid (∀ j : Nat, j < 16 → u6.cell? ⟨g6, j, none⟩ = some (.int .i64 (secV s i j (bitV x j)))) := fun j hj => by
        have := (ownN_cell O6 j (by omega)).1
        rw [this, getD_at (by omega), shW_get s i x hj]
      have C7 : Hid (∀ j : Nat, j < 16 → u6.cell? ⟨g7, j, none⟩ = some (.int .i64 (opnV (secV s i j (1 - bitV x j))))) := fun j hj => by
        have := (ownN_cell O7 j (by omega)).1
        rw [this, getD_at (by omega), otW_get s i x hj]
      rw [LS, LO]
      obtain ⟨Y, hY⟩ : ∃ Y, Y = u6.alloc (.cells #[.int .i64 0, .int .i64 i, .slice (some ⟨g6, 0, none⟩) 16 c6, .slice (some ⟨g7, 0, none⟩) 16 c7] 30) := ⟨_, rfl⟩
      obtain ⟨V3, hV3⟩ : ∃ V, V = u6.heap.size := ⟨_, rfl⟩
      have SV : Blk Y V3 #[.int .i64 0, .int .i64 i, .slice (some ⟨g6, 0, none⟩) 16 c6, .slice (some ⟨g7, 0, none⟩) 16 c7] 30 := by rw [hY, hV3]; exact Blk.new _ _ _
      have BY : Below w.heap.size w Y := by rw [hY]; exact B6.alloc B6.size _
      have bY : Below u6.heap.size u6 Y := by rw [hY]; exact (Below.refl _ _).alloc (Nat.le_refl _) _
      have TY := (FA.out _ BY).2
      have BYH : Hid (Below w.heap.size w Y) := BY
      have CL : Hid (∀ (j : Nat) (u : World), j < 16 → Below Y.heap.size Y u → (u.cell? ⟨V3, 2, none⟩ = some (.slice (some ⟨g6, 0, none⟩) 16 c6) ∧ u.cell? ⟨V3, 3, none⟩ = some (.slice (some ⟨g7, 0, none⟩) 16 c7)) ∧ (u.cell? ⟨g6, j, none⟩ = some (.int .i64 (secV s i j (bitV x j))) ∧ u.cell? ⟨g7, j, none⟩ = some (.int .i64 (opnV (secV s i j (1 - bitV x j))))) ∧ V3 < u.heap.size ∧ g6 < u.heap.size ∧ g7 < u.heap.size) := by
        intro j u hj h
        have b6 := bY.trans (h.mono bY.size)
        have zz := b6.size
        have SU := SV.below h SV.lt
        exact ⟨⟨(SU.cell 2).trans rfl, (SU.cell 3).trans rfl⟩, ⟨(b6.cell (p := ⟨g6, j, none⟩) k6).trans (C6.out j hj), (b6.cell (p := ⟨g7, j, none⟩) k7).trans (C7.out j hj)⟩, SU.lt, by omega, by omega⟩
      have SE : Hid (∀ (j : Nat) (d : Int) (u : World), j < 16 → d = bitV x j → Below Y.heap.size Y u → Calls Tryd.prog 18 #[.int .i64 s, .int .i64 i, .int .i64 j, .int .i64 d] u fun r w' => r = .returned (.agg #[.int .i64 0, .int .i64 (secV s i j d)]) ∧ Below u.heap.size u w') := by
        intro j d u hj hd h
        have := implSecretOf_any s i j d u (TY.below h (Nat.le_refl _))
        have h01 := bitV_01 x j
        rw [← hd] at h01
        have ok : seOk s i j d = true := by unfold seOk; exact decide_eq_true ⟨bs, bi, by omega, by omega⟩
        rw [show seC s i j d = 0 by unfold seC; rw [if_pos ok], show seV s i j d = secV s i j d by unfold seV; rw [if_pos ok]] at this
        exact this
      have PU : Hid (∀ (j m : Nat) (d : Int) (u : World), j < 16 → d = bitV x j → (2 * (j : Int) + 1 - d) = m → Below Y.heap.size Y u → Calls Tryd.prog 22 #[.int .i64 s, .int .i64 i] u fun r w' => ∃ gp cp, r = .returned (.agg #[.int .i64 0, .slice (some ⟨gp, 0, none⟩) 32 cp]) ∧ w'.cell? ⟨gp, m, none⟩ = some (.int .i64 (opnV (secV s i j (1 - d)))) ∧ gp < w'.heap.size ∧ Below u.heap.size u w') := by
        intro j m d u hj hd hm h
        refine (implPublicOf_any s i u (TY.below h (Nat.le_refl _))).mono ?_
        have ok : siOk s i = true := by unfold siOk; exact decide_eq_true ⟨bs, bi⟩
        rw [show pkC s i = 0 by unfold pkC; rw [if_pos ok], show pkL s i = pubL s i by unfold pkL; rw [if_pos ok]]
        rintro r w' ⟨ap, cp, rfl, O, hb⟩
        have LP := pubL_len s i
        obtain ⟨gp, rfl, _, kp⟩ := ownN_at O (by omega)
        have h01 := bitV_01 x j
        rw [← hd] at h01
        have hm32 : m < 32 := by omega
        have hg := pubW_get s i 16 j hj
        have cc := (ownN_cell O m (by omega)).1
        refine ⟨gp, cp, by rw [LP], ?_, kp, hb⟩
        rw [cc, getD_at (by omega)]
        unfold pubL
        rcases h01 with h0 | h0
        · rw [show m = 2 * j + 1 by omega, hg.2, h0]; rfl
        · rw [show m = 2 * j by omega, hg.1, h0]; rfl
      have m0 : Y.cell? ⟨V3, 0, none⟩ = some (.int .i64 0) := (SV.cell 0).trans rfl
      have m2 : Y.cell? ⟨V3, 2, none⟩ = some (.slice (some ⟨g6, 0, none⟩) 16 c6) := (SV.cell 2).trans rfl
      have m3 : Y.cell? ⟨V3, 3, none⟩ = some (.slice (some ⟨g7, 0, none⟩) 16 c7) := (SV.cell 3).trans rfl
      have vl := SV.lt
      have FQ1 := fldR1
      have FL1 := fldS1
      clear O6 O7 H6 H7 e1 e2 e3 e4 hok B5 B6 hb6 BY bY C6 C7 LS LO TY SV k6 k7
      go_wp2_with fail
      simp only [← hV3, ← hY]
      clear hY hV3
      go_wp2_with fail
      go_loopw [16, 17] (fun k v wr => ∃ j : Nat, j ≤ 16 ∧ k = .int .i64 j ∧ Below Y.heap.size Y wr) (fun k _ _ => 16 - (intOf k).toNat)
      case atStart => exact ⟨0, Nat.zero_le _, rfl, Below.refl _ _⟩
      case round =>
        clear m0 m2 m3 vl
        obtain ⟨j, hj, rfl, hbr⟩ := hrel
        by_cases hlt : j < 16
        · have hlt' : (j : Int) < 16 := by omega
          have hj0 : (0 : Int) ≤ (j : Int) := by omega
          have hq : 0 ≤ x / 2 ^ j := Int.ediv_nonneg bx.1 (by have := Int.pow_pos (show (0 : Int) < 2 by decide) (m := j); omega)
          obtain ⟨Q, hQ⟩ : ∃ Q, x / 2 ^ j = Q := ⟨_, rfl⟩
          have HB : Hid (bitV x j = Q % 2) := by show _ = _; unfold bitV; rw [hQ]
          rw [hQ] at hq
          obtain ⟨d, hd⟩ : ∃ d, Q % 2 = d := ⟨_, rfl⟩
          have hd0 : 0 ≤ d := by omega
          have hd1 : d ≤ 1 := by omega
          have HD : Hid (d = bitV x j) := by show _ = _; rw [HB.out, hd]
          obtain ⟨m, hm⟩ : ∃ m : Nat, (2 * (j : Int) + 1 - d) = m := ⟨(2 * (j : Int) + 1 - d).toNat, by omega⟩
          have hm32 : (m : Int) < 32 := by omega
          have CJ : Hid (∀ u : World, Below Y.heap.size Y u → (u.cell? ⟨V3, 2, none⟩ = some (.slice (some ⟨g6, 0, none⟩) 16 c6) ∧ u.cell? ⟨V3, 3, none⟩ = some (.slice (some ⟨g7, 0, none⟩) 16 c7)) ∧ (u.cell? ⟨g6, j, none⟩ = some (.int .i64 (secV s i j d)) ∧ u.cell? ⟨g7, j, none⟩ = some (.int .i64 (opnV (secV s i j (1 - d))))) ∧ V3 < u.heap.size ∧ g6 < u.heap.size ∧ g7 < u.heap.size) := fun u h => by
            have := CL.out j u hlt h
            rw [← HD.out] at this
            exact this
          have SJ : Hid (∀ u : World, Below Y.heap.size Y u → Calls Tryd.prog 18 #[.int .i64 s, .int .i64 i, .int .i64 j, .int .i64 d] u fun r w' => r = .returned (.agg #[.int .i64 0, .int .i64 (secV s i j d)]) ∧ Below u.heap.size u w') := fun u h => SE.out j d u hlt HD.out h
          have PJ : Hid (∀ u : World, Below Y.heap.size Y u → Calls Tryd.prog 22 #[.int .i64 s, .int .i64 i] u fun r w' => ∃ gp cp, r = .returned (.agg #[.int .i64 0, .slice (some ⟨gp, 0, none⟩) 32 cp]) ∧ w'.cell? ⟨gp, m, none⟩ = some (.int .i64 (opnV (secV s i j (1 - d)))) ∧ gp < w'.heap.size ∧ Below u.heap.size u w') := fun u h => PU.out j m d u hlt HD.out hm h
          have WR : Hid (IntKind.i64.wrap (IntKind.i64.wrap (IntKind.i64.wrap (2 * (j : Int)) + 1) - d) = (m : Int)) := by
            show _ = _
            have z1 : IntKind.i64.wrap (2 * (j : Int)) = 2 * (j : Int) := by rw [IntKind.wrap_i64]; omega
            have z2 : IntKind.i64.wrap (2 * (j : Int) + 1) = 2 * (j : Int) + 1 := by rw [IntKind.wrap_i64]; omega
            have z3 : IntKind.i64.wrap (2 * (j : Int) + 1 - d) = 2 * (j : Int) + 1 - d := by rw [IntKind.wrap_i64]; omega
            rw [z1, z2, z3]
            exact hm
          have hm0 : (0 : Int) ≤ (m : Int) := by omega
          generalize opnV (secV s i j (1 - d)) = bv at *
          generalize secV s i j d = av at *
          have qa : (av != av) = false := by simp
          have qb : (bv != bv) = false := by simp
          go_wp2_with fail
          have D : Below Y.heap.size Y wr.drew := hbr.drew
          clear hbr
          refine wp_region_noPanic ?_
          refine wp_region_held_drew (S := fun u => Below Y.heap.size Y u) (by kernel_rfl) D (fun hs => ?_)
          obtain ⟨XD, hXD⟩ : ∃ Z, Z = wr.drew := ⟨_, rfl⟩
          rw [← hXD] at hs
          simp only [← hXD]
          clear hXD D
          refine take_at (i := 0) (d := some 144) (v := ?mv9) rfl rfl (by kernel_rfl) (by kernel_rfl) (by kernel_rfl) (fun _ _ _ h => h) (Or.inl ⟨by rfl, ?my9⟩) hs ?mg9
          case my9 => (intro z hSz; (obtain ⟨⟨o1, o2⟩, ⟨o3, o4⟩, o5, o6, o7⟩ := CJ.out _ hSz); go_simp; (try with_reducible rfl))
          try simp only [Act.put, List.setIfInBounds_toArray, List.set_cons_zero, List.set_cons_succ]
          refine take_at (i := 1) (d := some 145) (v := ?mv10) rfl rfl (by kernel_rfl) (by kernel_rfl) (by kernel_rfl) (fun _ _ _ h => h) (Or.inl ⟨by rfl, ?my10⟩) hs ?mg10
          case my10 => (intro z hSz; (obtain ⟨⟨o1, o2⟩, ⟨o3, o4⟩, o5, o6, o7⟩ := CJ.out _ hSz); go_simp; (try with_reducible rfl))
          try simp only [Act.put, List.setIfInBounds_toArray, List.set_cons_zero, List.set_cons_succ]
          refine take_at (i := 2) (d := some 146) (v := ?mv11) rfl rfl (by kernel_rfl) (by kernel_rfl) (by kernel_rfl) (fun _ _ _ h => h) (Or.inl ⟨by rfl, ?my11⟩) hs ?mg11
          case my11 => (intro z hSz; (obtain ⟨⟨o1, o2⟩, ⟨o3, o4⟩, o5, o6, o7⟩ := CJ.out _ hSz); go_simp; (try with_reducible rfl))
          try simp only [Act.put, List.setIfInBounds_toArray, List.set_cons_zero, List.set_cons_succ]
          refine take_at (i := 3) (d := some 147) (v := ?mv12) rfl rfl (by kernel_rfl) (by kernel_rfl) (by kernel_rfl) (fun _ _ _ h => h) (Or.inl ⟨by rfl, ?my12⟩) hs ?mg12
          case my12 => (intro z hSz; (obtain ⟨⟨o1, o2⟩, ⟨o3, o4⟩, o5, o6, o7⟩ := CJ.out _ hSz); go_simp; (try with_reducible rfl))
          try simp only [Act.put, List.setIfInBounds_toArray, List.set_cons_zero, List.set_cons_succ]
          refine take_at (i := 4) (d := some 148) (v := ?mv13) rfl rfl (by kernel_rfl) (by kernel_rfl) (by kernel_rfl) (fun _ _ _ h => h) (Or.inl ⟨by rfl, ?my13⟩) hs ?mg13
          case my13 => (intro z hSz; (obtain ⟨⟨o1, o2⟩, ⟨o3, o4⟩, o5, o6, o7⟩ := CJ.out _ hSz); go_simp; (try with_reducible rfl))
          try simp only [Act.put, List.setIfInBounds_toArray, List.set_cons_zero, List.set_cons_succ]
          refine take_at (i := 5) (d := some 149) (v := ?mv14) rfl rfl (by kernel_rfl) (by kernel_rfl) (by kernel_rfl) (fun _ _ _ h => h) (Or.inl ⟨by rfl, ?my14⟩) hs ?mg14
          case my14 => (intro z hSz; (obtain ⟨⟨o1, o2⟩, ⟨o3, o4⟩, o5, o6, o7⟩ := CJ.out _ hSz); go_simp; (try with_reducible rfl))
          try simp only [Act.put, List.setIfInBounds_toArray, List.set_cons_zero, List.set_cons_succ]
          refine take_at (i := 6) (d := some 150) (v := ?mv15) rfl rfl (by kernel_rfl) (by kernel_rfl) (by kernel_rfl) (fun _ _ _ h => h) (Or.inl ⟨by rfl, ?my15⟩) hs ?mg15
          case my15 => (intro z hSz; (obtain ⟨⟨o1, o2⟩, ⟨o3, o4⟩, o5, o6, o7⟩ := CJ.out _ hSz); go_simp; (try with_reducible rfl))
          try simp only [Act.put, List.setIfInBounds_toArray, List.set_cons_zero, List.set_cons_succ]
          refine take_at (i := 7) (d := some 151) (v := ?mv16) rfl rfl (by kernel_rfl) (by kernel_rfl) (by kernel_rfl) (fun _ _ _ h => h) (Or.inl ⟨by rfl, ?my16⟩) hs ?mg16
          case my16 => (intro z hSz; (obtain ⟨⟨o1, o2⟩, ⟨o3, o4⟩, o5, o6, o7⟩ := CJ.out _ hSz); go_simp; (try with_reducible rfl))
          try simp only [Act.put, List.setIfInBounds_toArray, List.set_cons_zero, List.set_cons_succ]
          refine take_at (i := 8) (d := some 152) (v := ?mv17) rfl rfl (by kernel_rfl) (by kernel_rfl) (by kernel_rfl) (fun _ _ _ h => h) (Or.inl ⟨by rfl, ?my17⟩) hs ?mg17
          case my17 => (intro z hSz; (obtain ⟨⟨o1, o2⟩, ⟨o3, o4⟩, o5, o6, o7⟩ := CJ.out _ hSz); go_simp; (try with_reducible rfl))
          try simp only [Act.put, List.setIfInBounds_toArray, List.set_cons_zero, List.set_cons_succ]
          refine take_at (i := 9) (d := some 153) (v := ?mv18) rfl rfl (by kernel_rfl) (by kernel_rfl) (by kernel_rfl) (fun _ _ _ h => h) (Or.inl ⟨by rfl, ?my18⟩) hs ?mg18
          case my18 => (intro z hSz; (obtain ⟨⟨o1, o2⟩, ⟨o3, o4⟩, o5, o6, o7⟩ := CJ.out _ hSz); go_simp; (try with_reducible rfl))
          try simp only [Act.put, List.setIfInBounds_toArray, List.set_cons_zero, List.set_cons_succ]
          refine wpAnyH_ready (rs := [10]) (by kernel_rfl) (by simp) ?_
          refine AllReadyH.cons rfl (fun K' hK' => ?_) AllReadyH.nil
          go_simp
          refine (SJ.out _ hs).mono ?_
          rintro _ ua ⟨rfl, hba⟩
          refine hK'.out _ _ (hs.trans (hba.mono hs.size)) (fun hs => ?_)
          clear hK' K'
          try simp only [Act.put, List.setIfInBounds_toArray, List.set_cons_zero, List.set_cons_succ]
          refine take_at (i := 11) (d := some 155) (v := ?mv19) rfl rfl (by kernel_rfl) (by kernel_rfl) (by kernel_rfl) (fun _ _ _ h => h) (Or.inl ⟨by rfl, ?my19⟩) hs ?mg19
          case my19 => (intro z hSz; (obtain ⟨⟨o1, o2⟩, ⟨o3, o4⟩, o5, o6, o7⟩ := CJ.out _ hSz); go_simp; (try with_reducible rfl))
          try simp only [Act.put, List.setIfInBounds_toArray, List.set_cons_zero, List.set_cons_succ]
          refine take_at (i := 12) (d := some 156) (v := ?mv20) rfl rfl (by kernel_rfl) (by kernel_rfl) (by kernel_rfl) (fun _ _ _ h => h) (Or.inl ⟨by rfl, ?my20⟩) hs ?mg20
          case my20 => (intro z hSz; (obtain ⟨⟨o1, o2⟩, ⟨o3, o4⟩, o5, o6, o7⟩ := CJ.out _ hSz); go_simp; (try with_reducible rfl))
          try simp only [Act.put, List.setIfInBounds_toArray, List.set_cons_zero, List.set_cons_succ]
          refine take_at (i := 13) (d := some 157) (v := ?mv21) rfl rfl (by kernel_rfl) (by kernel_rfl) (by kernel_rfl) (fun _ _ _ h => h) (Or.inl ⟨by rfl, ?my21⟩) hs ?mg21
          case my21 => (intro z hSz; (obtain ⟨⟨o1, o2⟩, ⟨o3, o4⟩, o5, o6, o7⟩ := CJ.out _ hSz); go_simp; (try with_reducible rfl))
          try simp only [Act.put, List.setIfInBounds_toArray, List.set_cons_zero, List.set_cons_succ]
          refine take_at (i := 14) (d := some 158) (v := ?mv22) rfl rfl (by kernel_rfl) (by kernel_rfl) (by kernel_rfl) (fun _ _ _ h => h) (Or.inl ⟨by rfl, ?my22⟩) hs ?mg22
          case my22 => (intro z hSz; (obtain ⟨⟨o1, o2⟩, ⟨o3, o4⟩, o5, o6, o7⟩ := CJ.out _ hSz); go_simp; (try with_reducible rfl))
          try simp only [Act.put, List.setIfInBounds_toArray, List.set_cons_zero, List.set_cons_succ]
          refine take_at (i := 15) (d := some 159) (v := ?mv23) rfl rfl (by kernel_rfl) (by kernel_rfl) (by kernel_rfl) (fun _ _ _ h => h) (Or.inl ⟨by rfl, ?my23⟩) hs ?mg23
          case my23 => (intro z hSz; (obtain ⟨⟨o1, o2⟩, ⟨o3, o4⟩, o5, o6, o7⟩ := CJ.out _ hSz); go_simp; (try with_reducible rfl))
          try simp only [Act.put, List.setIfInBounds_toArray, List.set_cons_zero, List.set_cons_succ]
          refine take_at (i := 16) (d := some 160) (v := ?mv24) rfl rfl (by kernel_rfl) (by kernel_rfl) (by kernel_rfl) (fun _ _ _ h => h) (Or.inl ⟨by rfl, ?my24⟩) hs ?mg24
          case my24 => (intro z hSz; (obtain ⟨⟨o1, o2⟩, ⟨o3, o4⟩, o5, o6, o7⟩ := CJ.out _ hSz); go_simp; (try with_reducible rfl))
          try simp only [Act.put, List.setIfInBounds_toArray, List.set_cons_zero, List.set_cons_succ]
          refine take_at (i := 17) (d := some 161) (v := ?mv25) rfl rfl (by kernel_rfl) (by kernel_rfl) (by kernel_rfl) (fun _ _ _ h => h) (Or.inl ⟨by rfl, ?my25⟩) hs ?mg25
          case my25 => (intro z hSz; (obtain ⟨⟨o1, o2⟩, ⟨o3, o4⟩, o5, o6, o7⟩ := CJ.out _ hSz); go_simp; (try with_reducible rfl))
          try simp only [Act.put, List.setIfInBounds_toArray, List.set_cons_zero, List.set_cons_succ]
          refine take_at (i := 18) (d := some 162) (v := ?mv26) rfl rfl (by kernel_rfl) (by kernel_rfl) (by kernel_rfl) (fun _ _ _ h => h) (Or.inl ⟨by rfl, ?my26⟩) hs ?mg26
          case my26 => (intro z hSz; (obtain ⟨⟨o1, o2⟩, ⟨o3, o4⟩, o5, o6, o7⟩ := CJ.out _ hSz); go_simp; (try with_reducible rfl))
          try simp only [Act.put, List.setIfInBounds_toArray, List.set_cons_zero, List.set_cons_succ]
          refine take_at (i := 19) (d := some 163) (v := ?mv27) rfl rfl (by kernel_rfl) (by kernel_rfl) (by kernel_rfl) (fun _ _ _ h => h) (Or.inl ⟨by rfl, ?my27⟩) hs ?mg27
          case my27 => (intro z hSz; (obtain ⟨⟨o1, o2⟩, ⟨o3, o4⟩, o5, o6, o7⟩ := CJ.out _ hSz); go_simp; (try with_reducible rfl))
          try simp only [Act.put, List.setIfInBounds_toArray, List.set_cons_zero, List.set_cons_succ]
          refine take_at (i := 20) (d := some 164) (v := ?mv28) rfl rfl (by kernel_rfl) (by kernel_rfl) (by kernel_rfl) (fun _ _ _ h => h) (Or.inl ⟨by rfl, ?my28⟩) hs ?mg28
          case my28 => (intro z hSz; (obtain ⟨⟨o1, o2⟩, ⟨o3, o4⟩, o5, o6, o7⟩ := CJ.out _ hSz); go_simp; (try with_reducible rfl))
          try simp only [Act.put, List.setIfInBounds_toArray, List.set_cons_zero, List.set_cons_succ]
          refine take_at (i := 21) (d := some 165) (v := ?mv29) rfl rfl (by kernel_rfl) (by kernel_rfl) (by kernel_rfl) (fun _ _ _ h => h) (Or.inl ⟨by rfl, ?my29⟩) hs ?mg29
          case my29 => (intro z hSz; (obtain ⟨⟨o1, o2⟩, ⟨o3, o4⟩, o5, o6, o7⟩ := CJ.out _ hSz); go_simp; (try with_reducible rfl))
          try simp only [Act.put, List.setIfInBounds_toArray, List.set_cons_zero, List.set_cons_succ]
          refine take_at (i := 24) (d := some 168) (v := ?mv30) rfl rfl (by kernel_rfl) (by kernel_rfl) (by kernel_rfl) (fun _ _ _ h => h) (Or.inl ⟨by rfl, ?my30⟩) hs ?mg30
          case my30 => (intro z hSz; (obtain ⟨⟨o1, o2⟩, ⟨o3, o4⟩, o5, o6, o7⟩ := CJ.out _ hSz); go_simp; (try with_reducible rfl))
          try simp only [Act.put, List.setIfInBounds_toArray, List.set_cons_zero, List.set_cons_succ]
          refine take_at (i := 25) (d := some 169) (v := ?mv31) rfl rfl (by kernel_rfl) (by kernel_rfl) (by kernel_rfl) (fun _ _ _ h => h) (Or.inl ⟨by rfl, ?my31⟩) hs ?mg31
          case my31 => (intro z hSz; (obtain ⟨⟨o1, o2⟩, ⟨o3, o4⟩, o5, o6, o7⟩ := CJ.out _ hSz); go_simp; (try with_reducible rfl))
          try simp only [Act.put, List.setIfInBounds_toArray, List.set_cons_zero, List.set_cons_succ]
          refine take_at (i := 26) (d := some 170) (v := ?mv32) rfl rfl (by kernel_rfl) (by kernel_rfl) (by kernel_rfl) (fun _ _ _ h => h) (Or.inl ⟨by rfl, ?my32⟩) hs ?mg32
          case my32 => (intro z hSz; (obtain ⟨⟨o1, o2⟩, ⟨o3, o4⟩, o5, o6, o7⟩ := CJ.out _ hSz); go_simp; (try with_reducible rfl))
          try simp only [Act.put, List.setIfInBounds_toArray, List.set_cons_zero, List.set_cons_succ]
          refine take_at (i := 27) (d := some 171) (v := ?mv33) rfl rfl (by kernel_rfl) (by kernel_rfl) (by kernel_rfl) (fun _ _ _ h => h) (Or.inl ⟨by rfl, ?my33⟩) hs ?mg33
          case my33 => (intro z hSz; (obtain ⟨⟨o1, o2⟩, ⟨o3, o4⟩, o5, o6, o7⟩ := CJ.out _ hSz); go_simp; (try with_reducible rfl))
          try simp only [Act.put, List.setIfInBounds_toArray, List.set_cons_zero, List.set_cons_succ]
          refine take_at (i := 28) (d := some 172) (v := ?mv34) rfl rfl (by kernel_rfl) (by kernel_rfl) (by kernel_rfl) (fun _ _ _ h => h) (Or.inl ⟨by rfl, ?my34⟩) hs ?mg34
          case my34 => (intro z hSz; (obtain ⟨⟨o1, o2⟩, ⟨o3, o4⟩, o5, o6, o7⟩ := CJ.out _ hSz); go_simp; (try with_reducible rfl))
          try simp only [Act.put, List.setIfInBounds_toArray, List.set_cons_zero, List.set_cons_succ]
          refine wpAnyH_ready (rs := [22]) (by kernel_rfl) (by simp) ?_
          refine AllReadyH.cons rfl (fun K' hK' => ?_) AllReadyH.nil
          go_simp
          refine (PJ.out _ hs).mono ?_
          rintro _ ub ⟨gp, cp, rfl, cc, kp, hbb⟩
          refine hK'.out _ _ (hs.trans (hbb.mono hs.size)) (fun hs => ?_)
          clear hK' K'
          try simp only [Act.put, List.setIfInBounds_toArray, List.set_cons_zero, List.set_cons_succ]
          refine take_at (i := 23) (d := some 167) (v := ?mv35) rfl rfl (by kernel_rfl) (by kernel_rfl) (by kernel_rfl) (fun _ _ _ h => h) (Or.inl ⟨by rfl, ?my35⟩) hs ?mg35
          case my35 => (intro z hSz; (obtain ⟨⟨o1, o2⟩, ⟨o3, o4⟩, o5, o6, o7⟩ := CJ.out _ hSz); go_simp; (try with_reducible rfl))
          try simp only [Act.put, List.setIfInBounds_toArray, List.set_cons_zero, List.set_cons_succ]
          refine wpAnyH_ready (rs := [29]) (by kernel_rfl) (by simp) ?_
          refine AllReadyH.cons rfl (fun K' hK' => ?_) AllReadyH.nil
          go_simp
          rw [WR.out, if_pos ⟨hm0, hm32⟩, Int.toNat_natCast]
          go_simp
          refine hK'.out _ _ hs (fun hs => ?_)
          clear hK' K'
          try simp only [Act.put, List.setIfInBounds_toArray, List.set_cons_zero, List.set_cons_succ]
          refine wpAnyH_ready (rs := [30]) (by kernel_rfl) (by simp) ?_
          refine AllReadyH.cons rfl (fun K' hK' => ?_) AllReadyH.nil
          go_simp
          refine hK'.out _ _ hs (fun hs => ?_)
          clear hK' K'
          try simp only [Act.put, List.setIfInBounds_toArray, List.set_cons_zero, List.set_cons_succ]
          refine take_at (i := 31) (d := some 175) (v := ?mv36) rfl rfl (by kernel_rfl) (by kernel_rfl) (by kernel_rfl) (fun _ _ _ h => h) (Or.inl ⟨by rfl, ?my36⟩) hs ?mg36
          case my36 => (intro z hSz; (obtain ⟨⟨o1, o2⟩, ⟨o3, o4⟩, o5, o6, o7⟩ := CJ.out _ hSz); go_simp; (try with_reducible rfl))
          try simp only [Act.put, List.setIfInBounds_toArray, List.set_cons_zero, List.set_cons_succ]
          refine take_at (i := 32) (d := some 176) (v := ?mv37) rfl rfl (by kernel_rfl) (by kernel_rfl) (by kernel_rfl) (fun _ _ _ h => h) (Or.inl ⟨by rfl, ?my37⟩) hs ?mg37
          case my37 => (intro z hSz; (obtain ⟨⟨o1, o2⟩, ⟨o3, o4⟩, o5, o6, o7⟩ := CJ.out _ hSz); go_simp; (try with_reducible rfl))
          try simp only [Act.put, List.setIfInBounds_toArray, List.set_cons_zero, List.set_cons_succ]
          refine wpAnyH_done (by kernel_rfl) (NoPanic.normal ?_) _
          go_wp2
          go_roundw
          case rel => exact ⟨j + 1, by omega, by go_num, hs⟩
          case measure => simp [intOf]; omega
        · have hj16 : ¬ (j : Int) < 16 := by omega
          go_wp2
          go_ret
          exact ⟨rfl, BYH.out.trans (hbr.mono BYH.out.size)⟩

set_option maxRecDepth 100000 in
theorem fnSigns_lifted (os : Os) (started : os.Started) (H : Type) (enc : TypeId × Value → H) :
    ReturnsInHanded {} Tryd.checked os 4 .any (fun w args => (Rows.fnSignsSpec.pre enc Tryd.prog Tryd.f4 [] false w args ∧ laidMetH Tryd.prog [("loop.example/g00565/impl.pieceStarts", Rows.laid_loop_example_g00565_impl_pieceStarts)] w) ∧ sizedMet enc Tryd.prog Tryd.f4 (OpenSpec.ofChange Rows.fnSignsSpec) false w args) (Rows.fnSignsSpec.post enc Tryd.prog Tryd.f4 false true false false) := by
  refine returnsInHanded_of_change_and (C := Tryd.checked) (X := fun w _ => laidMetH Tryd.prog [("loop.example/g00565/impl.pieceStarts", Rows.laid_loop_example_g00565_impl_pieceStarts)] w) (fun _ _ _ hh h => h.of_heap hh) own started (by kernel_rfl) Tryd.func4
    (ChangeSpec.witness_shaped (enc := enc) (C := Tryd.checked) (os := os) (X := fun w _ => laidMetH Tryd.prog [("loop.example/g00565/impl.pieceStarts", Rows.laid_loop_example_g00565_impl_pieceStarts)] w) false (World.doorLaid Tryd.prog 400 os) #[.slice none 0 0] 8 rfl (World.shaped_of_RefB (by kernel_rfl) (by kernel_rfl)) (by kernel_rfl) (by kernel_rfl) (by kernel_rfl) (door_met os _)) ?_
  intro W base args ds gs before hval0 hW _ _ hL _
  have hval : ∀ (j : Nat) t v, Tryd.f4.params[j]? = some t → args[j]? = some v → Value.okWide Tryd.prog W .any base t v := hval0
  have hW' := hW
  obtain ⟨p, q, hA0, hV, rfl, hfz, hnd⟩ := hW
  have hA : DataW.TrodAll enc Tryd.prog W 0 (fun _ => true) true Tryd.f4.params.toList args.toList ds p := hA0
  rw [Tryd.params4] at hA hval
  obtain ⟨v0, vs0, d0, ds0, p0, q0, hargs, rfl, rfl, h0, r0⟩ := trodAll_cons hA
  obtain ⟨rfl, rfl, rfl⟩ := trodAll_nil r0
  obtain rfl : args = #[v0] := by cases args; simp_all
  obtain ⟨g, rfl⟩ : ∃ g, gs = [g] := by obtain ⟨_, _, _, _, d, _, e, _⟩ := trodVars_one hV; exact ⟨d, e⟩
  have g0 := h0
  have lt0 : ∀ x ∈ p0, x.block < W.heap.size := by obtain ⟨m, hm⟩ := g0; exact DataW.trod_lt m _ _ _ hm
  obtain ⟨a0, len0, cap0, rfl⟩ := okWide_slice Tryd.underlying22 (hval 0 22 v0 rfl rfl)
  obtain ⟨z0, w0⟩ : ∃ zs, IsRow .u8 W a0 len0 cap0 zs := by
    obtain ⟨fuel, hf⟩ := h0
    rcases open_ints Tryd.underlying22 Tryd.underlying5 (by kernel_rfl) hf with ⟨hcs, _⟩ | ⟨x, l, c, zs, hcs, _, hl, hm, hz, _, hcell, hwz⟩
    · simp [Value.cells] at hcs
      obtain ⟨rfl, rfl, rfl⟩ := hcs
      exact ⟨[], .inl ⟨rfl, rfl, rfl, rfl⟩⟩
    · simp [Value.cells] at hcs
      obtain ⟨rfl, rfl, rfl⟩ := hcs
      exact ⟨zs, .inr ⟨_, rfl, hl, hm, by simpa using hz, hcell, hwz⟩⟩
  clear hA0 hval0
  refine (fnSigns_walk W (tab_of_laid hL) a0 len0 cap0 z0 w0).mono fun e W' ⟨he, bel⟩ => ?_
  subst he
  exact ⟨_, rfl, _, _, _, [], _, _, hW', trodAll_mk1 (shut_bool Tryd.underlying4 _), (trodAll_cons_mk (Below.trod laidOut (by kernel_rfl) (of_decide_eq_true (by kernel_rfl)) g0 bel lt0) trodAll_mk0), Below.trodVars laidOut bel (by kernel_rfl) hV, bel.frame _, fun h => by cases h⟩

theorem fnSigns_row : Rows.FnSignsSaid :=
  OpenClaim.holds_of_wide 4 Tryd.f4 rfl rfl rfl rfl rfl rfl rfl ⟨rfl, rfl, rfl, rfl, rfl⟩ rfl rfl rfl rfl rfl (by kernel_rfl) Tryd.func4 (by kernel_rfl)
    (of_decide_eq_true (by kernel_rfl)) (by unfold Func.isWrapper; first | (rw [if_pos (by decide +kernel)]; kernel_rfl) | (rw [if_neg (by decide +kernel)]; exact ⟨rfl, rfl⟩))
    (fun os started H enc _ => fnSigns_lifted os started H enc)

theorem fnSigns_holds : Rows.FnSignsCardSaid :=
  Claim7.holds_tied_plain_at .later [] [.data] true Rows.fnSignsCard.stood.harness Rows.fnSignsCard.stood.looks
    fnSigns_row (fun _ h => by cases h) (by kernel_rfl) (fun _ h => by cases h) fnSigns_row_tie rfl ⟨rfl, rfl⟩ (by kernel_rfl) rfl
    (fun f fn hf hfn => by
      obtain rfl : f = 4 := Option.some.inj ((show Tryd.prog.funcNamed "loop.example/g00565/laws.FnSigns" = some 4 by kernel_rfl).symm.trans hf) |>.symm
      obtain rfl : fn = Tryd.f4 := (Option.some.inj (Tryd.func4.symm.trans hfn)).symm
      exact ⟨by kernel_rfl, fun j t ht => by
        rw [Tryd.params4] at ht
        have h3 : t = 22 := by
          match j, ht with
          | 0, ht => simp at ht; simp [← ht]
          | _ + 1, ht => simp at ht
        rcases h3 with rfl
        all_goals exact (show Tryd.prog.wantsStandIn _ = false by kernel_rfl)⟩)
    (by kernel_rfl)
#print axioms fnSigns_holds
end Go.Proofs.YtncckpdglimdoaaDoor
