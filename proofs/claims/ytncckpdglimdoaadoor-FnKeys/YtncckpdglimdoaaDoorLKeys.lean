/- At every code the law on keys holds: what a key opens leads to the root of all keys; the table that begins pieces starts as the program's text lays it. -/
import Derived.Test.YtncckpdglimdoaaDoorKyV
import Derived.Test.YtncckpdglimdoaaDoorKyW
import Derived.Test.YtncckpdglimdoaaDoorKyC
import Derived.Test.YtncckpdglimdoaaDoorKyU
import Derived.Test.YtncckpdglimdoaaDoorKyOp
import Derived.Test.YtncckpdglimdoaaDoorKySr
import Derived.Test.YtncckpdglimdoaaDoorKyX
import Derived.Test.YtncckpdglimdoaaDoorKyR
import Derived.Test.YtncckpdglimdoaaDoorBig
import Derived.Test.YtncckpdglimdoaaDoorMoves
import Derived.Test.YtncckpdglimdoaaDoorRegB
import Derived.Test.YtncckpdglimdoaaDoorPathsP
import Derived.Test.YtncckpdglimdoaaDoorIRootP
import Derived.Deep.DeepCutAuto
import Derived.Deep.RegionWith
import Derived.Deep.RegionHeld3
import Derived.Test.YtncckpdglimdoaaDoorDoor
namespace Go.Proofs.YtncckpdglimdoaaDoor
open Go.ChangeShapes Go.WideShapes Go.ChangeAt Go.RowKit
set_option linter.unusedVariables false
set_option linter.unusedSimpArgs false

set_option maxRecDepth 100000 in
set_option maxHeartbeats 16000000 in
theorem fnKeys_walk (w : World) (hT : Tab w) (a0 : Option Addr) (len0 cap0 : Nat) (z0 : List Int) (w0 : IsRow .u8 w a0 len0 cap0 z0) :
    Calls Tryd.prog 3 #[.slice a0 len0 cap0] w fun e w' => e = .returned (.bool true) ∧ Below w.heap.size w w' := by
  have A0 := Has.of_row w0
  have hlen := A0.1
  generalize z0.take len0 = zs at A0 hlen
  subst hlen
  clear w0
  by_cases hbig : 1048576 < zs.length
  case pos =>
    go_enter Tryd.func3, Tryd.ntmps3
    go_wp2_with fail
    refine (lwBig_yes _ a0 _ cap0 hbig).mono ?_
    rintro r u ⟨rfl, rfl⟩
    go_wp2
    go_ret
    exact ⟨rfl, Below.refl _ _⟩
  have hsm : zs.length ≤ 1048576 := by omega
  have FA : Hid (∀ wx : World, Below w.heap.size w wx → Has wx .u8 a0 zs.length zs ∧ Tab wx) := fun wx h => ⟨A0.below h (Nat.le_refl _), hT.below h (Nat.le_refl _)⟩
  clear hT hbig A0
  go_enter Tryd.func3, Tryd.ntmps3
  go_wp2_with fail
  refine (lwBig_no _ a0 _ cap0 hsm).mono ?_
  rintro r u ⟨rfl, hu⟩
  have hu2 := hu.symm
  subst hu2
  clear hu
  go_wp2_with fail
  refine (drawSignSum_any _ a0 _ cap0 zs (FA.out _ (Below.refl _ _)).1 hsm).mono ?_
  rintro e u1 ⟨s, i, x, rfl, hb1⟩
  go_wp2_with fail
  refine (implSignSum_any s i x _ (FA.out _ hb1).2).mono ?_
  rintro r u2 ⟨a6, c6, a7, c7, rfl, O6, O7, _, hb2⟩
  have B2 := hb1.trans (hb2.mono hb1.size)
  have H6 := has_of_own O6 (ssS_ok s i x).2
  have H7 := has_of_own O7 (ssO_ok s i x).2
  obtain ⟨U, hU⟩ : ∃ Y, Y = u2.alloc (.cells #[.int .i64 (ssC s i x), .int .i64 (ssI s i x), .slice a6 (ssS s i x).length c6, .slice a7 (ssO s i x).length c7] 30) := ⟨_, rfl⟩
  obtain ⟨V3, hV3⟩ : ∃ V, V = u2.heap.size := ⟨_, rfl⟩
  have SV : Blk U V3 #[.int .i64 (ssC s i x), .int .i64 (ssI s i x), .slice a6 (ssS s i x).length c6, .slice a7 (ssO s i x).length c7] 30 := by rw [hU, hV3]; exact Blk.new _ _ _
  have bU : Below u2.heap.size u2 U := by rw [hU]; exact (Below.refl _ _).alloc (Nat.le_refl _) _
  replace H6 := H6.below bU (Nat.le_refl _)
  replace H7 := H7.below bU (Nat.le_refl _)
  have BU := B2.trans (bU.mono B2.size)
  clear hb1 hb2 B2 bU O6 O7
  go_wp2_with fail
  simp only [← hU, ← hV3]
  clear hU hV3
  refine (drawSecretOf_any _ a0 _ cap0 zs (FA.out _ BU).1 hsm).mono ?_
  rintro e u3 ⟨p0, p1, p2, p3, rfl, hb3⟩
  have B3 := BU.trans (hb3.mono BU.size)
  replace SV := SV.below hb3 SV.lt
  replace H6 := H6.below hb3 (Nat.le_refl _)
  replace H7 := H7.below hb3 (Nat.le_refl _)
  clear hb3 BU
  go_wp2_with fail
  refine (drawKeySum_any _ a0 _ cap0 zs (FA.out _ B3).1 hsm).mono ?_
  rintro e u4 ⟨ak, ck, ys, rfl, ly, HY, hb4⟩
  have B4 := B3.trans (hb4.mono B3.size)
  replace SV := SV.below hb4 SV.lt
  replace H6 := H6.below hb4 (Nat.le_refl _)
  replace H7 := H7.below hb4 (Nat.le_refl _)
  clear hb4 B3
  go_wp2_with fail
  refine (drawPublicOf_any _ a0 _ cap0 zs (FA.out _ B4).1 hsm).mono ?_
  rintro e Z ⟨s2, i2, rfl, hb5⟩
  have BZ := B4.trans (hb5.mono B4.size)
  replace SV := SV.below hb5 SV.lt
  replace H6 := H6.below hb5 (Nat.le_refl _)
  replace H7 := H7.below hb5 (Nat.le_refl _)
  replace HY := HY.below hb5 (Nat.le_refl _)
  have TZ := (FA.out _ BZ).2
  clear hb5 B4
  have EI : Hid (∀ u : World, Below Z.heap.size Z u → Calls Tryd.prog 18 #[.int .i64 p0, .int .i64 p1, .int .i64 p2, .int .i64 p3] u fun r w' => r = .returned (.agg #[.int .i64 (seC p0 p1 p2 p3), .int .i64 (seV p0 p1 p2 p3)]) ∧ Below u.heap.size u w') := fun u h => implSecretOf_any p0 p1 p2 p3 u (TZ.below h (Nat.le_refl _))
  have ES : Hid (∀ u : World, Below Z.heap.size Z u → Calls Tryd.prog 19 #[.int .i64 p0, .int .i64 p1, .int .i64 p2, .int .i64 p3] u fun r w' => r = .returned (.agg #[.int .i64 (seC p0 p1 p2 p3), .int .i64 (seV p0 p1 p2 p3)]) ∧ Below u.heap.size u w') := fun u h => specSecretOf_any p0 p1 p2 p3 u
  have YI : Hid (∀ u : World, Below Z.heap.size Z u → Calls Tryd.prog 20 #[.slice ak ys.length ck] u fun r w' => r = .returned (.agg #[.int .i64 (kyC ys), .int .i64 (kyV ys)]) ∧ Below u.heap.size u w') := fun u h => implKeySum_any ak ck ys u (TZ.below h (Nat.le_refl _)) (HY.below h (Nat.le_refl _)) (by omega)
  have YS : Hid (∀ u : World, Below Z.heap.size Z u → Calls Tryd.prog 21 #[.slice ak ys.length ck] u fun r w' => r = .returned (.agg #[.int .i64 (kyC ys), .int .i64 (kyV ys)]) ∧ Below u.heap.size u w') := fun u h => specKeySum_any ak ck ys u (HY.below h (Nat.le_refl _)) (by omega)
  have PI : Hid (∀ u : World, Below Z.heap.size Z u → Calls Tryd.prog 22 #[.int .i64 s2, .int .i64 i2] u fun r w' => ∃ a' c', r = .returned (.agg #[.int .i64 (pkC s2 i2), .slice a' (pkL s2 i2).length c']) ∧ Has w' .i64 a' (pkL s2 i2).length (pkL s2 i2) ∧ Below u.heap.size u w') := fun u h => (implPublicOf_any s2 i2 u (TZ.below h (Nat.le_refl _))).mono fun r w' ⟨a', c', e, O, hb⟩ => ⟨a', c', e, has_of_own O (pkL_ok s2 i2).2, hb⟩
  have PS : Hid (∀ u : World, Below Z.heap.size Z u → Calls Tryd.prog 23 #[.int .i64 s2, .int .i64 i2] u fun r w' => ∃ a' c', r = .returned (.agg #[.int .i64 (pkC s2 i2), .slice a' (pkL s2 i2).length c']) ∧ Has w' .i64 a' (pkL s2 i2).length (pkL s2 i2) ∧ Below u.heap.size u w') := fun u h => (specPublicOf_any s2 i2 u).mono fun r w' ⟨a', c', e, O, hb⟩ => ⟨a', c', e, has_of_own O (pkL_ok s2 i2).2, hb⟩
  have PL : (pkL s2 i2).length ≤ 1048576 := (pkL_ok s2 i2).1
  generalize seC p0 p1 p2 p3 = ec at *
  generalize seV p0 p1 p2 p3 = ev at *
  generalize kyC ys = yc at *
  generalize kyV ys = yv at *
  generalize pkC s2 i2 = pc at *
  generalize pkL s2 i2 = pl at *
  have BZH : Hid (Below w.heap.size w Z) := BZ
  have q1 : (ec != ec) = false := by simp
  have q2 : (ev != ev) = false := by simp
  have q3 : (yc != yc) = false := by simp
  have q4 : (yv != yv) = false := by simp
  have q5 : (pc != pc) = false := by simp
  have hf0 := fldR0
  have hf1 := fldR1
  have hg0 := fldS0
  have hg1 := fldS1
  have SVH : Hid (Blk Z V3 #[.int .i64 (ssC s i x), .int .i64 (ssI s i x), .slice a6 (ssS s i x).length c6, .slice a7 (ssO s i x).length c7] 30) := SV
  have H6H : Hid (Has Z .i64 a6 (ssS s i x).length (ssS s i x)) := H6
  have H7H : Hid (Has Z .i64 a7 (ssO s i x).length (ssO s i x)) := H7
  clear TZ HY BZ ly SV H6 H7
  have D : Below Z.heap.size Z Z := Below.refl _ _
  go_wp2_with fail
  refine (EI.out _ D).mono ?_
  rintro r v1 ⟨rfl, hb⟩
  replace D := D.trans (hb.mono D.size)
  clear hb
  go_wp2_with fail
  refine (ES.out _ D).mono ?_
  rintro r v2 ⟨rfl, hb⟩
  replace D := D.trans (hb.mono D.size)
  clear hb
  go_wp2_with fail
  refine (EI.out _ D).mono ?_
  rintro r v3 ⟨rfl, hb⟩
  replace D := D.trans (hb.mono D.size)
  clear hb
  go_wp2_with fail
  refine (ES.out _ D).mono ?_
  rintro r v4 ⟨rfl, hb⟩
  replace D := D.trans (hb.mono D.size)
  clear hb
  go_wp2_with fail
  refine (YI.out _ D).mono ?_
  rintro r v5 ⟨rfl, hb⟩
  replace D := D.trans (hb.mono D.size)
  clear hb
  go_wp2_with fail
  refine (YS.out _ D).mono ?_
  rintro r v6 ⟨rfl, hb⟩
  replace D := D.trans (hb.mono D.size)
  clear hb
  go_wp2_with fail
  refine (YI.out _ D).mono ?_
  rintro r v7 ⟨rfl, hb⟩
  replace D := D.trans (hb.mono D.size)
  clear hb
  go_wp2_with fail
  refine (YS.out _ D).mono ?_
  rintro r v8 ⟨rfl, hb⟩
  replace D := D.trans (hb.mono D.size)
  clear hb
  go_wp2_with fail
  refine (PI.out _ D).mono ?_
  rintro r v9 ⟨b1, b1c, rfl, b1h, hb⟩
  replace D := D.trans (hb.mono D.size)
  clear b1h hb
  go_wp2_with fail
  refine (PS.out _ D).mono ?_
  rintro r v10 ⟨b2, b2c, rfl, b2h, hb⟩
  replace D := D.trans (hb.mono D.size)
  clear b2h hb
  go_wp2_with fail
  refine (PI.out _ D).mono ?_
  rintro r v11 ⟨b3, b3c, rfl, b3h, hb⟩
  replace D := D.trans (hb.mono D.size)
  clear hb
  go_wp2_with fail
  refine (PS.out _ D).mono ?_
  rintro r v12 ⟨b4, b4c, rfl, b4h, hb⟩
  replace D := D.trans (hb.mono D.size)
  replace b3h := b3h.below hb (Nat.le_refl _)
  clear hb
  go_wp2_with fail
  refine (lwNums_any _ _ _ _ pl _ b3h b4h PL).mono ?_
  rintro r X ⟨rfl, hb⟩
  replace D := D.trans (hb.mono D.size)
  clear hb b3h b4h EI ES YI YS PI PS PL q1 q2 q3 q4 q5
  have SX := SVH.out.below D SVH.out.lt
  have H6 := H6H.out.below D (Nat.le_refl _)
  have H7 := H7H.out.below D (Nat.le_refl _)
  have BX := BZH.out.trans (D.mono BZH.out.size)
  clear D SVH H6H H7H BZH
  have TX := (FA.out _ BX).2
  have BXH : Hid (Below w.heap.size w X) := BX
  by_cases hok : ssOk s i x = true
  case neg =>
    have e1 : ssC s i x = 3 := by unfold ssC; rw [if_neg hok]
    have e2 : ssI s i x = 0 := by unfold ssI; rw [if_neg hok]
    have e3 : ssS s i x = [] := by unfold ssS; rw [if_neg hok]
    have e4 : ssO s i x = [] := by unfold ssO; rw [if_neg hok]
    have SS : Hid (∀ u : World, Calls Tryd.prog 25 #[.int .i64 s, .int .i64 i, .int .i64 x] u fun r w' => ∃ a1 c1 a2 c2, r = .returned (.agg #[.int .i64 3, .int .i64 0, .slice a1 0 c1, .slice a2 0 c2]) ∧ Below u.heap.size u w') := fun u => by
      refine (specSignSum_any s i x u).mono ?_
      rw [e1, e2, e3, e4]
      rintro r w' ⟨b1, d1, b2, d2, rfl, _, _, _, hb⟩
      exact ⟨b1, d1, b2, d2, rfl, hb⟩
    rw [e1, e2, e3, e4] at SX
    have SV : Blk X V3 #[.int .i64 3, .int .i64 0, .slice a6 0 c6, .slice a7 0 c7] 30 := SX
    have m0 := SV.cell 0
    simp at m0
    have vl := SV.lt
    have FQ := fldG0
    clear SX H6 H7 e1 e2 e3 e4 hok BX TX
    go_wp2_with fail
    have D : Below X.heap.size X X.drew := (Below.refl _ _).drew
    clear m0 vl
    refine wp_region_noPanic ?_
    refine wp_region_held_drew (S := fun u => Blk u V3 #[.int .i64 3, .int .i64 0, .slice a6 0 c6, .slice a7 0 c7] 30) (by kernel_rfl) (SV.below (Below.refl _ _).drew SV.lt) (fun hs => ?_)
    obtain ⟨XD, hXD⟩ := al_w D
    rw [← hXD] at hs D
    simp only [← hXD]
    clear hXD
    refine take_at (i := 0) (d := some 116) (v := ?mv1) rfl rfl (by kernel_rfl) (by kernel_rfl) (by kernel_rfl) (fun _ _ _ h => h) (Or.inl ⟨by rfl, ?my1⟩) hs ?mg1
    case my1 => (intro z hSz; (have o0 := hSz.cell 0; have o1 := hSz.lt; simp at o0); go_simp; (try with_reducible rfl))
    try simp only [Act.put, List.setIfInBounds_toArray, List.set_cons_zero, List.set_cons_succ]
    refine take_at (i := 1) (d := some 117) (v := ?mv2) rfl rfl (by kernel_rfl) (by kernel_rfl) (by kernel_rfl) (fun _ _ _ h => h) (Or.inl ⟨by rfl, ?my2⟩) hs ?mg2
    case my2 => (intro z hSz; (have o0 := hSz.cell 0; have o1 := hSz.lt; simp at o0); go_simp; (try with_reducible rfl))
    try simp only [Act.put, List.setIfInBounds_toArray, List.set_cons_zero, List.set_cons_succ]
    refine take_at (i := 2) (d := some 118) (v := ?mv3) rfl rfl (by kernel_rfl) (by kernel_rfl) (by kernel_rfl) (fun _ _ _ h => h) (Or.inl ⟨by rfl, ?my3⟩) hs ?mg3
    case my3 => (intro z hSz; (have o0 := hSz.cell 0; have o1 := hSz.lt; simp at o0); go_simp; (try with_reducible rfl))
    try simp only [Act.put, List.setIfInBounds_toArray, List.set_cons_zero, List.set_cons_succ]
    refine take_at (i := 5) (d := some 121) (v := ?mv4) rfl rfl (by kernel_rfl) (by kernel_rfl) (by kernel_rfl) (fun _ _ _ h => h) (Or.inl ⟨by rfl, ?my4⟩) hs ?mg4
    case my4 => (intro z hSz; (have o0 := hSz.cell 0; have o1 := hSz.lt; simp at o0); go_simp; (try with_reducible rfl))
    try simp only [Act.put, List.setIfInBounds_toArray, List.set_cons_zero, List.set_cons_succ]
    refine take_at (i := 6) (d := some 122) (v := ?mv5) rfl rfl (by kernel_rfl) (by kernel_rfl) (by kernel_rfl) (fun _ _ _ h => h) (Or.inl ⟨by rfl, ?my5⟩) hs ?mg5
    case my5 => (intro z hSz; (have o0 := hSz.cell 0; have o1 := hSz.lt; simp at o0); go_simp; (try with_reducible rfl))
    try simp only [Act.put, List.setIfInBounds_toArray, List.set_cons_zero, List.set_cons_succ]
    refine wpAnyH_ready (rs := [3]) (by kernel_rfl) (by simp) ?_
    refine AllReadyH.cons rfl (fun K' hK' => ?_) AllReadyH.nil
    go_simp
    refine (SS.out _).mono ?_
    rintro _ uc ⟨b1, d1, b2, d2, rfl, hbc⟩
    refine hK'.out _ _ (hs.below hbc hs.lt) (fun hs => ?_)
    clear hK' K'
    try simp only [Act.put, List.setIfInBounds_toArray, List.set_cons_zero, List.set_cons_succ]
    replace D := D.trans (hbc.mono D.size)
    refine take_at (i := 4) (d := some 120) (v := ?mv6) rfl rfl (by kernel_rfl) (by kernel_rfl) (by kernel_rfl) (fun _ _ _ h => h) (Or.inl ⟨by rfl, ?my6⟩) hs ?mg6
    case my6 => (intro z hSz; (have o0 := hSz.cell 0; have o1 := hSz.lt; simp at o0); go_simp; (try with_reducible rfl))
    try simp only [Act.put, List.setIfInBounds_toArray, List.set_cons_zero, List.set_cons_succ]
    refine take_at (i := 7) (d := some 123) (v := ?mv7) rfl rfl (by kernel_rfl) (by kernel_rfl) (by kernel_rfl) (fun _ _ _ h => h) (Or.inl ⟨by rfl, ?my7⟩) hs ?mg7
    case my7 => (intro z hSz; (have o0 := hSz.cell 0; have o1 := hSz.lt; simp at o0); go_simp; (try with_reducible rfl))
    try simp only [Act.put, List.setIfInBounds_toArray, List.set_cons_zero, List.set_cons_succ]
    refine take_at (i := 8) (d := some 2) (v := ?mv8) rfl rfl (by kernel_rfl) (by kernel_rfl) (by kernel_rfl) (fun _ _ _ h => h) (Or.inl ⟨by rfl, ?my8⟩) hs ?mg8
    case my8 => (intro z hSz; (have o0 := hSz.cell 0; have o1 := hSz.lt; simp at o0); go_simp; (try with_reducible rfl))
    try simp only [Act.put, List.setIfInBounds_toArray, List.set_cons_zero, List.set_cons_succ]
    refine wpAnyH_done (by kernel_rfl) (NoPanic.normal ?_) _
    go_wp2
    go_ret
    exact ⟨rfl, BXH.out.trans (D.mono BXH.out.size)⟩
  case pos =>
    have bd : (0 ≤ s ∧ s ≤ 999) ∧ (0 ≤ i ∧ i ≤ 7) ∧ 0 ≤ x ∧ x ≤ 65520 := by simpa [ssOk] using hok
    obtain ⟨bs, bi, bx⟩ := bd
    have e1 : ssC s i x = 0 := by unfold ssC; rw [if_pos hok]
    have e2 : ssI s i x = i := by unfold ssI; rw [if_pos hok]
    have e3 : ssS s i x = shW s i x (List.range 16) := by unfold ssS; rw [if_pos hok]
    have e4 : ssO s i x = otW s i x (List.range 16) := by unfold ssO; rw [if_pos hok]
    rw [e3] at H6
    rw [e4] at H7
    rw [e1, e2, e3, e4] at SX
    have LS : (shW s i x (List.range 16)).length = 16 := by rw [shW_len]; simp
    have LO : (otW s i x (List.range 16)).length = 16 := by rw [otW_len]; simp
    have OF : sgF i (shW s i x (List.range 16)) (otW s i x (List.range 16)) = 0 := sgF_of bi LS LO (shW_all s i x _) (otW_all s i x _)
    have OC : opC i (shW s i x (List.range 16)) (otW s i x (List.range 16)) x = 0 := by unfold opC; rw [if_pos OF, if_pos bx]
    have OV : opV i (shW s i x (List.range 16)) (otW s i x (List.range 16)) x = keyS (pubL s i) := by unfold opV; rw [if_pos OC, opW_sign]
    obtain ⟨n, rfl⟩ := Int.eq_ofNat_of_zero_le bi.1
    have hn8 : n < 8 := by omega
    have KL := keysL_len s 8
    have KF : lvF (keysL s 8) = 0 := by unfold lvF; rw [keysL_all s 8, KL]; rfl
    have KG : (keysL s 8).getD n 0 = keyS (pubL s n) := keysL_get s hn8
    obtain ⟨CP1, CP2, CP3⟩ := climb_pt (zs := keysL s 8) (a := n) KF (by omega) (by rw [KL]; omega)
    rw [KL, Int.toNat_natCast, KG] at CP1 CP2
    have RV : rtV (keysL s 8) = krV s 8 := by
      unfold rtV krV krOk
      rw [if_pos KF, if_pos (decide_eq_true ⟨bs, by decide, by decide⟩)]
      rfl
    rw [RV] at CP2
    have CB : ckB n (shW s n x (List.range 16)) (otW s n x (List.range 16)) x 8 (ptL (keysL s 8) n) (krV s 8) = true := by
      unfold ckB
      rw [OV]
      exact decide_eq_true ⟨OC, CP1, CP2⟩
    have KRC : krC s 8 = 0 := by unfold krC krOk; rw [if_pos (decide_eq_true ⟨bs, by decide, by decide⟩)]
    have FI : Hid (∀ u : World, Below X.heap.size X u → Calls Tryd.prog 28 #[.agg #[.int .i64 n, .slice a6 (shW s n x (List.range 16)).length c6, .slice a7 (otW s n x (List.range 16)).length c7]] u fun r w' => r = .returned (.int .i64 0) ∧ Below u.heap.size u w') := fun u h => by
      have := implSignFault_any n a6 a7 c6 c7 _ _ u (H6.below h (Nat.le_refl _)) (H7.below h (Nat.le_refl _)) (by omega) (by omega)
      rw [OF] at this
      exact this
    have OI : Hid (∀ u : World, Below X.heap.size X u → Calls Tryd.prog 27 #[.agg #[.int .i64 n, .slice a6 (shW s n x (List.range 16)).length c6, .slice a7 (otW s n x (List.range 16)).length c7], .int .i64 x] u fun r w' => r = .returned (.agg #[.int .i64 0, .int .i64 (keyS (pubL s n))]) ∧ Below u.heap.size u w') := fun u h => by
      have := implOpenSign_any n x a6 a7 c6 c7 _ _ u (TX.below h (Nat.le_refl _)) (H6.below h (Nat.le_refl _)) (H7.below h (Nat.le_refl _)) (by omega) (by omega)
      rw [OC, OV] at this
      exact this
    have KR : Hid (∀ u : World, Below X.heap.size X u → Calls Tryd.prog 30 #[.int .i64 s, .int .i64 8] u fun r w' => r = .returned (.agg #[.int .i64 0, .int .i64 (krV s 8)]) ∧ Below u.heap.size u w') := fun u h => by
      have := implKeysRoot_any s 8 u (TX.below h (Nat.le_refl _))
      rw [KRC] at this
      exact this
    have CK : Hid (∀ (pa : Option Addr) (pc : Nat) (u : World), Below X.heap.size X u → Has u .i64 pa (ptL (keysL s 8) n).length (ptL (keysL s 8) n) → (ptL (keysL s 8) n).length ≤ pc → pc ≤ maxLen → Calls Tryd.prog 29 #[.agg #[.int .i64 n, .slice a6 (shW s n x (List.range 16)).length c6, .slice a7 (otW s n x (List.range 16)).length c7], .int .i64 x, .int .i64 8, .slice pa (ptL (keysL s 8) n).length pc, .int .i64 (krV s 8)] u fun r w' => r = .returned (.bool true) ∧ Below u.heap.size u w') := fun pa pc u h hp h1 h2 => by
      have := implCheckSign_any n x 8 (krV s 8) a6 a7 pa c6 c7 pc _ _ _ u (TX.below h (Nat.le_refl _)) (H6.below h (Nat.le_refl _)) (H7.below h (Nat.le_refl _)) hp (by omega) (by omega) (by omega) h1 h2
      rw [CB] at this
      exact this
    have PU : Hid (∀ (k : Nat) (u : World), k < 8 → Below X.heap.size X u → Calls Tryd.prog 22 #[.int .i64 s, .int .i64 k] u fun r w' => ∃ a' c', r = .returned (.agg #[.int .i64 0, .slice a' (pubL s k).length c']) ∧ Has w' .i64 a' (pubL s k).length (pubL s k) ∧ Below u.heap.size u w') := fun k u hk h => by
      refine (implPublicOf_any s k u (TX.below h (Nat.le_refl _))).mono ?_
      have ok : siOk s k = true := by unfold siOk; exact decide_eq_true ⟨bs, by omega, by omega⟩
      rw [show pkC s k = 0 by unfold pkC; rw [if_pos ok], show pkL s k = pubL s k by unfold pkL; rw [if_pos ok]]
      rintro r w' ⟨ap, cp, rfl, O, hb⟩
      exact ⟨ap, cp, rfl, has_of_own O (allS_wf (pubL_all s k)), hb⟩
    have KU : Hid (∀ (k : Nat) (a : Option Addr) (c : Nat) (u : World), Below X.heap.size X u → Has u .i64 a (pubL s k).length (pubL s k) → Calls Tryd.prog 20 #[.slice a (pubL s k).length c] u fun r w' => r = .returned (.agg #[.int .i64 0, .int .i64 (keyS (pubL s k))]) ∧ Below u.heap.size u w') := fun k a c u h hp => by
      have LP := pubL_len s k
      have := implKeySum_any a c (pubL s k) u (TX.below h (Nat.le_refl _)) hp (by omega)
      rw [kyC_of LP (pubL_all s k), kyV_of LP (pubL_all s k)] at this
      exact this
    have PA : Hid (∀ (a : Option Addr) (c : Nat) (u : World), Below X.heap.size X u → Has u .i64 a (keysL s 8).length (keysL s 8) → (keysL s 8).length ≤ c → c ≤ maxLen → Calls Tryd.prog 26 #[.slice a (keysL s 8).length c, .int .i64 n] u fun r w' => ∃ pa pc, r = .returned (.agg #[.int .i64 (ptC (keysL s 8) n), .slice pa (ptL (keysL s 8) n).length pc]) ∧ Has w' .i64 pa (ptL (keysL s 8) n).length (ptL (keysL s 8) n) ∧ ((ptL (keysL s 8) n).length ≤ pc ∧ pc ≤ maxLen) ∧ Below u.heap.size u w') := fun a c u h hp h1 h2 => by
      refine (implPathOf_any a c (keysL s 8) n u (TX.below h (Nat.le_refl _)) hp (by omega) h1 h2).mono ?_
      rintro r w' ⟨pa, pc, rfl, O, hb⟩
      exact ⟨pa, pc, rfl, has_of_own O (ptL_wf _ _), own_caps8 O, hb⟩
    have KGH : Hid ((keysL s 8).getD n 0 = keyS (pubL s n)) := KG
    have KLH : Hid ((keysL s 8).length = 8) := KL
    clear e1 e2 e3 e4 LS LO OF OC OV KF KG CP1 CP2 CP3 RV CB KRC H6 H7 TX KL hok
    generalize shW s n x (List.range 16) = sh at *
    generalize otW s n x (List.range 16) = ot at *
    have m0 : X.cell? ⟨V3, 0, none⟩ = some (.int .i64 0) := (SX.cell 0).trans rfl
    have SXH : Hid (Blk X V3 #[.int .i64 0, .int .i64 n, .slice a6 sh.length c6, .slice a7 ot.length c7] 30) := SX
    have vl := SX.lt
    have hO0 := empty_ownN X
    have bE : Below X.heap.size X (X.alloc (.cells #[] 2)) := (Below.refl _ _).alloc (Nat.le_refl _) _
    obtain ⟨i0, hi, hz0, hz1, hz2⟩ := info_parts info64
    clear SX BX
    go_wp2_with fail
    go_loopw [14, 15] (fun v k wr => ∃ j : Nat, j ≤ 8 ∧ k = .int .i64 j ∧ OwnN wr X.heap.size v (keysL s j) ∧ Below X.heap.size X wr) (fun _ k _ => 8 - (intOf k).toNat)
    case atStart => exact ⟨0, Nat.zero_le _, rfl, hO0, bE⟩
    case round =>
      clear m0 vl hO0 bE
      obtain ⟨j, hj, rfl, hO, hbel⟩ := hrel
      obtain ⟨va, vc, rfl, _, _⟩ := own_shape1 hO
      have zr := hbel.size
      by_cases hlt : j < 8
      · have hlt' : (j : Int) < 8 := by omega
        have zl : (keysL s j).length ≤ 32 := by rw [keysL_len]; omega
        have HS2 : Hid (keysL s (j + 1) = keysL s j ++ [keyS (pubL s j)]) := keysL_succ s j
        have PJ : Hid (∀ u : World, Below X.heap.size X u → Calls Tryd.prog 22 #[.int .i64 s, .int .i64 j] u fun r w' => ∃ a' c', r = .returned (.agg #[.int .i64 0, .slice a' (pubL s j).length c']) ∧ Has w' .i64 a' (pubL s j).length (pubL s j) ∧ Below u.heap.size u w') := fun u h => PU.out j u hlt h
        have KJ : Hid (∀ (a : Option Addr) (c : Nat) (u : World), Below X.heap.size X u → Has u .i64 a (pubL s j).length (pubL s j) → Calls Tryd.prog 20 #[.slice a (pubL s j).length c] u fun r w' => r = .returned (.agg #[.int .i64 0, .int .i64 (keyS (pubL s j))]) ∧ Below u.heap.size u w') := fun a c u h hp => KU.out j a c u h hp
        generalize keyS (pubL s j) = y at *
        generalize pubL s j = ps at *
        generalize keysL s j = ks at *
        go_wp2_with fail
        refine (PJ.out _ hbel).mono ?_
        rintro r v1 ⟨pa, pc, rfl, H1, hb1⟩
        have B1 := hbel.trans (hb1.mono zr)
        replace hO := own_below hO hb1
        clear hb1
        go_wp2_with fail
        refine (KJ.out pa pc _ B1 H1).mono ?_
        rintro r v2 ⟨rfl, hb2⟩
        have B2 := B1.trans (hb2.mono B1.size)
        replace hO := own_below hO hb2
        clear hb2 H1
        have z2 := B2.size
        go_wp2_with (at_builtin; refine wpList_append_own _ rfl _ _ 26 rfl X.heap.size 2 i0 (.int .i64 0) 1 8 Tryd.underlying26 hi hz0 hz1 hz2 rfl (by decide) _ (ks.length) _ rfl (hO.alloc _) ⟨v2.heap.size, 0, none⟩ 1 1 [.int .i64 y] rfl (by simp) (lit_new _ [.int .i64 y] 2) (by intro u hu; simp at hu; rcases hu with rfl <;> rfl) (by unfold maxLen; omega) (by omega) (by simp; omega) ?_; intro v5 w5 hn5 hg5 hx5)
        have B5 : Below X.heap.size X w5 := (B2.alloc z2 _).trans ((Below.refl _ _).grown hg5 (by simp; omega) (fun k hk => (hO.lt k hk).1))
        have O5 : OwnN w5 X.heap.size v5 (keysL s (j + 1)) := by
          rw [HS2.out]
          show World.ownsRow w5 _ _ 1 v5 (ks ++ [y]).length _
          rw [List.length_append]
          simpa using hn5
        clear hn5 hg5 hx5 hO
        go_wp2
        go_roundw
        case rel => exact ⟨j + 1, by omega, by go_num, O5, B5⟩
        case measure => simp [intOf]; omega
      · obtain rfl : j = 8 := by omega
        have hj8 : ¬ ((8 : Nat) : Int) < 8 := by omega
        obtain ⟨g, rfl, _, kg⟩ := ownN_at hO (by have := KLH.out; omega)
        have ccap := own_caps8 hO
        have cell := (ownN_cell hO n (by have := KLH.out; omega)).1
        rw [getD_at (by have := KLH.out; omega), KGH.out] at cell
        have HK := has_of_own hO (allS_wf (keysL_all s 8))
        have PAJ := PA.out _ vc wr hbel HK ccap.1 ccap.2
        have KL8 := KLH.out
        have CKH : Hid (∀ (pa : Option Addr) (pc : Nat) (u : World), Below X.heap.size X u → Has u .i64 pa (ptL (keysL s 8) n).length (ptL (keysL s 8) n) → (ptL (keysL s 8) n).length ≤ pc → pc ≤ maxLen → Calls Tryd.prog 29 #[.agg #[.int .i64 n, .slice a6 sh.length c6, .slice a7 ot.length c7], .int .i64 x, .int .i64 8, .slice pa (ptL (keysL s 8) n).length pc, .int .i64 (krV s 8)] u fun r w' => r = .returned (.bool true) ∧ Below u.heap.size u w') := CK.out
        rw [KL8] at PAJ ⊢
        generalize ptL (keysL s 8) n = ps at *
        generalize ptC (keysL s 8) n = pc0 at *
        generalize keyS (pubL s n) = kk at *
        generalize krV s 8 = rt at *
        clear PU KU PA CK KGH KLH KL8 HK hj ccap hO
        go_wp2_with fail
        refine PAJ.mono ?_
        rintro r v1 ⟨pa, pc, rfl, HP, ⟨h1, h2⟩, hb1⟩
        have B1 := hbel.trans (hb1.mono zr)
        have cell1 := (hb1.cell (p := ⟨g, n, none⟩) kg).trans cell
        have kg1 : g < v1.heap.size := Nat.lt_of_lt_of_le kg hb1.size
        obtain ⟨T, hT⟩ : ∃ T, T = v1.alloc (.cells #[.int .i64 pc0, .slice pa ps.length pc] 42) := ⟨_, rfl⟩
        obtain ⟨V4, hV4⟩ : ∃ V, V = v1.heap.size := ⟨_, rfl⟩
        have S4 : Blk T V4 #[.int .i64 pc0, .slice pa ps.length pc] 42 := by rw [hT, hV4]; exact Blk.new _ _ _
        have bT : Below v1.heap.size v1 T := by rw [hT]; exact (Below.refl _ _).alloc (Nat.le_refl _) _
        have BT := B1.trans (bT.mono B1.size)
        have HPT := HP.below bT (Nat.le_refl _)
        have cellT := (bT.cell (p := ⟨g, n, none⟩) kg1).trans cell1
        have kgT : g < T.heap.size := Nat.lt_of_lt_of_le kg1 bT.size
        have ST := SXH.out.below B1 SXH.out.lt
        have m1 : v1.cell? ⟨V3, 1, none⟩ = some (.int .i64 n) := (ST.cell 1).trans rfl
        have m2 : v1.cell? ⟨V3, 2, none⟩ = some (.slice a6 sh.length c6) := (ST.cell 2).trans rfl
        have m3 : v1.cell? ⟨V3, 3, none⟩ = some (.slice a7 ot.length c7) := (ST.cell 3).trans rfl
        have vT := ST.lt
        clear cell cell1 hb1 HP B1 bT hbel PAJ kg kg1 ST
        go_wp2_with fail
        simp only [← hT, ← hV4]
        clear hT hV4
        refine (OI.out _ BT).mono ?_
        rintro r v2 ⟨rfl, hb2⟩
        have B2 := BT.trans (hb2.mono BT.size)
        replace S4 := S4.below hb2 S4.lt
        have HP2 := HPT.below hb2 (Nat.le_refl _)
        have cell2 := (hb2.cell (p := ⟨g, n, none⟩) kgT).trans cellT
        have kg2 : g < v2.heap.size := Nat.lt_of_lt_of_le kgT hb2.size
        obtain ⟨Y, hY⟩ : ∃ Y, Y = v2.alloc (.cells #[.int .i64 0, .int .i64 kk] 38) := ⟨_, rfl⟩
        obtain ⟨V5, hV5⟩ : ∃ V, V = v2.heap.size := ⟨_, rfl⟩
        have S5 : Blk Y V5 #[.int .i64 0, .int .i64 kk] 38 := by rw [hY, hV5]; exact Blk.new _ _ _
        have bY : Below v2.heap.size v2 Y := by rw [hY]; exact (Below.refl _ _).alloc (Nat.le_refl _) _
        have BY := B2.trans (bY.mono B2.size)
        replace S4 := S4.below bY S4.lt
        have HPY := HP2.below bY (Nat.le_refl _)
        have cellY := (bY.cell (p := ⟨g, n, none⟩) kg2).trans cell2
        have kgY : g < Y.heap.size := Nat.lt_of_lt_of_le kg2 bY.size
        have SY := SXH.out.below BY SXH.out.lt
        have HPYH : Hid (Has Y .i64 pa ps.length ps) := HPY
        have BYX : Hid (Below X.heap.size X Y) := BY
        have hne : Nonempty (KeptW Y) := ⟨⟨Y, Below.refl _ _⟩⟩
        have KB : Hid (∀ d : KeptW Y, Below X.heap.size X d.wd) := fun d => BYX.out.trans (d.hb.mono BYX.out.size)
        have CKY : Hid (∀ d : KeptW Y, Calls Tryd.prog 29 #[.agg #[.int .i64 n, .slice a6 sh.length c6, .slice a7 ot.length c7], .int .i64 x, .int .i64 8, .slice pa ps.length pc, .int .i64 rt] d.wd fun r w' => r = .returned (.bool true) ∧ Below d.wd.heap.size d.wd w') := fun d => CKH.out pa pc d.wd (KB.out d) (HPYH.out.below d.hb (Nat.le_refl _)) h1 h2
        have K1 := KeptW.cell (v := .int .i64 n) ((SY.cell 1).trans rfl) SY.lt
        have K2 := KeptW.cell (v := .slice a6 sh.length c6) ((SY.cell 2).trans rfl) SY.lt
        have K3 := KeptW.cell (v := .slice a7 ot.length c7) ((SY.cell 3).trans rfl) SY.lt
        have K4 := KeptW.cell (v := .slice pa ps.length pc) ((S4.cell 1).trans rfl) S4.lt
        have K5 := KeptW.cell (v := .int .i64 0) ((S5.cell 0).trans rfl) S5.lt
        have K6 := KeptW.cell (v := .int .i64 kk) ((S5.cell 1).trans rfl) S5.lt
        have K7 := KeptW.cell cellY kgY
        have hkk : (kk == kk) = true := by simp
        have hnn : ((n : Int) == (n : Int)) = true := by simp
        have h00 : ((0 : Int) == 0) = true := rfl
        have hn0 : (0 : Int) ≤ (n : Int) := by omega
        have hn8' : (n : Int) < 8 := by omega
        have dn0 : decide ((0 : Int) ≤ (n : Int)) = true := by simp
        have dn8 : decide ((n : Int) < 8) = true := by simp; omega
        clear cell2 hb2 HP2 HPT HPY B2 BT bY BY kg2 kgT cellY kgY SY S4 S5 m1 m2 m3 vT cellT h1 h2 CKH OI
        go_wp2_with fail
        simp only [← hY, ← hV5]
        clear hY hV5
        refine wp_region_kept (by kernel_rfl) (by kernel_rfl) ?_
        try simp only [List.append_eq, List.cons_append, List.nil_append]
        iterate 45 (go_big_quiet_step (first | (go_at_call 28; exact KeptW.calls (FI.out _ (KB.out _))) | (go_at_call 30; exact KeptW.calls (KR.out _ (KB.out _))) | (go_at_call 29; exact KeptW.calls (CKY.out _))))
        refine wpQuiet_nil ?_
        rintro _ ⟨d1, rfl⟩
        go_wp2
        go_ret
        exact ⟨rfl, BXH.out.trans ((KB.out d1).mono BXH.out.size)⟩

set_option maxRecDepth 100000 in
theorem fnKeys_lifted (os : Os) (started : os.Started) (H : Type) (enc : TypeId × Value → H) :
    ReturnsInHanded {} Tryd.checked os 3 .any (fun w args => (Rows.fnKeysSpec.pre enc Tryd.prog Tryd.f3 [] false w args ∧ laidMetH Tryd.prog [("loop.example/g00565/impl.pieceStarts", Rows.laid_loop_example_g00565_impl_pieceStarts)] w) ∧ sizedMet enc Tryd.prog Tryd.f3 (OpenSpec.ofChange Rows.fnKeysSpec) false w args) (Rows.fnKeysSpec.post enc Tryd.prog Tryd.f3 false true false false) := by
  refine returnsInHanded_of_change_and (C := Tryd.checked) (X := fun w _ => laidMetH Tryd.prog [("loop.example/g00565/impl.pieceStarts", Rows.laid_loop_example_g00565_impl_pieceStarts)] w) (fun _ _ _ hh h => h.of_heap hh) own started (by kernel_rfl) Tryd.func3
    (ChangeSpec.witness_shaped (enc := enc) (C := Tryd.checked) (os := os) (X := fun w _ => laidMetH Tryd.prog [("loop.example/g00565/impl.pieceStarts", Rows.laid_loop_example_g00565_impl_pieceStarts)] w) false (World.doorLaid Tryd.prog 400 os) #[.slice none 0 0] 8 rfl (World.shaped_of_RefB (by kernel_rfl) (by kernel_rfl)) (by kernel_rfl) (by kernel_rfl) (by kernel_rfl) (door_met os _)) ?_
  intro W base args ds gs before hval0 hW _ _ hL _
  have hval : ∀ (j : Nat) t v, Tryd.f3.params[j]? = some t → args[j]? = some v → Value.okWide Tryd.prog W .any base t v := hval0
  have hW' := hW
  obtain ⟨p, q, hA0, hV, rfl, hfz, hnd⟩ := hW
  have hA : DataW.TrodAll enc Tryd.prog W 0 (fun _ => true) true Tryd.f3.params.toList args.toList ds p := hA0
  rw [Tryd.params3] at hA hval
  obtain ⟨v0, vs0, d0, ds0, p0, q0, hargs, rfl, rfl, h0, r0⟩ := trodAll_cons hA
  obtain ⟨rfl, rfl, rfl⟩ := trodAll_nil r0
  obtain rfl : args = #[v0] := by cases args; simp_all
  obtain ⟨g, rfl⟩ : ∃ g, gs = [g] := by obtain ⟨_, _, _, _, d, _, e, _⟩ := trodVars_one hV; exact ⟨d, e⟩
  have g0 := h0
  have lt0 : ∀ x ∈ p0, x.block < W.heap.size := by obtain ⟨m, hm⟩ := g0; exact DataW.trod_lt m _ _ _ hm
  obtain ⟨a0, len0, cap0, rfl⟩ := okWide_slice Tryd.underlying22 (hval 0 22 v0 rfl rfl)
  obtain ⟨z0, w0⟩ : ∃ zs, IsRow .u8 W a0 len0 cap0 zs := by
    obtain ⟨fuel, hf⟩ := h0
    rcases open_ints Tryd.underlying22 Tryd.underlying5 (by kernel_rfl) hf with ⟨hcs, _⟩ | ⟨x, l, c, zs, hcs, _, hl, hm, hz, _, hcell, hwz⟩
    · simp [Value.cells] at hcs
      obtain ⟨rfl, rfl, rfl⟩ := hcs
      exact ⟨[], .inl ⟨rfl, rfl, rfl, rfl⟩⟩
    · simp [Value.cells] at hcs
      obtain ⟨rfl, rfl, rfl⟩ := hcs
      exact ⟨zs, .inr ⟨_, rfl, hl, hm, by simpa using hz, hcell, hwz⟩⟩
  clear hA0 hval0
  refine (fnKeys_walk W (tab_of_laid hL) a0 len0 cap0 z0 w0).mono fun e W' ⟨he, bel⟩ => ?_
  subst he
  exact ⟨_, rfl, _, _, _, [], _, _, hW', trodAll_mk1 (shut_bool Tryd.underlying4 _), (trodAll_cons_mk (Below.trod laidOut (by kernel_rfl) (of_decide_eq_true (by kernel_rfl)) g0 bel lt0) trodAll_mk0), Below.trodVars laidOut bel (by kernel_rfl) hV, bel.frame _, fun h => by cases h⟩

theorem fnKeys_row : Rows.FnKeysSaid :=
  OpenClaim.holds_of_wide 3 Tryd.f3 rfl rfl rfl rfl rfl rfl rfl ⟨rfl, rfl, rfl, rfl, rfl⟩ rfl rfl rfl rfl rfl (by kernel_rfl) Tryd.func3 (by kernel_rfl)
    (of_decide_eq_true (by kernel_rfl)) (by unfold Func.isWrapper; first | (rw [if_pos (by decide +kernel)]; kernel_rfl) | (rw [if_neg (by decide +kernel)]; exact ⟨rfl, rfl⟩))
    (fun os started H enc _ => fnKeys_lifted os started H enc)

theorem fnKeys_holds : Rows.FnKeysCardSaid :=
  Claim7.holds_tied_plain_at .later [] [.data] true Rows.fnKeysCard.stood.harness Rows.fnKeysCard.stood.looks
    fnKeys_row (fun _ h => by cases h) (by kernel_rfl) (fun _ h => by cases h) fnKeys_row_tie rfl ⟨rfl, rfl⟩ (by kernel_rfl) rfl
    (fun f fn hf hfn => by
      obtain rfl : f = 3 := Option.some.inj ((show Tryd.prog.funcNamed "loop.example/g00565/laws.FnKeys" = some 3 by kernel_rfl).symm.trans hf) |>.symm
      obtain rfl : fn = Tryd.f3 := (Option.some.inj (Tryd.func3.symm.trans hfn)).symm
      exact ⟨by kernel_rfl, fun j t ht => by
        rw [Tryd.params3] at ht
        have h3 : t = 22 := by
          match j, ht with
          | 0, ht => simp at ht; simp [← ht]
          | _ + 1, ht => simp at ht
        rcases h3 with rfl
        all_goals exact (show Tryd.prog.wantsStandIn _ = false by kernel_rfl)⟩)
    (by kernel_rfl)
#print axioms fnKeys_holds
end Go.Proofs.YtncckpdglimdoaaDoor
