/- At every code the law on heads holds: a head is read back from its bytes, and one that was signed is taken by who has the root of the keys; the table that begins pieces starts as the program's text lays it. -/
import Derived.Test.YtffidkoejlebeaaGreatDoorHdK
import Derived.Test.YtffidkoejlebeaaGreatDoorHdX
import Derived.Test.YtffidkoejlebeaaGreatDoorHdZ
import Derived.Test.YtffidkoejlebeaaGreatDoorHdL9
import Derived.Test.YtffidkoejlebeaaGreatDoorIHr
import Derived.Test.YtffidkoejlebeaaGreatDoorIHc
import Derived.Test.YtffidkoejlebeaaGreatDoorIHg
import Derived.Test.YtffidkoejlebeaaGreatDoorIHs
import Derived.Test.YtffidkoejlebeaaGreatDoorKyR
import Derived.Test.YtffidkoejlebeaaGreatDoorRegB
import Derived.Test.YtffidkoejlebeaaGreatDoorPathsP
import Derived.Deep.DeepCutAuto
import Derived.Deep.RegionWith
import Derived.Deep.RegionHeld3
import Derived.Test.YtffidkoejlebeaaGreatDoorDoor
namespace Go.Proofs.YtffidkoejlebeaaGreatDoor
open Go.ChangeShapes Go.WideShapes Go.ChangeAt Go.RowKit
set_option linter.unusedVariables false
set_option linter.unusedSimpArgs false

set_option maxRecDepth 100000 in
set_option maxHeartbeats 16000000 in
theorem fnHeads_walk (w : World) (hT : Tab w) (a0 : Option Addr) (len0 cap0 : Nat) (z0 : List Int) (w0 : IsRow .u8 w a0 len0 cap0 z0) :
    Calls Tryz.prog 3 #[.slice a0 len0 cap0] w fun e w' => e = .returned (.bool true) ∧ Below w.heap.size w w' := by
  have A0 := Has.of_row w0
  have hlen := A0.1
  generalize z0.take len0 = zs at A0 hlen
  subst hlen
  clear w0
  by_cases hbig : 1048576 < zs.length
  case pos =>
    go_enter Tryz.func3, Tryz.ntmps3
    go_wp2_with fail
    refine (lwBig_yes _ a0 _ cap0 hbig).mono ?_
    rintro r u ⟨rfl, rfl⟩
    go_wp2
    go_ret
    exact ⟨rfl, Below.refl _ _⟩
  have hsm : zs.length ≤ 1048576 := by omega
  have FA : Hid (∀ wx : World, Below w.heap.size w wx → Has wx .u8 a0 zs.length zs ∧ Tab wx) := fun wx h => ⟨A0.below h (Nat.le_refl _), hT.below h (Nat.le_refl _)⟩
  clear hT hbig A0
  go_enter Tryz.func3, Tryz.ntmps3
  go_wp2_with fail
  refine (lwBig_no _ a0 _ cap0 hsm).mono ?_
  rintro r u ⟨rfl, hu⟩
  have hu2 := hu.symm
  subst hu2
  clear hu
  go_wp2_with fail
  refine (drawReadHead_any _ a0 _ cap0 zs (FA.out _ (Below.refl _ _)).1 hsm).mono ?_
  rintro e u1 ⟨gd, dc, ds, rfl, dl, dc1, dc2, HD, hb1⟩
  go_wp2_with fail
  refine (implReadHead_any gd 0 dc ds _ (FA.out _ hb1).2 HD (by omega) dc1 dc2).mono ?_
  rintro r u2 ⟨rfl, hb2⟩
  have B2 := hb1.trans (hb2.mono hb1.size)
  replace HD := HD.below hb2 (Nat.le_refl _)
  obtain ⟨U, hU⟩ : ∃ U, U = u2.alloc (.cells #[.int .i64 (rdC9 ds), .int .i64 (rdI ds (rdZ9 ds)), .int .i64 (rdI ds (rdR ds)), .int .i64 (rdI ds (rdM7 ds)), .int .i64 (rdI ds (rdK ds))] 28) := ⟨_, rfl⟩
  obtain ⟨Vu, hV⟩ : ∃ V, V = u2.heap.size := ⟨_, rfl⟩
  have SV : Blk U Vu #[.int .i64 (rdC9 ds), .int .i64 (rdI ds (rdZ9 ds)), .int .i64 (rdI ds (rdR ds)), .int .i64 (rdI ds (rdM7 ds)), .int .i64 (rdI ds (rdK ds))] 28 := by rw [hU, hV]; exact Blk.new _ _ _
  have bU : Below u2.heap.size u2 U := by rw [hU]; exact (Below.refl _ _).alloc (Nat.le_refl _) _
  have KU : Hid (∀ u : World, Below U.heap.size U u → Has u .u8 (some ⟨gd, 0, none⟩) ds.length ds ∧ Blk u Vu #[.int .i64 (rdC9 ds), .int .i64 (rdI ds (rdZ9 ds)), .int .i64 (rdI ds (rdR ds)), .int .i64 (rdI ds (rdM7 ds)), .int .i64 (rdI ds (rdK ds))] 28 ∧ Below w.heap.size w u) := fun u h => by
    have b := bU.trans (h.mono bU.size)
    exact ⟨HD.below b (Nat.le_refl _), SV.below h SV.lt, B2.trans (b.mono B2.size)⟩
  clear HD SV bU B2 hb1 hb2
  go_wp2_with fail
  simp only [← hU, ← hV]
  clear hU hV
  refine (drawPackHead_any _ a0 _ cap0 zs (FA.out _ (KU.out _ (Below.refl _ _)).2.2).1 hsm).mono ?_
  rintro e u3 ⟨z, r, m, k, rfl, hbd, hb3⟩
  clear hbd
  obtain ⟨F, hU⟩ : ∃ U, U = u3.alloc (.cells #[.int .i64 z, .int .i64 r, .int .i64 m, .int .i64 k] 26) := ⟨_, rfl⟩
  obtain ⟨Vh, hV⟩ : ∃ V, V = u3.heap.size := ⟨_, rfl⟩
  have SV : Blk F Vh #[.int .i64 z, .int .i64 r, .int .i64 m, .int .i64 k] 26 := by rw [hU, hV]; exact Blk.new _ _ _
  have bU : Below u3.heap.size u3 F := by rw [hU]; exact (Below.refl _ _).alloc (Nat.le_refl _) _
  have KF : Hid (∀ u : World, Below F.heap.size F u → Blk u Vh #[.int .i64 z, .int .i64 r, .int .i64 m, .int .i64 k] 26 ∧ Below U.heap.size U u) := fun u h => ⟨SV.below h SV.lt, hb3.trans ((bU.trans (h.mono bU.size)).mono hb3.size)⟩
  clear SV bU hb3
  go_wp2_with fail
  simp only [← hU, ← hV]
  clear hU hV
  refine (implPackHead_any z r m k _ (FA.out _ (KU.out _ (KF.out _ (Below.refl _ _)).2).2.2).2).mono ?_
  rintro e u4 ⟨ap, pc, rfl, OP, hb4⟩
  have HP := has_of_own OP hdP_wf
  have pcap := own_caps9 OP
  have pat : 0 < (hdP z r m k).length → ∃ g, ap = some ⟨g, 0, none⟩ := own_at9 OP
  clear OP
  obtain ⟨P, hU⟩ : ∃ U, U = u4.alloc (.cells #[.int .i64 (hdF z r m k), .slice ap (hdP z r m k).length pc] 32) := ⟨_, rfl⟩
  obtain ⟨Vp, hV⟩ : ∃ V, V = u4.heap.size := ⟨_, rfl⟩
  have SV : Blk P Vp #[.int .i64 (hdF z r m k), .slice ap (hdP z r m k).length pc] 32 := by rw [hU, hV]; exact Blk.new _ _ _
  have bU : Below u4.heap.size u4 P := by rw [hU]; exact (Below.refl _ _).alloc (Nat.le_refl _) _
  have KP : Hid (∀ u : World, Below P.heap.size P u → Blk u Vp #[.int .i64 (hdF z r m k), .slice ap (hdP z r m k).length pc] 32 ∧ Has u .u8 ap (hdP z r m k).length (hdP z r m k) ∧ Below F.heap.size F u) := fun u h => by
    have b := bU.trans (h.mono bU.size)
    exact ⟨SV.below h SV.lt, HP.below b (Nat.le_refl _), hb4.trans (b.mono hb4.size)⟩
  clear SV bU hb4 HP
  go_wp2_with fail
  simp only [← hU, ← hV]
  clear hU hV
  refine (drawCheckHead_any _ a0 _ cap0 zs (FA.out _ (KU.out _ (KF.out _ (KP.out _ (Below.refl _ _)).2.2).2).2.2).1 hsm).mono ?_
  rintro e u5 ⟨rt, ct, cz, cr, cm, ck, ci, a1, a2, a3, c1, c2, c3, s1, s2, s3, rfl, _, hct, _, hL1, HC, hb5⟩
  obtain ⟨C, hU⟩ : ∃ U, U = u5.alloc (.cells #[.int .i64 cz, .int .i64 cr, .int .i64 cm, .int .i64 ck, .int .i64 ci, .slice a1 s1.length c1, .slice a2 s2.length c2, .slice a3 s3.length c3] 38) := ⟨_, rfl⟩
  obtain ⟨Vc, hV⟩ : ∃ V, V = u5.heap.size := ⟨_, rfl⟩
  have SV : Blk C Vc #[.int .i64 cz, .int .i64 cr, .int .i64 cm, .int .i64 ck, .int .i64 ci, .slice a1 s1.length c1, .slice a2 s2.length c2, .slice a3 s3.length c3] 38 := by rw [hU, hV]; exact Blk.new _ _ _
  have bU : Below u5.heap.size u5 C := by rw [hU]; exact (Below.refl _ _).alloc (Nat.le_refl _) _
  have KC : Hid (∀ u : World, Below C.heap.size C u → Blk u Vc #[.int .i64 cz, .int .i64 cr, .int .i64 cm, .int .i64 ck, .int .i64 ci, .slice a1 s1.length c1, .slice a2 s2.length c2, .slice a3 s3.length c3] 38 ∧ H3 u a1 a2 a3 s1 s2 s3 ∧ Below P.heap.size P u) := fun u h => by
    have b := bU.trans (h.mono bU.size)
    exact ⟨SV.below h SV.lt, ⟨HC.one.below b (Nat.le_refl _), HC.two.below b (Nat.le_refl _), HC.three.below b (Nat.le_refl _)⟩, hb5.trans (b.mono hb5.size)⟩
  clear SV bU hb5 HC
  go_wp2_with fail
  simp only [← hU, ← hV]
  clear hU hV
  refine (drawSameSigned_any _ a0 _ cap0 zs (FA.out _ (KU.out _ (KF.out _ (KP.out _ (KC.out _ (Below.refl _ _)).2.2).2.2).2).2.2).1 hsm).mono ?_
  rintro e u6 ⟨xz, xr, xm, xk, xi, ym, b1, b2, b3, e1, e2, e3, d1, d2, d3, f1, f2, f3, t1, t2, t3, rfl, _, _, hL2, HX, HY, hb6⟩
  obtain ⟨Vx, hVx⟩ : ∃ V, V = u6.heap.size := ⟨_, rfl⟩
  obtain ⟨Vy, hVy⟩ : ∃ V, V = u6.heap.size + 1 := ⟨_, rfl⟩
  obtain ⟨Z, hZ⟩ : ∃ Z, Z = (u6.alloc (.cells #[.int .i64 xz, .int .i64 xr, .int .i64 xm, .int .i64 xk, .int .i64 xi, .slice b1 t1.length d1, .slice b2 t2.length d2, .slice b3 t3.length d3] 38)).alloc (.cells #[.int .i64 xz, .int .i64 xr, .int .i64 ym, .int .i64 xk, .int .i64 xi, .slice e1 t1.length f1, .slice e2 t2.length f2, .slice e3 t3.length f3] 38) := ⟨_, rfl⟩
  have SX : Blk Z Vx #[.int .i64 xz, .int .i64 xr, .int .i64 xm, .int .i64 xk, .int .i64 xi, .slice b1 t1.length d1, .slice b2 t2.length d2, .slice b3 t3.length d3] 38 := by rw [hZ, hVx]; exact (Blk.new _ _ _).below ((Below.refl _ _).alloc (Nat.le_refl _) _) (Blk.new _ _ _).lt
  have SY : Blk Z Vy #[.int .i64 xz, .int .i64 xr, .int .i64 ym, .int .i64 xk, .int .i64 xi, .slice e1 t1.length f1, .slice e2 t2.length f2, .slice e3 t3.length f3] 38 := by
    have := Blk.new (u6.alloc (.cells #[.int .i64 xz, .int .i64 xr, .int .i64 xm, .int .i64 xk, .int .i64 xi, .slice b1 t1.length d1, .slice b2 t2.length d2, .slice b3 t3.length d3] 38)) #[.int .i64 xz, .int .i64 xr, .int .i64 ym, .int .i64 xk, .int .i64 xi, .slice e1 t1.length f1, .slice e2 t2.length f2, .slice e3 t3.length f3] 38
    rw [World.size_alloc] at this
    rw [hZ, hVy]; exact this
  have bZ : Below u6.heap.size u6 Z := by rw [hZ]; exact ((Below.refl _ _).alloc (Nat.le_refl _) _).alloc (by simp) _
  have X1 := HX.one.below bZ (Nat.le_refl _)
  have X2 := HX.two.below bZ (Nat.le_refl _)
  have X3 := HX.three.below bZ (Nat.le_refl _)
  have Y1 := HY.one.below bZ (Nat.le_refl _)
  have Y2 := HY.two.below bZ (Nat.le_refl _)
  have Y3 := HY.three.below bZ (Nat.le_refl _)
  obtain ⟨SC, HC, BP⟩ := KC.out Z (hb6.trans (bZ.mono hb6.size))
  obtain ⟨SP, HP, BF⟩ := KP.out Z BP
  obtain ⟨SH, BU⟩ := KF.out Z BF
  obtain ⟨HD, SU, BZ⟩ := KU.out Z BU
  have TZ := (FA.out _ BZ).2
  clear KC KP KF KU BP BF BU bZ hb6 HX HY
  obtain ⟨l1, l2, l3, l4, l5⟩ := hL1
  obtain ⟨l6, l7, l8, l9, l10⟩ := hL2
  have SR : Hid (∀ u : World, Below Z.heap.size Z u → Calls Tryz.prog 11 #[.slice (some ⟨gd, 0, none⟩) ds.length dc] u fun rr w' => rr = .returned (.agg #[.int .i64 (rdC9 ds), .int .i64 (rdI ds (rdZ9 ds)), .int .i64 (rdI ds (rdR ds)), .int .i64 (rdI ds (rdM7 ds)), .int .i64 (rdI ds (rdK ds))]) ∧ Below u.heap.size u w') := fun u h => specReadHead_any _ dc ds u (HD.below h (Nat.le_refl _)) (by omega)
  have PU : Hid (rdC9 ds = 0 → ∀ u : World, Below Z.heap.size Z u → Calls Tryz.prog 8 #[.agg #[.int .i64 (rdI ds (rdZ9 ds)), .int .i64 (rdI ds (rdR ds)), .int .i64 (rdI ds (rdM7 ds)), .int .i64 (rdI ds (rdK ds))]] u fun r w' => ∃ a' c', r = .returned (.agg #[.int .i64 0, .slice a' ds.length c']) ∧ Has w' .u8 a' ds.length ds ∧ Below u.heap.size u w') := fun e u h => by
    have hb : rdB ds = true := by unfold rdC9 at e; split at e; assumption; omega
    have ev : ∀ v, rdI ds v = v := fun v => by unfold rdI; rw [if_pos hb]
    obtain ⟨p1, p2⟩ := pack_rd hb HD.2.1
    have := implPackHead_any (rdZ9 ds) (rdR ds) (rdM7 ds) (rdK ds) u (TZ.below h (Nat.le_refl _))
    rw [show hdP (rdZ9 ds) (rdR ds) (rdM7 ds) (rdK ds) = ds by unfold hdP; rw [if_pos p2]; exact p1, show hdF (rdZ9 ds) (rdR ds) (rdM7 ds) (rdK ds) = 0 by unfold hdF; rw [if_pos p2]] at this
    rw [ev, ev, ev, ev]
    exact this.mono fun r w' ⟨a', c', q1, q2, q3⟩ => ⟨a', c', q1, has_of_own q2 HD.2.1, q3⟩
  have LW : Hid (∀ (u : World) (a : Option Addr) (c : Nat), Below Z.heap.size Z u → Has u .u8 a ds.length ds → Calls Tryz.prog 12 #[.slice a ds.length c, .slice (some ⟨gd, 0, none⟩) ds.length dc] u fun r w' => r = .returned (.bool true) ∧ w' = u) := fun u a c h ha => by
    have := lwBytesH_any a (some ⟨gd, 0, none⟩) c dc ds ds u ha (HD.below h (Nat.le_refl _))
    rw [decide_eq_true rfl] at this
    exact this
  have SPH : Hid (∀ u : World, Below Z.heap.size Z u → Calls Tryz.prog 13 #[.agg #[.int .i64 z, .int .i64 r, .int .i64 m, .int .i64 k]] u fun rr w' => ∃ a' c', rr = .returned (.agg #[.int .i64 (hdF z r m k), .slice a' (hdP z r m k).length c']) ∧ Below u.heap.size u w') := fun u h => (specPackHead_any z r m k u).mono fun r w' ⟨a', c', q1, q2, q3⟩ => ⟨a', c', q1, q3⟩
  have RP : Hid (hdF z r m k = 0 → ∀ u : World, Below Z.heap.size Z u → Calls Tryz.prog 6 #[.slice ap (hdP z r m k).length pc] u fun rr w' => rr = .returned (.agg #[.int .i64 0, .int .i64 z, .int .i64 r, .int .i64 m, .int .i64 k]) ∧ Below u.heap.size u w') := fun e u h => by
    have hb := hdF_zero e
    have e7 : hdP z r m k = hdL z r m k := by unfold hdP; rw [if_pos hb]
    obtain ⟨g, rfl⟩ := pat (by rw [e7, hdL_len]; decide)
    have := implReadHead_any g 0 pc (hdP z r m k) u (TZ.below h (Nat.le_refl _)) (HP.below h (Nat.le_refl _)) (by rw [e7, hdL_len]; decide) pcap.1 pcap.2
    rw [e7] at this ⊢
    obtain ⟨r1, r2, r3, r4, r5⟩ := rd_pack hb
    rw [show rdC9 (hdL z r m k) = 0 by unfold rdC9; rw [if_pos r1], r2, r3, r4, r5, show ∀ v, rdI (hdL z r m k) v = v from fun v => by unfold rdI; rw [if_pos r1]] at this
    rw [show rdI (hdL z r m k) r = r by unfold rdI; rw [if_pos r1], show rdI (hdL z r m k) m = m by unfold rdI; rw [if_pos r1], show rdI (hdL z r m k) k = k by unfold rdI; rw [if_pos r1]] at this
    exact this
  have HS : Hid (∀ u : World, Below Z.heap.size Z u → Calls Tryz.prog 14 #[.agg #[.int .i64 z, .int .i64 r, .int .i64 m, .int .i64 k]] u fun rr w' => rr = .returned (.agg #[.int .i64 (hdF z r m k), .int .i64 (hsV z r m k)]) ∧ Below u.heap.size u w') := fun u h => implHeadSum_any z r m k u (TZ.below h (Nat.le_refl _))
  have SM : Hid (hdF z r m k = 0 → ∀ u : World, Below Z.heap.size Z u → Calls Tryz.prog 15 #[.slice ap (hdP z r m k).length pc] u fun rr w' => rr = .returned (.agg #[.int .i64 0, .int .i64 (hsV z r m k)]) ∧ Below u.heap.size u w') := fun e u h => by
    have hb := hdF_zero e
    have e7 : hdP z r m k = hdL z r m k := by unfold hdP; rw [if_pos hb]
    have := implSumOf_any ap pc (hdP z r m k) u (HP.below h (Nat.le_refl _)) (by rw [e7, hdL_len]; decide)
    rw [e7] at this ⊢
    rw [show sumC (hdL z r m k) = 0 by unfold sumC; rw [hdL_len]; rfl, show sumV (hdL z r m k) = hsV z r m k by unfold sumV hsV hdV; rw [if_pos hb, hdL_len]; rfl] at this
    exact this
  have CI : Hid (∀ u : World, Below Z.heap.size Z u → Calls Tryz.prog 16 #[.int .i64 rt, .int .i64 ct, .agg #[.int .i64 cz, .int .i64 cr, .int .i64 cm, .int .i64 ck, .int .i64 ci, .slice a1 s1.length c1, .slice a2 s2.length c2, .slice a3 s3.length c3]] u fun rr w' => rr = .returned (.bool (chB rt ct cz cr cm ck ci s1 s2 s3)) ∧ Below u.heap.size u w') := fun u h => implCheckHead_any rt ct cz cr cm ck ci a1 a2 a3 c1 c2 c3 s1 s2 s3 u (TZ.below h (Nat.le_refl _)) (HC.one.below h (Nat.le_refl _)) (HC.two.below h (Nat.le_refl _)) (HC.three.below h (Nat.le_refl _)) (by omega) (by omega) (by omega) l4 l5
  have CK : Hid (∀ u : World, Below Z.heap.size Z u → Calls Tryz.prog 17 #[.int .i64 rt, .int .i64 ct, .agg #[.int .i64 cz, .int .i64 cr, .int .i64 cm, .int .i64 ck, .int .i64 ci, .slice a1 s1.length c1, .slice a2 s2.length c2, .slice a3 s3.length c3]] u fun rr w' => rr = .returned (.bool (chB rt ct cz cr cm ck ci s1 s2 s3)) ∧ Below u.heap.size u w') := fun u h => specCheckHead_any rt ct cz cr cm ck ci a1 a2 a3 c1 c2 c3 s1 s2 s3 u (HC.one.below h (Nat.le_refl _)) (HC.two.below h (Nat.le_refl _)) (HC.three.below h (Nat.le_refl _)) (by omega) (by omega) (by omega) l4 l5 ⟨by omega, by omega⟩
  have MI : Hid (∀ u : World, Below Z.heap.size Z u → Calls Tryz.prog 18 #[.agg #[.int .i64 xz, .int .i64 xr, .int .i64 xm, .int .i64 xk, .int .i64 xi, .slice b1 t1.length d1, .slice b2 t2.length d2, .slice b3 t3.length d3], .agg #[.int .i64 xz, .int .i64 xr, .int .i64 ym, .int .i64 xk, .int .i64 xi, .slice e1 t1.length f1, .slice e2 t2.length f2, .slice e3 t3.length f3]] u fun rr w' => rr = .returned (.bool (smB xz xr xm xk xi t1 t2 t3 xz xr ym xk xi t1 t2 t3)) ∧ Below u.heap.size u w') := fun u h => implSameSigned_any xz xr xm xk xi xz xr ym xk xi b1 b2 b3 e1 e2 e3 d1 d2 d3 f1 f2 f3 t1 t2 t3 t1 t2 t3 u (X1.below h (Nat.le_refl _)) (X2.below h (Nat.le_refl _)) (X3.below h (Nat.le_refl _)) (Y1.below h (Nat.le_refl _)) (Y2.below h (Nat.le_refl _)) (Y3.below h (Nat.le_refl _)) (by omega) (by omega) (by omega)
  have MS : Hid (∀ u : World, Below Z.heap.size Z u → Calls Tryz.prog 19 #[.agg #[.int .i64 xz, .int .i64 xr, .int .i64 xm, .int .i64 xk, .int .i64 xi, .slice b1 t1.length d1, .slice b2 t2.length d2, .slice b3 t3.length d3], .agg #[.int .i64 xz, .int .i64 xr, .int .i64 ym, .int .i64 xk, .int .i64 xi, .slice e1 t1.length f1, .slice e2 t2.length f2, .slice e3 t3.length f3]] u fun rr w' => rr = .returned (.bool (smB xz xr xm xk xi t1 t2 t3 xz xr ym xk xi t1 t2 t3)) ∧ Below u.heap.size u w') := fun u h => specSameSigned_any xz xr xm xk xi xz xr ym xk xi b1 b2 b3 e1 e2 e3 d1 d2 d3 f1 f2 f3 t1 t2 t3 t1 t2 t3 u (X1.below h (Nat.le_refl _)) (X2.below h (Nat.le_refl _)) (X3.below h (Nat.le_refl _)) (Y1.below h (Nat.le_refl _)) (Y2.below h (Nat.le_refl _)) (Y3.below h (Nat.le_refl _)) (by omega) (by omega) (by omega)
  have FI : Hid (∀ u : World, Below Z.heap.size Z u → Calls Tryz.prog 20 #[.agg #[.int .i64 cz, .int .i64 cr, .int .i64 cm, .int .i64 ck, .int .i64 ci, .slice a1 s1.length c1, .slice a2 s2.length c2, .slice a3 s3.length c3]] u fun rr w' => rr = .returned (.int .i64 (sdF cz cr cm ck ci s1 s2 s3)) ∧ Below u.heap.size u w') := fun u h => implSignedFault_any cz cr cm ck ci a1 a2 a3 c1 c2 c3 s1 s2 s3 u (HC.one.below h (Nat.le_refl _)) (HC.two.below h (Nat.le_refl _)) (HC.three.below h (Nat.le_refl _)) (by omega) (by omega) (by omega)
  have FS : Hid (∀ u : World, Below Z.heap.size Z u → Calls Tryz.prog 21 #[.agg #[.int .i64 cz, .int .i64 cr, .int .i64 cm, .int .i64 ck, .int .i64 ci, .slice a1 s1.length c1, .slice a2 s2.length c2, .slice a3 s3.length c3]] u fun rr w' => rr = .returned (.int .i64 (sdF cz cr cm ck ci s1 s2 s3)) ∧ Below u.heap.size u w') := fun u h => specSignedFault_any cz cr cm ck ci a1 a2 a3 c1 c2 c3 s1 s2 s3 u (HC.one.below h (Nat.le_refl _)) (HC.two.below h (Nat.le_refl _)) (HC.three.below h (Nat.le_refl _)) (by omega) (by omega) (by omega)
  have CU : Hid (∀ u : World, Below Z.heap.size Z u → u.cell? ⟨Vu, 0, none⟩ = some (.int .i64 (rdC9 ds)) ∧ u.cell? ⟨Vu, 1, none⟩ = some (.int .i64 (rdI ds (rdZ9 ds))) ∧ u.cell? ⟨Vu, 2, none⟩ = some (.int .i64 (rdI ds (rdR ds))) ∧ u.cell? ⟨Vu, 3, none⟩ = some (.int .i64 (rdI ds (rdM7 ds))) ∧ u.cell? ⟨Vu, 4, none⟩ = some (.int .i64 (rdI ds (rdK ds))) ∧ Vu < u.heap.size) := fun u h => by
    have S := SU.below h SU.lt
    exact ⟨(S.cell 0).trans rfl, (S.cell 1).trans rfl, (S.cell 2).trans rfl, (S.cell 3).trans rfl, (S.cell 4).trans rfl, S.lt⟩
  have CH : Hid (∀ u : World, Below Z.heap.size Z u → u.cell? ⟨Vh, 0, none⟩ = some (.int .i64 z) ∧ u.cell? ⟨Vh, 1, none⟩ = some (.int .i64 r) ∧ u.cell? ⟨Vh, 2, none⟩ = some (.int .i64 m) ∧ u.cell? ⟨Vh, 3, none⟩ = some (.int .i64 k) ∧ Vh < u.heap.size) := fun u h => by
    have S := SH.below h SH.lt
    exact ⟨(S.cell 0).trans rfl, (S.cell 1).trans rfl, (S.cell 2).trans rfl, (S.cell 3).trans rfl, S.lt⟩
  have CP : Hid (∀ u : World, Below Z.heap.size Z u → u.cell? ⟨Vp, 0, none⟩ = some (.int .i64 (hdF z r m k)) ∧ u.cell? ⟨Vp, 1, none⟩ = some (.slice ap (hdP z r m k).length pc) ∧ Vp < u.heap.size) := fun u h => by
    have S := SP.below h SP.lt
    exact ⟨(S.cell 0).trans rfl, (S.cell 1).trans rfl, S.lt⟩
  have CC : Hid (∀ u : World, Below Z.heap.size Z u → u.cell? ⟨Vc, 0, none⟩ = some (.int .i64 cz) ∧ u.cell? ⟨Vc, 1, none⟩ = some (.int .i64 cr) ∧ u.cell? ⟨Vc, 2, none⟩ = some (.int .i64 cm) ∧ u.cell? ⟨Vc, 3, none⟩ = some (.int .i64 ck) ∧ u.cell? ⟨Vc, 4, none⟩ = some (.int .i64 ci) ∧ u.cell? ⟨Vc, 5, none⟩ = some (.slice a1 s1.length c1) ∧ u.cell? ⟨Vc, 6, none⟩ = some (.slice a2 s2.length c2) ∧ u.cell? ⟨Vc, 7, none⟩ = some (.slice a3 s3.length c3) ∧ Vc < u.heap.size) := fun u h => by
    have S := SC.below h SC.lt
    exact ⟨(S.cell 0).trans rfl, (S.cell 1).trans rfl, (S.cell 2).trans rfl, (S.cell 3).trans rfl, (S.cell 4).trans rfl, (S.cell 5).trans rfl, (S.cell 6).trans rfl, (S.cell 7).trans rfl, S.lt⟩
  have CX : Hid (∀ u : World, Below Z.heap.size Z u → u.cell? ⟨Vx, 0, none⟩ = some (.int .i64 xz) ∧ u.cell? ⟨Vx, 1, none⟩ = some (.int .i64 xr) ∧ u.cell? ⟨Vx, 2, none⟩ = some (.int .i64 xm) ∧ u.cell? ⟨Vx, 3, none⟩ = some (.int .i64 xk) ∧ u.cell? ⟨Vx, 4, none⟩ = some (.int .i64 xi) ∧ u.cell? ⟨Vx, 5, none⟩ = some (.slice b1 t1.length d1) ∧ u.cell? ⟨Vx, 6, none⟩ = some (.slice b2 t2.length d2) ∧ u.cell? ⟨Vx, 7, none⟩ = some (.slice b3 t3.length d3) ∧ Vx < u.heap.size) := fun u h => by
    have S := SX.below h SX.lt
    exact ⟨(S.cell 0).trans rfl, (S.cell 1).trans rfl, (S.cell 2).trans rfl, (S.cell 3).trans rfl, (S.cell 4).trans rfl, (S.cell 5).trans rfl, (S.cell 6).trans rfl, (S.cell 7).trans rfl, S.lt⟩
  have CY : Hid (∀ u : World, Below Z.heap.size Z u → u.cell? ⟨Vy, 0, none⟩ = some (.int .i64 xz) ∧ u.cell? ⟨Vy, 1, none⟩ = some (.int .i64 xr) ∧ u.cell? ⟨Vy, 2, none⟩ = some (.int .i64 ym) ∧ u.cell? ⟨Vy, 3, none⟩ = some (.int .i64 xk) ∧ u.cell? ⟨Vy, 4, none⟩ = some (.int .i64 xi) ∧ u.cell? ⟨Vy, 5, none⟩ = some (.slice e1 t1.length f1) ∧ u.cell? ⟨Vy, 6, none⟩ = some (.slice e2 t2.length f2) ∧ u.cell? ⟨Vy, 7, none⟩ = some (.slice e3 t3.length f3) ∧ Vy < u.heap.size) := fun u h => by
    have S := SY.below h SY.lt
    exact ⟨(S.cell 0).trans rfl, (S.cell 1).trans rfl, (S.cell 2).trans rfl, (S.cell 3).trans rfl, (S.cell 4).trans rfl, (S.cell 5).trans rfl, (S.cell 6).trans rfl, (S.cell 7).trans rfl, S.lt⟩
  have UC : Hid (rdC9 ds = 0 ∨ rdC9 ds = 5) := by show _ ∨ _; unfold rdC9; split; exact .inl rfl; exact .inr rfl
  have PC : Hid (hdF z r m k = 0 ∨ hdF z r m k = 3) := by show _ ∨ _; unfold hdF; split; exact .inl rfl; exact .inr rfl
  have BZH : Hid (Below w.heap.size w Z) := BZ
  clear pat pcap SX SY SC SP SH SU X1 X2 X3 Y1 Y2 Y3 HC HP HD TZ l1 l2 l3 l4 l5 l6 l7 l8 l9 l10 BZ dl dc1 dc2 hct
  generalize rdC9 ds = cu at *
  generalize rdI ds (rdZ9 ds) = uz at *
  generalize rdI ds (rdR ds) = ur at *
  generalize rdI ds (rdM7 ds) = um at *
  generalize rdI ds (rdK ds) = uk at *
  generalize hdF z r m k = cp at *
  generalize hdP z r m k = pl at *
  generalize hsV z r m k = sv at *
  generalize chB rt ct cz cr cm ck ci s1 s2 s3 = kb at *
  generalize smB xz xr xm xk xi t1 t2 t3 xz xr ym xk xi t1 t2 t3 = sb at *
  generalize sdF cz cr cm ck ci s1 s2 s3 = fc at *
  have q1 : (kb != kb) = false := by simp
  have q2 : (sb != sb) = false := by simp
  have q3 : (fc != fc) = false := by simp
  have q4 : (sv != sv) = false := by simp
  have hE0 := fldE0
  have hE1 := fldE1
  have hB0 := fldB0
  have hB1 := fldB1
  have hI1 := fldR1
  have hnq := neqH
  go_wp2_with fail
  have hVxy : Vx + 1 = Vy := by rw [hVx, hVy]
  simp only [← hVx, ← hZ]
  simp only [hVxy]
  clear hVx hVy hZ hVxy
  go_cut [121] (fun s121 wx => s121 = .bool false ∧ Below Z.heap.size Z wx)
  case first =>
    clear FA
    have D : Below Z.heap.size Z Z.drew := (Below.refl _ _).drew
    rcases UC.out with rfl | rfl
    · have PU : Hid _ := PU.out rfl
      rcases PC.out with rfl | rfl
      · have RP : Hid _ := RP.out rfl
        have SM : Hid _ := SM.out rfl
        as_aux_lemma =>
          skip
          refine wp_region_noPanic ?_
          refine wp_region_held_drew (S := fun u => Below Z.heap.size Z u) (by kernel_rfl) D (fun hs => ?_)
          obtain ⟨XD, hXD⟩ : ∃ X, X = Z.drew := ⟨_, rfl⟩
          rw [← hXD] at hs
          simp only [← hXD]
          clear hXD D
          refine take_at (i := 0) (d := some 37) (v := ?mv1) rfl rfl (by kernel_rfl) (by kernel_rfl) (by kernel_rfl) (fun _ _ _ h => h) (Or.inl ⟨by rfl, ?my1⟩) hs ?mg1
          case my1 => (intro z hSz; skip; go_simp; (try with_reducible rfl))
          try simp only [Act.put, List.setIfInBounds_toArray, List.set_cons_zero, List.set_cons_succ]
          refine take_at (i := 1) (d := some 38) (v := ?mv2) rfl rfl (by kernel_rfl) (by kernel_rfl) (by kernel_rfl) (fun _ _ _ h => h) (Or.inl ⟨by rfl, ?my2⟩) hs ?mg2
          case my2 => (intro z hSz; (obtain ⟨o0, o1, o2, o3, o4, o5⟩ := CU.out _ hSz); go_simp; (try with_reducible rfl))
          try simp only [Act.put, List.setIfInBounds_toArray, List.set_cons_zero, List.set_cons_succ]
          refine take_at (i := 2) (d := some 39) (v := ?mv3) rfl rfl (by kernel_rfl) (by kernel_rfl) (by kernel_rfl) (fun _ _ _ h => h) (Or.inl ⟨by rfl, ?my3⟩) hs ?mg3
          case my3 => (intro z hSz; skip; go_simp; (try with_reducible rfl))
          try simp only [Act.put, List.setIfInBounds_toArray, List.set_cons_zero, List.set_cons_succ]
          refine wpAnyH_ready (rs := [3]) (by kernel_rfl) (by simp) ?_
          refine AllReadyH.cons rfl (fun K' hK' => ?_) AllReadyH.nil
          go_simp
          refine (SR.out _ hs).mono ?_
          rintro _ ub ⟨rfl, hbb⟩
          refine hK'.out _ _ (hs.trans (hbb.mono hs.size)) (fun hs => ?_)
          clear hK' K'
          try simp only [Act.put, List.setIfInBounds_toArray, List.set_cons_zero, List.set_cons_succ]
          refine take_at (i := 4) (d := some 41) (v := ?mv4) rfl rfl (by kernel_rfl) (by kernel_rfl) (by kernel_rfl) (fun _ _ _ h => h) (Or.inl ⟨by rfl, ?my4⟩) hs ?mg4
          case my4 => (intro z hSz; skip; go_simp; (try with_reducible rfl))
          try simp only [Act.put, List.setIfInBounds_toArray, List.set_cons_zero, List.set_cons_succ]
          refine take_at (i := 5) (d := some 42) (v := ?mv5) rfl rfl (by kernel_rfl) (by kernel_rfl) (by kernel_rfl) (fun _ _ _ h => h) (Or.inl ⟨by rfl, ?my5⟩) hs ?mg5
          case my5 => (intro z hSz; skip; go_simp; (try with_reducible rfl))
          try simp only [Act.put, List.setIfInBounds_toArray, List.set_cons_zero, List.set_cons_succ]
          refine take_at (i := 6) (d := some 43) (v := ?mv6) rfl rfl (by kernel_rfl) (by kernel_rfl) (by kernel_rfl) (fun _ _ _ h => h) (Or.inl ⟨by rfl, ?my6⟩) hs ?mg6
          case my6 => (intro z hSz; skip; go_simp; (try with_reducible rfl))
          try simp only [Act.put, List.setIfInBounds_toArray, List.set_cons_zero, List.set_cons_succ]
          refine take_at (i := 7) (d := some 44) (v := ?mv7) rfl rfl (by kernel_rfl) (by kernel_rfl) (by kernel_rfl) (fun _ _ _ h => h) (Or.inl ⟨by rfl, ?my7⟩) hs ?mg7
          case my7 => (intro z hSz; skip; go_simp; (try with_reducible rfl))
          try simp only [Act.put, List.setIfInBounds_toArray, List.set_cons_zero, List.set_cons_succ]
          refine take_at (i := 8) (d := some 45) (v := ?mv8) rfl rfl (by kernel_rfl) (by kernel_rfl) (by kernel_rfl) (fun _ _ _ h => h) (Or.inl ⟨by rfl, ?my8⟩) hs ?mg8
          case my8 => (intro z hSz; (obtain ⟨o0, o1, o2, o3, o4, o5⟩ := CU.out _ hSz); go_simp; (try with_reducible rfl))
          try simp only [Act.put, List.setIfInBounds_toArray, List.set_cons_zero, List.set_cons_succ]
          refine take_at (i := 9) (d := some 46) (v := ?mv9) rfl rfl (by kernel_rfl) (by kernel_rfl) (by kernel_rfl) (fun _ _ _ h => h) (Or.inl ⟨by rfl, ?my9⟩) hs ?mg9
          case my9 => (intro z hSz; skip; go_simp; (try with_reducible rfl))
          try simp only [Act.put, List.setIfInBounds_toArray, List.set_cons_zero, List.set_cons_succ]
          refine take_at (i := 10) (d := some 47) (v := ?mv10) rfl rfl (by kernel_rfl) (by kernel_rfl) (by kernel_rfl) (fun _ _ _ h => h) (Or.inl ⟨by rfl, ?my10⟩) hs ?mg10
          case my10 => (intro z hSz; skip; go_simp; (try with_reducible rfl))
          try simp only [Act.put, List.setIfInBounds_toArray, List.set_cons_zero, List.set_cons_succ]
          refine take_at (i := 11) (d := some 48) (v := ?mv11) rfl rfl (by kernel_rfl) (by kernel_rfl) (by kernel_rfl) (fun _ _ _ h => h) (Or.inl ⟨by rfl, ?my11⟩) hs ?mg11
          case my11 => (intro z hSz; skip; go_simp; (try with_reducible rfl))
          try simp only [Act.put, List.setIfInBounds_toArray, List.set_cons_zero, List.set_cons_succ]
          refine take_at (i := 12) (d := some 49) (v := ?mv12) rfl rfl (by kernel_rfl) (by kernel_rfl) (by kernel_rfl) (fun _ _ _ h => h) (Or.inl ⟨by rfl, ?my12⟩) hs ?mg12
          case my12 => (intro z hSz; (obtain ⟨o0, o1, o2, o3, o4, o5⟩ := CU.out _ hSz); go_simp; (try with_reducible rfl))
          try simp only [Act.put, List.setIfInBounds_toArray, List.set_cons_zero, List.set_cons_succ]
          refine take_at (i := 15) (d := some 52) (v := ?mv13) rfl rfl (by kernel_rfl) (by kernel_rfl) (by kernel_rfl) (fun _ _ _ h => h) (Or.inl ⟨by rfl, ?my13⟩) hs ?mg13
          case my13 => (intro z hSz; skip; go_simp; (try with_reducible rfl))
          try simp only [Act.put, List.setIfInBounds_toArray, List.set_cons_zero, List.set_cons_succ]
          refine wpAnyH_ready (rs := [13]) (by kernel_rfl) (by simp) ?_
          refine AllReadyH.cons rfl (fun K' hK' => ?_) AllReadyH.nil
          go_simp
          refine (PU.out _ hs).mono ?_
          rintro _ ub ⟨qa, qc, rfl, HQ, hbb⟩
          refine hK'.out _ _ (hs.trans (hbb.mono hs.size)) (fun hs => ?_)
          clear hK' K'
          try simp only [Act.put, List.setIfInBounds_toArray, List.set_cons_zero, List.set_cons_succ]
          refine take_at (i := 14) (d := some 51) (v := ?mv14) rfl rfl (by kernel_rfl) (by kernel_rfl) (by kernel_rfl) (fun _ _ _ h => h) (Or.inl ⟨by rfl, ?my14⟩) hs ?mg14
          case my14 => (intro z hSz; skip; go_simp; (try with_reducible rfl))
          try simp only [Act.put, List.setIfInBounds_toArray, List.set_cons_zero, List.set_cons_succ]
          refine wpAnyH_ready (rs := [16]) (by kernel_rfl) (by simp) ?_
          refine AllReadyH.cons rfl (fun K' hK' => ?_) AllReadyH.nil
          go_simp
          refine (LW.out _ qa qc hs HQ).mono ?_
          rintro _ ub ⟨rfl, hu⟩
          have hu2 := hu.symm
          subst hu2
          clear hu
          refine hK'.out _ _ hs (fun hs => ?_)
          clear hK' K'
          try simp only [Act.put, List.setIfInBounds_toArray, List.set_cons_zero, List.set_cons_succ]
          refine take_at (i := 17) (d := some 54) (v := ?mv15) rfl rfl (by kernel_rfl) (by kernel_rfl) (by kernel_rfl) (fun _ _ _ h => h) (Or.inl ⟨by rfl, ?my15⟩) hs ?mg15
          case my15 => (intro z hSz; skip; go_simp; (try with_reducible rfl))
          try simp only [Act.put, List.setIfInBounds_toArray, List.set_cons_zero, List.set_cons_succ]
          refine take_at (i := 18) (d := some 55) (v := ?mv16) rfl rfl (by kernel_rfl) (by kernel_rfl) (by kernel_rfl) (fun _ _ _ h => h) (Or.inl ⟨by rfl, ?my16⟩) hs ?mg16
          case my16 => (intro z hSz; skip; go_simp; (try with_reducible rfl))
          try simp only [Act.put, List.setIfInBounds_toArray, List.set_cons_zero, List.set_cons_succ]
          refine take_at (i := 19) (d := some 56) (v := ?mv17) rfl rfl (by kernel_rfl) (by kernel_rfl) (by kernel_rfl) (fun _ _ _ h => h) (Or.inl ⟨by rfl, ?my17⟩) hs ?mg17
          case my17 => (intro z hSz; skip; go_simp; (try with_reducible rfl))
          try simp only [Act.put, List.setIfInBounds_toArray, List.set_cons_zero, List.set_cons_succ]
          refine take_at (i := 20) (d := some 57) (v := ?mv18) rfl rfl (by kernel_rfl) (by kernel_rfl) (by kernel_rfl) (fun _ _ _ h => h) (Or.inl ⟨by rfl, ?my18⟩) hs ?mg18
          case my18 => (intro z hSz; skip; go_simp; (try with_reducible rfl))
          try simp only [Act.put, List.setIfInBounds_toArray, List.set_cons_zero, List.set_cons_succ]
          refine take_at (i := 21) (d := some 58) (v := ?mv19) rfl rfl (by kernel_rfl) (by kernel_rfl) (by kernel_rfl) (fun _ _ _ h => h) (Or.inl ⟨by rfl, ?my19⟩) hs ?mg19
          case my19 => (intro z hSz; skip; go_simp; (try with_reducible rfl))
          try simp only [Act.put, List.setIfInBounds_toArray, List.set_cons_zero, List.set_cons_succ]
          refine take_at (i := 22) (d := some 59) (v := ?mv20) rfl rfl (by kernel_rfl) (by kernel_rfl) (by kernel_rfl) (fun _ _ _ h => h) (Or.inl ⟨by rfl, ?my20⟩) hs ?mg20
          case my20 => (intro z hSz; (obtain ⟨o0, o1, o2⟩ := CP.out _ hSz); go_simp; (try with_reducible rfl))
          try simp only [Act.put, List.setIfInBounds_toArray, List.set_cons_zero, List.set_cons_succ]
          refine take_at (i := 23) (d := some 60) (v := ?mv21) rfl rfl (by kernel_rfl) (by kernel_rfl) (by kernel_rfl) (fun _ _ _ h => h) (Or.inl ⟨by rfl, ?my21⟩) hs ?mg21
          case my21 => (intro z hSz; (obtain ⟨o0, o1, o2, o3, o4⟩ := CH.out _ hSz); go_simp; (try with_reducible rfl))
          try simp only [Act.put, List.setIfInBounds_toArray, List.set_cons_zero, List.set_cons_succ]
          refine wpAnyH_ready (rs := [24]) (by kernel_rfl) (by simp) ?_
          refine AllReadyH.cons rfl (fun K' hK' => ?_) AllReadyH.nil
          go_simp
          refine (SPH.out _ hs).mono ?_
          rintro _ ub ⟨qe, qf, rfl, hbb⟩
          refine hK'.out _ _ (hs.trans (hbb.mono hs.size)) (fun hs => ?_)
          clear hK' K'
          try simp only [Act.put, List.setIfInBounds_toArray, List.set_cons_zero, List.set_cons_succ]
          refine take_at (i := 25) (d := some 62) (v := ?mv22) rfl rfl (by kernel_rfl) (by kernel_rfl) (by kernel_rfl) (fun _ _ _ h => h) (Or.inl ⟨by rfl, ?my22⟩) hs ?mg22
          case my22 => (intro z hSz; skip; go_simp; (try with_reducible rfl))
          try simp only [Act.put, List.setIfInBounds_toArray, List.set_cons_zero, List.set_cons_succ]
          refine take_at (i := 26) (d := some 63) (v := ?mv23) rfl rfl (by kernel_rfl) (by kernel_rfl) (by kernel_rfl) (fun _ _ _ h => h) (Or.inl ⟨by rfl, ?my23⟩) hs ?mg23
          case my23 => (intro z hSz; skip; go_simp; (try with_reducible rfl))
          try simp only [Act.put, List.setIfInBounds_toArray, List.set_cons_zero, List.set_cons_succ]
          refine take_at (i := 27) (d := some 64) (v := ?mv24) rfl rfl (by kernel_rfl) (by kernel_rfl) (by kernel_rfl) (fun _ _ _ h => h) (Or.inl ⟨by rfl, ?my24⟩) hs ?mg24
          case my24 => (intro z hSz; skip; go_simp; (try with_reducible rfl))
          try simp only [Act.put, List.setIfInBounds_toArray, List.set_cons_zero, List.set_cons_succ]
          refine take_at (i := 28) (d := some 65) (v := ?mv25) rfl rfl (by kernel_rfl) (by kernel_rfl) (by kernel_rfl) (fun _ _ _ h => h) (Or.inl ⟨by rfl, ?my25⟩) hs ?mg25
          case my25 => (intro z hSz; skip; go_simp; (try with_reducible rfl))
          try simp only [Act.put, List.setIfInBounds_toArray, List.set_cons_zero, List.set_cons_succ]
          refine take_at (i := 29) (d := some 66) (v := ?mv26) rfl rfl (by kernel_rfl) (by kernel_rfl) (by kernel_rfl) (fun _ _ _ h => h) (Or.inl ⟨by rfl, ?my26⟩) hs ?mg26
          case my26 => (intro z hSz; skip; go_simp; (try with_reducible rfl))
          try simp only [Act.put, List.setIfInBounds_toArray, List.set_cons_zero, List.set_cons_succ]
          refine take_at (i := 30) (d := some 67) (v := ?mv27) rfl rfl (by kernel_rfl) (by kernel_rfl) (by kernel_rfl) (fun _ _ _ h => h) (Or.inl ⟨by rfl, ?my27⟩) hs ?mg27
          case my27 => (intro z hSz; (obtain ⟨o0, o1, o2⟩ := CP.out _ hSz); go_simp; (try with_reducible rfl))
          try simp only [Act.put, List.setIfInBounds_toArray, List.set_cons_zero, List.set_cons_succ]
          refine take_at (i := 31) (d := some 68) (v := ?mv28) rfl rfl (by kernel_rfl) (by kernel_rfl) (by kernel_rfl) (fun _ _ _ h => h) (Or.inl ⟨by rfl, ?my28⟩) hs ?mg28
          case my28 => (intro z hSz; skip; go_simp; (try with_reducible rfl))
          try simp only [Act.put, List.setIfInBounds_toArray, List.set_cons_zero, List.set_cons_succ]
          refine take_at (i := 32) (d := some 69) (v := ?mv29) rfl rfl (by kernel_rfl) (by kernel_rfl) (by kernel_rfl) (fun _ _ _ h => h) (Or.inl ⟨by rfl, ?my29⟩) hs ?mg29
          case my29 => (intro z hSz; skip; go_simp; (try with_reducible rfl))
          try simp only [Act.put, List.setIfInBounds_toArray, List.set_cons_zero, List.set_cons_succ]
          refine take_at (i := 33) (d := some 70) (v := ?mv30) rfl rfl (by kernel_rfl) (by kernel_rfl) (by kernel_rfl) (fun _ _ _ h => h) (Or.inl ⟨by rfl, ?my30⟩) hs ?mg30
          case my30 => (intro z hSz; skip; go_simp; (try with_reducible rfl))
          try simp only [Act.put, List.setIfInBounds_toArray, List.set_cons_zero, List.set_cons_succ]
          refine take_at (i := 34) (d := some 71) (v := ?mv31) rfl rfl (by kernel_rfl) (by kernel_rfl) (by kernel_rfl) (fun _ _ _ h => h) (Or.inl ⟨by rfl, ?my31⟩) hs ?mg31
          case my31 => (intro z hSz; (obtain ⟨o0, o1, o2⟩ := CP.out _ hSz); go_simp; (try with_reducible rfl))
          try simp only [Act.put, List.setIfInBounds_toArray, List.set_cons_zero, List.set_cons_succ]
          refine take_at (i := 37) (d := some 74) (v := ?mv32) rfl rfl (by kernel_rfl) (by kernel_rfl) (by kernel_rfl) (fun _ _ _ h => h) (Or.inl ⟨by rfl, ?my32⟩) hs ?mg32
          case my32 => (intro z hSz; (obtain ⟨o0, o1, o2, o3, o4⟩ := CH.out _ hSz); go_simp; (try with_reducible rfl))
          try simp only [Act.put, List.setIfInBounds_toArray, List.set_cons_zero, List.set_cons_succ]
          refine wpAnyH_ready (rs := [35]) (by kernel_rfl) (by simp) ?_
          refine AllReadyH.cons rfl (fun K' hK' => ?_) AllReadyH.nil
          go_simp
          refine (RP.out _ hs).mono ?_
          rintro _ ub ⟨rfl, hbb⟩
          refine hK'.out _ _ (hs.trans (hbb.mono hs.size)) (fun hs => ?_)
          clear hK' K'
          try simp only [Act.put, List.setIfInBounds_toArray, List.set_cons_zero, List.set_cons_succ]
          refine take_at (i := 36) (d := some 73) (v := ?mv33) rfl rfl (by kernel_rfl) (by kernel_rfl) (by kernel_rfl) (fun _ _ _ h => h) (Or.inl ⟨by rfl, ?my33⟩) hs ?mg33
          case my33 => (intro z hSz; skip; go_simp; (try with_reducible rfl))
          try simp only [Act.put, List.setIfInBounds_toArray, List.set_cons_zero, List.set_cons_succ]
          refine take_at (i := 38) (d := some 75) (v := ?mv34) rfl rfl (by kernel_rfl) (by kernel_rfl) (by kernel_rfl) (fun _ _ _ h => h) (Or.inl ⟨by rfl, ?my34⟩) hs ?mg34
          case my34 => (intro z hSz; skip; go_simp; (try with_reducible rfl))
          try simp only [Act.put, List.setIfInBounds_toArray, List.set_cons_zero, List.set_cons_succ]
          refine take_at (i := 39) (d := some 76) (v := ?mv35) rfl rfl (by kernel_rfl) (by kernel_rfl) (by kernel_rfl) (fun _ _ _ h => h) (Or.inl ⟨by rfl, ?my35⟩) hs ?mg35
          case my35 => (intro z hSz; skip; go_simp; (try with_reducible rfl))
          try simp only [Act.put, List.setIfInBounds_toArray, List.set_cons_zero, List.set_cons_succ]
          refine take_at (i := 40) (d := some 77) (v := ?mv36) rfl rfl (by kernel_rfl) (by kernel_rfl) (by kernel_rfl) (fun _ _ _ h => h) (Or.inl ⟨by rfl, ?my36⟩) hs ?mg36
          case my36 => (intro z hSz; skip; go_simp; (try with_reducible rfl))
          try simp only [Act.put, List.setIfInBounds_toArray, List.set_cons_zero, List.set_cons_succ]
          refine take_at (i := 41) (d := some 78) (v := ?mv37) rfl rfl (by kernel_rfl) (by kernel_rfl) (by kernel_rfl) (fun _ _ _ h => h) (Or.inl ⟨by rfl, ?my37⟩) hs ?mg37
          case my37 => (intro z hSz; (obtain ⟨o0, o1, o2⟩ := CP.out _ hSz); go_simp; (try with_reducible rfl))
          try simp only [Act.put, List.setIfInBounds_toArray, List.set_cons_zero, List.set_cons_succ]
          refine wpAnyH_ready (rs := [42]) (by kernel_rfl) (by simp) ?_
          refine AllReadyH.cons rfl (fun K' hK' => ?_) AllReadyH.nil
          go_simp
          refine (RP.out _ hs).mono ?_
          rintro _ ub ⟨rfl, hbb⟩
          refine hK'.out _ _ (hs.trans (hbb.mono hs.size)) (fun hs => ?_)
          clear hK' K'
          try simp only [Act.put, List.setIfInBounds_toArray, List.set_cons_zero, List.set_cons_succ]
          refine take_at (i := 43) (d := some 80) (v := ?mv38) rfl rfl (by kernel_rfl) (by kernel_rfl) (by kernel_rfl) (fun _ _ _ h => h) (Or.inl ⟨by rfl, ?my38⟩) hs ?mg38
          case my38 => (intro z hSz; skip; go_simp; (try with_reducible rfl))
          try simp only [Act.put, List.setIfInBounds_toArray, List.set_cons_zero, List.set_cons_succ]
          refine take_at (i := 44) (d := some 81) (v := ?mv39) rfl rfl (by kernel_rfl) (by kernel_rfl) (by kernel_rfl) (fun _ _ _ h => h) (Or.inl ⟨by rfl, ?my39⟩) hs ?mg39
          case my39 => (intro z hSz; skip; go_simp; (try with_reducible rfl))
          try simp only [Act.put, List.setIfInBounds_toArray, List.set_cons_zero, List.set_cons_succ]
          refine take_at (i := 45) (d := some 82) (v := ?mv40) rfl rfl (by kernel_rfl) (by kernel_rfl) (by kernel_rfl) (fun _ _ _ h => h) (Or.inl ⟨by rfl, ?my40⟩) hs ?mg40
          case my40 => (intro z hSz; skip; go_simp; (try with_reducible rfl))
          try simp only [Act.put, List.setIfInBounds_toArray, List.set_cons_zero, List.set_cons_succ]
          refine take_at (i := 46) (d := some 83) (v := ?mv41) rfl rfl (by kernel_rfl) (by kernel_rfl) (by kernel_rfl) (fun _ _ _ h => h) (Or.inl ⟨by rfl, ?my41⟩) hs ?mg41
          case my41 => (intro z hSz; skip; go_simp; (try with_reducible rfl))
          try simp only [Act.put, List.setIfInBounds_toArray, List.set_cons_zero, List.set_cons_succ]
          refine take_at (i := 47) (d := some 84) (v := ?mv42) rfl rfl (by kernel_rfl) (by kernel_rfl) (by kernel_rfl) (fun _ _ _ h => h) (Or.inl ⟨by rfl, ?my42⟩) hs ?mg42
          case my42 => (intro z hSz; (obtain ⟨o0, o1, o2, o3, o4⟩ := CH.out _ hSz); go_simp; (try with_reducible rfl))
          try simp only [Act.put, List.setIfInBounds_toArray, List.set_cons_zero, List.set_cons_succ]
          refine take_at (i := 50) (d := some 87) (v := ?mv43) rfl rfl (by kernel_rfl) (by kernel_rfl) (by kernel_rfl) (fun _ _ _ h => h) (Or.inl ⟨by rfl, ?my43⟩) hs ?mg43
          case my43 => (intro z hSz; skip; go_simp; (try with_reducible rfl))
          try simp only [Act.put, List.setIfInBounds_toArray, List.set_cons_zero, List.set_cons_succ]
          refine take_at (i := 51) (d := some 88) (v := ?mv44) rfl rfl (by kernel_rfl) (by kernel_rfl) (by kernel_rfl) (fun _ _ _ h => h) (Or.inl ⟨by rfl, ?my44⟩) hs ?mg44
          case my44 => (intro z hSz; (obtain ⟨o0, o1, o2⟩ := CP.out _ hSz); go_simp; (try with_reducible rfl))
          try simp only [Act.put, List.setIfInBounds_toArray, List.set_cons_zero, List.set_cons_succ]
          refine wpAnyH_ready (rs := [48]) (by kernel_rfl) (by simp) ?_
          refine AllReadyH.cons rfl (fun K' hK' => ?_) AllReadyH.nil
          go_simp
          refine (HS.out _ hs).mono ?_
          rintro _ ub ⟨rfl, hbb⟩
          refine hK'.out _ _ (hs.trans (hbb.mono hs.size)) (fun hs => ?_)
          clear hK' K'
          try simp only [Act.put, List.setIfInBounds_toArray, List.set_cons_zero, List.set_cons_succ]
          refine take_at (i := 49) (d := some 86) (v := ?mv45) rfl rfl (by kernel_rfl) (by kernel_rfl) (by kernel_rfl) (fun _ _ _ h => h) (Or.inl ⟨by rfl, ?my45⟩) hs ?mg45
          case my45 => (intro z hSz; skip; go_simp; (try with_reducible rfl))
          try simp only [Act.put, List.setIfInBounds_toArray, List.set_cons_zero, List.set_cons_succ]
          refine wpAnyH_ready (rs := [52]) (by kernel_rfl) (by simp) ?_
          refine AllReadyH.cons rfl (fun K' hK' => ?_) AllReadyH.nil
          go_simp
          refine (SM.out _ hs).mono ?_
          rintro _ ub ⟨rfl, hbb⟩
          refine hK'.out _ _ (hs.trans (hbb.mono hs.size)) (fun hs => ?_)
          clear hK' K'
          try simp only [Act.put, List.setIfInBounds_toArray, List.set_cons_zero, List.set_cons_succ]
          refine take_at (i := 53) (d := some 90) (v := ?mv46) rfl rfl (by kernel_rfl) (by kernel_rfl) (by kernel_rfl) (fun _ _ _ h => h) (Or.inl ⟨by rfl, ?my46⟩) hs ?mg46
          case my46 => (intro z hSz; skip; go_simp; (try with_reducible rfl))
          try simp only [Act.put, List.setIfInBounds_toArray, List.set_cons_zero, List.set_cons_succ]
          refine take_at (i := 54) (d := some 91) (v := ?mv47) rfl rfl (by kernel_rfl) (by kernel_rfl) (by kernel_rfl) (fun _ _ _ h => h) (Or.inl ⟨by rfl, ?my47⟩) hs ?mg47
          case my47 => (intro z hSz; skip; go_simp; (try with_reducible rfl))
          try simp only [Act.put, List.setIfInBounds_toArray, List.set_cons_zero, List.set_cons_succ]
          refine take_at (i := 55) (d := some 92) (v := ?mv48) rfl rfl (by kernel_rfl) (by kernel_rfl) (by kernel_rfl) (fun _ _ _ h => h) (Or.inl ⟨by rfl, ?my48⟩) hs ?mg48
          case my48 => (intro z hSz; skip; go_simp; (try with_reducible rfl))
          try simp only [Act.put, List.setIfInBounds_toArray, List.set_cons_zero, List.set_cons_succ]
          refine take_at (i := 56) (d := some 93) (v := ?mv49) rfl rfl (by kernel_rfl) (by kernel_rfl) (by kernel_rfl) (fun _ _ _ h => h) (Or.inl ⟨by rfl, ?my49⟩) hs ?mg49
          case my49 => (intro z hSz; skip; go_simp; (try with_reducible rfl))
          try simp only [Act.put, List.setIfInBounds_toArray, List.set_cons_zero, List.set_cons_succ]
          refine take_at (i := 57) (d := some 94) (v := ?mv50) rfl rfl (by kernel_rfl) (by kernel_rfl) (by kernel_rfl) (fun _ _ _ h => h) (Or.inl ⟨by rfl, ?my50⟩) hs ?mg50
          case my50 => (intro z hSz; skip; go_simp; (try with_reducible rfl))
          try simp only [Act.put, List.setIfInBounds_toArray, List.set_cons_zero, List.set_cons_succ]
          refine take_at (i := 58) (d := some 95) (v := ?mv51) rfl rfl (by kernel_rfl) (by kernel_rfl) (by kernel_rfl) (fun _ _ _ h => h) (Or.inl ⟨by rfl, ?my51⟩) hs ?mg51
          case my51 => (intro z hSz; skip; go_simp; (try with_reducible rfl))
          try simp only [Act.put, List.setIfInBounds_toArray, List.set_cons_zero, List.set_cons_succ]
          refine take_at (i := 59) (d := some 96) (v := ?mv52) rfl rfl (by kernel_rfl) (by kernel_rfl) (by kernel_rfl) (fun _ _ _ h => h) (Or.inl ⟨by rfl, ?my52⟩) hs ?mg52
          case my52 => (intro z hSz; skip; go_simp; (try with_reducible rfl))
          try simp only [Act.put, List.setIfInBounds_toArray, List.set_cons_zero, List.set_cons_succ]
          refine take_at (i := 60) (d := some 97) (v := ?mv53) rfl rfl (by kernel_rfl) (by kernel_rfl) (by kernel_rfl) (fun _ _ _ h => h) (Or.inl ⟨by rfl, ?my53⟩) hs ?mg53
          case my53 => (intro z hSz; skip; go_simp; (try with_reducible rfl))
          try simp only [Act.put, List.setIfInBounds_toArray, List.set_cons_zero, List.set_cons_succ]
          refine take_at (i := 61) (d := some 98) (v := ?mv54) rfl rfl (by kernel_rfl) (by kernel_rfl) (by kernel_rfl) (fun _ _ _ h => h) (Or.inl ⟨by rfl, ?my54⟩) hs ?mg54
          case my54 => (intro z hSz; (obtain ⟨o0, o1, o2, o3, o4, o5, o6, o7, o8⟩ := CC.out _ hSz); go_simp; (try with_reducible rfl))
          try simp only [Act.put, List.setIfInBounds_toArray, List.set_cons_zero, List.set_cons_succ]
          refine take_at (i := 63) (d := some 100) (v := ?mv55) rfl rfl (by kernel_rfl) (by kernel_rfl) (by kernel_rfl) (fun _ _ _ h => h) (Or.inl ⟨by rfl, ?my55⟩) hs ?mg55
          case my55 => (intro z hSz; skip; go_simp; (try with_reducible rfl))
          try simp only [Act.put, List.setIfInBounds_toArray, List.set_cons_zero, List.set_cons_succ]
          refine take_at (i := 64) (d := some 101) (v := ?mv56) rfl rfl (by kernel_rfl) (by kernel_rfl) (by kernel_rfl) (fun _ _ _ h => h) (Or.inl ⟨by rfl, ?my56⟩) hs ?mg56
          case my56 => (intro z hSz; skip; go_simp; (try with_reducible rfl))
          try simp only [Act.put, List.setIfInBounds_toArray, List.set_cons_zero, List.set_cons_succ]
          refine take_at (i := 65) (d := some 102) (v := ?mv57) rfl rfl (by kernel_rfl) (by kernel_rfl) (by kernel_rfl) (fun _ _ _ h => h) (Or.inl ⟨by rfl, ?my57⟩) hs ?mg57
          case my57 => (intro z hSz; (obtain ⟨o0, o1, o2, o3, o4, o5, o6, o7, o8⟩ := CC.out _ hSz); go_simp; (try with_reducible rfl))
          try simp only [Act.put, List.setIfInBounds_toArray, List.set_cons_zero, List.set_cons_succ]
          refine wpAnyH_ready (rs := [62]) (by kernel_rfl) (by simp) ?_
          refine AllReadyH.cons rfl (fun K' hK' => ?_) AllReadyH.nil
          go_simp
          refine (CI.out _ hs).mono ?_
          rintro _ ub ⟨rfl, hbb⟩
          refine hK'.out _ _ (hs.trans (hbb.mono hs.size)) (fun hs => ?_)
          clear hK' K'
          try simp only [Act.put, List.setIfInBounds_toArray, List.set_cons_zero, List.set_cons_succ]
          refine wpAnyH_ready (rs := [66]) (by kernel_rfl) (by simp) ?_
          refine AllReadyH.cons rfl (fun K' hK' => ?_) AllReadyH.nil
          go_simp
          refine (CK.out _ hs).mono ?_
          rintro _ ub ⟨rfl, hbb⟩
          refine hK'.out _ _ (hs.trans (hbb.mono hs.size)) (fun hs => ?_)
          clear hK' K'
          try simp only [Act.put, List.setIfInBounds_toArray, List.set_cons_zero, List.set_cons_succ]
          refine take_at (i := 67) (d := some 104) (v := ?mv58) rfl rfl (by kernel_rfl) (by kernel_rfl) (by kernel_rfl) (fun _ _ _ h => h) (Or.inl ⟨by rfl, ?my58⟩) hs ?mg58
          case my58 => (intro z hSz; skip; go_simp; (try with_reducible rfl))
          try simp only [Act.put, List.setIfInBounds_toArray, List.set_cons_zero, List.set_cons_succ]
          refine take_at (i := 68) (d := some 105) (v := ?mv59) rfl rfl (by kernel_rfl) (by kernel_rfl) (by kernel_rfl) (fun _ _ _ h => h) (Or.inl ⟨by rfl, ?my59⟩) hs ?mg59
          case my59 => (intro z hSz; skip; go_simp; (try with_reducible rfl))
          try simp only [Act.put, List.setIfInBounds_toArray, List.set_cons_zero, List.set_cons_succ]
          refine take_at (i := 69) (d := some 106) (v := ?mv60) rfl rfl (by kernel_rfl) (by kernel_rfl) (by kernel_rfl) (fun _ _ _ h => h) (Or.inl ⟨by rfl, ?my60⟩) hs ?mg60
          case my60 => (intro z hSz; skip; go_simp; (try with_reducible rfl))
          try simp only [Act.put, List.setIfInBounds_toArray, List.set_cons_zero, List.set_cons_succ]
          refine take_at (i := 70) (d := some 107) (v := ?mv61) rfl rfl (by kernel_rfl) (by kernel_rfl) (by kernel_rfl) (fun _ _ _ h => h) (Or.inl ⟨by rfl, ?my61⟩) hs ?mg61
          case my61 => (intro z hSz; (obtain ⟨o0, o1, o2, o3, o4, o5, o6, o7, o8⟩ := CX.out _ hSz); go_simp; (try with_reducible rfl))
          try simp only [Act.put, List.setIfInBounds_toArray, List.set_cons_zero, List.set_cons_succ]
          refine take_at (i := 71) (d := some 108) (v := ?mv62) rfl rfl (by kernel_rfl) (by kernel_rfl) (by kernel_rfl) (fun _ _ _ h => h) (Or.inl ⟨by rfl, ?my62⟩) hs ?mg62
          case my62 => (intro z hSz; (obtain ⟨o0, o1, o2, o3, o4, o5, o6, o7, o8⟩ := CY.out _ hSz); go_simp; (try with_reducible rfl))
          try simp only [Act.put, List.setIfInBounds_toArray, List.set_cons_zero, List.set_cons_succ]
          refine take_at (i := 73) (d := some 110) (v := ?mv63) rfl rfl (by kernel_rfl) (by kernel_rfl) (by kernel_rfl) (fun _ _ _ h => h) (Or.inl ⟨by rfl, ?my63⟩) hs ?mg63
          case my63 => (intro z hSz; (obtain ⟨o0, o1, o2, o3, o4, o5, o6, o7, o8⟩ := CX.out _ hSz); go_simp; (try with_reducible rfl))
          try simp only [Act.put, List.setIfInBounds_toArray, List.set_cons_zero, List.set_cons_succ]
          refine take_at (i := 74) (d := some 111) (v := ?mv64) rfl rfl (by kernel_rfl) (by kernel_rfl) (by kernel_rfl) (fun _ _ _ h => h) (Or.inl ⟨by rfl, ?my64⟩) hs ?mg64
          case my64 => (intro z hSz; (obtain ⟨o0, o1, o2, o3, o4, o5, o6, o7, o8⟩ := CY.out _ hSz); go_simp; (try with_reducible rfl))
          try simp only [Act.put, List.setIfInBounds_toArray, List.set_cons_zero, List.set_cons_succ]
          refine wpAnyH_ready (rs := [72]) (by kernel_rfl) (by simp) ?_
          refine AllReadyH.cons rfl (fun K' hK' => ?_) AllReadyH.nil
          go_simp
          refine (MI.out _ hs).mono ?_
          rintro _ ub ⟨rfl, hbb⟩
          refine hK'.out _ _ (hs.trans (hbb.mono hs.size)) (fun hs => ?_)
          clear hK' K'
          try simp only [Act.put, List.setIfInBounds_toArray, List.set_cons_zero, List.set_cons_succ]
          refine wpAnyH_ready (rs := [75]) (by kernel_rfl) (by simp) ?_
          refine AllReadyH.cons rfl (fun K' hK' => ?_) AllReadyH.nil
          go_simp
          refine (MS.out _ hs).mono ?_
          rintro _ ub ⟨rfl, hbb⟩
          refine hK'.out _ _ (hs.trans (hbb.mono hs.size)) (fun hs => ?_)
          clear hK' K'
          try simp only [Act.put, List.setIfInBounds_toArray, List.set_cons_zero, List.set_cons_succ]
          refine take_at (i := 76) (d := some 113) (v := ?mv65) rfl rfl (by kernel_rfl) (by kernel_rfl) (by kernel_rfl) (fun _ _ _ h => h) (Or.inl ⟨by rfl, ?my65⟩) hs ?mg65
          case my65 => (intro z hSz; skip; go_simp; (try with_reducible rfl))
          try simp only [Act.put, List.setIfInBounds_toArray, List.set_cons_zero, List.set_cons_succ]
          refine take_at (i := 77) (d := some 114) (v := ?mv66) rfl rfl (by kernel_rfl) (by kernel_rfl) (by kernel_rfl) (fun _ _ _ h => h) (Or.inl ⟨by rfl, ?my66⟩) hs ?mg66
          case my66 => (intro z hSz; skip; go_simp; (try with_reducible rfl))
          try simp only [Act.put, List.setIfInBounds_toArray, List.set_cons_zero, List.set_cons_succ]
          refine take_at (i := 78) (d := some 115) (v := ?mv67) rfl rfl (by kernel_rfl) (by kernel_rfl) (by kernel_rfl) (fun _ _ _ h => h) (Or.inl ⟨by rfl, ?my67⟩) hs ?mg67
          case my67 => (intro z hSz; skip; go_simp; (try with_reducible rfl))
          try simp only [Act.put, List.setIfInBounds_toArray, List.set_cons_zero, List.set_cons_succ]
          refine take_at (i := 79) (d := some 116) (v := ?mv68) rfl rfl (by kernel_rfl) (by kernel_rfl) (by kernel_rfl) (fun _ _ _ h => h) (Or.inl ⟨by rfl, ?my68⟩) hs ?mg68
          case my68 => (intro z hSz; (obtain ⟨o0, o1, o2, o3, o4, o5, o6, o7, o8⟩ := CC.out _ hSz); go_simp; (try with_reducible rfl))
          try simp only [Act.put, List.setIfInBounds_toArray, List.set_cons_zero, List.set_cons_succ]
          refine take_at (i := 81) (d := some 118) (v := ?mv69) rfl rfl (by kernel_rfl) (by kernel_rfl) (by kernel_rfl) (fun _ _ _ h => h) (Or.inl ⟨by rfl, ?my69⟩) hs ?mg69
          case my69 => (intro z hSz; (obtain ⟨o0, o1, o2, o3, o4, o5, o6, o7, o8⟩ := CC.out _ hSz); go_simp; (try with_reducible rfl))
          try simp only [Act.put, List.setIfInBounds_toArray, List.set_cons_zero, List.set_cons_succ]
          refine wpAnyH_ready (rs := [80]) (by kernel_rfl) (by simp) ?_
          refine AllReadyH.cons rfl (fun K' hK' => ?_) AllReadyH.nil
          go_simp
          refine (FI.out _ hs).mono ?_
          rintro _ ub ⟨rfl, hbb⟩
          refine hK'.out _ _ (hs.trans (hbb.mono hs.size)) (fun hs => ?_)
          clear hK' K'
          try simp only [Act.put, List.setIfInBounds_toArray, List.set_cons_zero, List.set_cons_succ]
          refine wpAnyH_ready (rs := [82]) (by kernel_rfl) (by simp) ?_
          refine AllReadyH.cons rfl (fun K' hK' => ?_) AllReadyH.nil
          go_simp
          refine (FS.out _ hs).mono ?_
          rintro _ ub ⟨rfl, hbb⟩
          refine hK'.out _ _ (hs.trans (hbb.mono hs.size)) (fun hs => ?_)
          clear hK' K'
          try simp only [Act.put, List.setIfInBounds_toArray, List.set_cons_zero, List.set_cons_succ]
          refine take_at (i := 83) (d := some 120) (v := ?mv70) rfl rfl (by kernel_rfl) (by kernel_rfl) (by kernel_rfl) (fun _ _ _ h => h) (Or.inl ⟨by rfl, ?my70⟩) hs ?mg70
          case my70 => (intro z hSz; skip; go_simp; (try with_reducible rfl))
          try simp only [Act.put, List.setIfInBounds_toArray, List.set_cons_zero, List.set_cons_succ]
          refine take_at (i := 84) (d := some 121) (v := ?mv71) rfl rfl (by kernel_rfl) (by kernel_rfl) (by kernel_rfl) (fun _ _ _ h => h) (Or.inl ⟨by rfl, ?my71⟩) hs ?mg71
          case my71 => (intro z hSz; skip; go_simp; (try with_reducible rfl))
          try simp only [Act.put, List.setIfInBounds_toArray, List.set_cons_zero, List.set_cons_succ]
          refine wpAnyH_done (by kernel_rfl) (NoPanic.normal ?_) _
          go_wp2_with fail
          go_meet
          exact ⟨rfl, hs⟩
      · clear RP SM
        as_aux_lemma =>
          skip
          refine wp_region_noPanic ?_
          refine wp_region_held_drew (S := fun u => Below Z.heap.size Z u) (by kernel_rfl) D (fun hs => ?_)
          obtain ⟨XD, hXD⟩ : ∃ X, X = Z.drew := ⟨_, rfl⟩
          rw [← hXD] at hs
          simp only [← hXD]
          clear hXD D
          refine take_at (i := 0) (d := some 37) (v := ?mv72) rfl rfl (by kernel_rfl) (by kernel_rfl) (by kernel_rfl) (fun _ _ _ h => h) (Or.inl ⟨by rfl, ?my72⟩) hs ?mg72
          case my72 => (intro z hSz; skip; go_simp; (try with_reducible rfl))
          try simp only [Act.put, List.setIfInBounds_toArray, List.set_cons_zero, List.set_cons_succ]
          refine take_at (i := 1) (d := some 38) (v := ?mv73) rfl rfl (by kernel_rfl) (by kernel_rfl) (by kernel_rfl) (fun _ _ _ h => h) (Or.inl ⟨by rfl, ?my73⟩) hs ?mg73
          case my73 => (intro z hSz; (obtain ⟨o0, o1, o2, o3, o4, o5⟩ := CU.out _ hSz); go_simp; (try with_reducible rfl))
          try simp only [Act.put, List.setIfInBounds_toArray, List.set_cons_zero, List.set_cons_succ]
          refine take_at (i := 2) (d := some 39) (v := ?mv74) rfl rfl (by kernel_rfl) (by kernel_rfl) (by kernel_rfl) (fun _ _ _ h => h) (Or.inl ⟨by rfl, ?my74⟩) hs ?mg74
          case my74 => (intro z hSz; skip; go_simp; (try with_reducible rfl))
          try simp only [Act.put, List.setIfInBounds_toArray, List.set_cons_zero, List.set_cons_succ]
          refine wpAnyH_ready (rs := [3]) (by kernel_rfl) (by simp) ?_
          refine AllReadyH.cons rfl (fun K' hK' => ?_) AllReadyH.nil
          go_simp
          refine (SR.out _ hs).mono ?_
          rintro _ ub ⟨rfl, hbb⟩
          refine hK'.out _ _ (hs.trans (hbb.mono hs.size)) (fun hs => ?_)
          clear hK' K'
          try simp only [Act.put, List.setIfInBounds_toArray, List.set_cons_zero, List.set_cons_succ]
          refine take_at (i := 4) (d := some 41) (v := ?mv75) rfl rfl (by kernel_rfl) (by kernel_rfl) (by kernel_rfl) (fun _ _ _ h => h) (Or.inl ⟨by rfl, ?my75⟩) hs ?mg75
          case my75 => (intro z hSz; skip; go_simp; (try with_reducible rfl))
          try simp only [Act.put, List.setIfInBounds_toArray, List.set_cons_zero, List.set_cons_succ]
          refine take_at (i := 5) (d := some 42) (v := ?mv76) rfl rfl (by kernel_rfl) (by kernel_rfl) (by kernel_rfl) (fun _ _ _ h => h) (Or.inl ⟨by rfl, ?my76⟩) hs ?mg76
          case my76 => (intro z hSz; skip; go_simp; (try with_reducible rfl))
          try simp only [Act.put, List.setIfInBounds_toArray, List.set_cons_zero, List.set_cons_succ]
          refine take_at (i := 6) (d := some 43) (v := ?mv77) rfl rfl (by kernel_rfl) (by kernel_rfl) (by kernel_rfl) (fun _ _ _ h => h) (Or.inl ⟨by rfl, ?my77⟩) hs ?mg77
          case my77 => (intro z hSz; skip; go_simp; (try with_reducible rfl))
          try simp only [Act.put, List.setIfInBounds_toArray, List.set_cons_zero, List.set_cons_succ]
          refine take_at (i := 7) (d := some 44) (v := ?mv78) rfl rfl (by kernel_rfl) (by kernel_rfl) (by kernel_rfl) (fun _ _ _ h => h) (Or.inl ⟨by rfl, ?my78⟩) hs ?mg78
          case my78 => (intro z hSz; skip; go_simp; (try with_reducible rfl))
          try simp only [Act.put, List.setIfInBounds_toArray, List.set_cons_zero, List.set_cons_succ]
          refine take_at (i := 8) (d := some 45) (v := ?mv79) rfl rfl (by kernel_rfl) (by kernel_rfl) (by kernel_rfl) (fun _ _ _ h => h) (Or.inl ⟨by rfl, ?my79⟩) hs ?mg79
          case my79 => (intro z hSz; (obtain ⟨o0, o1, o2, o3, o4, o5⟩ := CU.out _ hSz); go_simp; (try with_reducible rfl))
          try simp only [Act.put, List.setIfInBounds_toArray, List.set_cons_zero, List.set_cons_succ]
          refine take_at (i := 9) (d := some 46) (v := ?mv80) rfl rfl (by kernel_rfl) (by kernel_rfl) (by kernel_rfl) (fun _ _ _ h => h) (Or.inl ⟨by rfl, ?my80⟩) hs ?mg80
          case my80 => (intro z hSz; skip; go_simp; (try with_reducible rfl))
          try simp only [Act.put, List.setIfInBounds_toArray, List.set_cons_zero, List.set_cons_succ]
          refine take_at (i := 10) (d := some 47) (v := ?mv81) rfl rfl (by kernel_rfl) (by kernel_rfl) (by kernel_rfl) (fun _ _ _ h => h) (Or.inl ⟨by rfl, ?my81⟩) hs ?mg81
          case my81 => (intro z hSz; skip; go_simp; (try with_reducible rfl))
          try simp only [Act.put, List.setIfInBounds_toArray, List.set_cons_zero, List.set_cons_succ]
          refine take_at (i := 11) (d := some 48) (v := ?mv82) rfl rfl (by kernel_rfl) (by kernel_rfl) (by kernel_rfl) (fun _ _ _ h => h) (Or.inl ⟨by rfl, ?my82⟩) hs ?mg82
          case my82 => (intro z hSz; skip; go_simp; (try with_reducible rfl))
          try simp only [Act.put, List.setIfInBounds_toArray, List.set_cons_zero, List.set_cons_succ]
          refine take_at (i := 12) (d := some 49) (v := ?mv83) rfl rfl (by kernel_rfl) (by kernel_rfl) (by kernel_rfl) (fun _ _ _ h => h) (Or.inl ⟨by rfl, ?my83⟩) hs ?mg83
          case my83 => (intro z hSz; (obtain ⟨o0, o1, o2, o3, o4, o5⟩ := CU.out _ hSz); go_simp; (try with_reducible rfl))
          try simp only [Act.put, List.setIfInBounds_toArray, List.set_cons_zero, List.set_cons_succ]
          refine take_at (i := 15) (d := some 52) (v := ?mv84) rfl rfl (by kernel_rfl) (by kernel_rfl) (by kernel_rfl) (fun _ _ _ h => h) (Or.inl ⟨by rfl, ?my84⟩) hs ?mg84
          case my84 => (intro z hSz; skip; go_simp; (try with_reducible rfl))
          try simp only [Act.put, List.setIfInBounds_toArray, List.set_cons_zero, List.set_cons_succ]
          refine wpAnyH_ready (rs := [13]) (by kernel_rfl) (by simp) ?_
          refine AllReadyH.cons rfl (fun K' hK' => ?_) AllReadyH.nil
          go_simp
          refine (PU.out _ hs).mono ?_
          rintro _ ub ⟨qa, qc, rfl, HQ, hbb⟩
          refine hK'.out _ _ (hs.trans (hbb.mono hs.size)) (fun hs => ?_)
          clear hK' K'
          try simp only [Act.put, List.setIfInBounds_toArray, List.set_cons_zero, List.set_cons_succ]
          refine take_at (i := 14) (d := some 51) (v := ?mv85) rfl rfl (by kernel_rfl) (by kernel_rfl) (by kernel_rfl) (fun _ _ _ h => h) (Or.inl ⟨by rfl, ?my85⟩) hs ?mg85
          case my85 => (intro z hSz; skip; go_simp; (try with_reducible rfl))
          try simp only [Act.put, List.setIfInBounds_toArray, List.set_cons_zero, List.set_cons_succ]
          refine wpAnyH_ready (rs := [16]) (by kernel_rfl) (by simp) ?_
          refine AllReadyH.cons rfl (fun K' hK' => ?_) AllReadyH.nil
          go_simp
          refine (LW.out _ qa qc hs HQ).mono ?_
          rintro _ ub ⟨rfl, hu⟩
          have hu2 := hu.symm
          subst hu2
          clear hu
          refine hK'.out _ _ hs (fun hs => ?_)
          clear hK' K'
          try simp only [Act.put, List.setIfInBounds_toArray, List.set_cons_zero, List.set_cons_succ]
          refine take_at (i := 17) (d := some 54) (v := ?mv86) rfl rfl (by kernel_rfl) (by kernel_rfl) (by kernel_rfl) (fun _ _ _ h => h) (Or.inl ⟨by rfl, ?my86⟩) hs ?mg86
          case my86 => (intro z hSz; skip; go_simp; (try with_reducible rfl))
          try simp only [Act.put, List.setIfInBounds_toArray, List.set_cons_zero, List.set_cons_succ]
          refine take_at (i := 18) (d := some 55) (v := ?mv87) rfl rfl (by kernel_rfl) (by kernel_rfl) (by kernel_rfl) (fun _ _ _ h => h) (Or.inl ⟨by rfl, ?my87⟩) hs ?mg87
          case my87 => (intro z hSz; skip; go_simp; (try with_reducible rfl))
          try simp only [Act.put, List.setIfInBounds_toArray, List.set_cons_zero, List.set_cons_succ]
          refine take_at (i := 19) (d := some 56) (v := ?mv88) rfl rfl (by kernel_rfl) (by kernel_rfl) (by kernel_rfl) (fun _ _ _ h => h) (Or.inl ⟨by rfl, ?my88⟩) hs ?mg88
          case my88 => (intro z hSz; skip; go_simp; (try with_reducible rfl))
          try simp only [Act.put, List.setIfInBounds_toArray, List.set_cons_zero, List.set_cons_succ]
          refine take_at (i := 20) (d := some 57) (v := ?mv89) rfl rfl (by kernel_rfl) (by kernel_rfl) (by kernel_rfl) (fun _ _ _ h => h) (Or.inl ⟨by rfl, ?my89⟩) hs ?mg89
          case my89 => (intro z hSz; skip; go_simp; (try with_reducible rfl))
          try simp only [Act.put, List.setIfInBounds_toArray, List.set_cons_zero, List.set_cons_succ]
          refine take_at (i := 21) (d := some 58) (v := ?mv90) rfl rfl (by kernel_rfl) (by kernel_rfl) (by kernel_rfl) (fun _ _ _ h => h) (Or.inl ⟨by rfl, ?my90⟩) hs ?mg90
          case my90 => (intro z hSz; skip; go_simp; (try with_reducible rfl))
          try simp only [Act.put, List.setIfInBounds_toArray, List.set_cons_zero, List.set_cons_succ]
          refine take_at (i := 22) (d := some 59) (v := ?mv91) rfl rfl (by kernel_rfl) (by kernel_rfl) (by kernel_rfl) (fun _ _ _ h => h) (Or.inl ⟨by rfl, ?my91⟩) hs ?mg91
          case my91 => (intro z hSz; (obtain ⟨o0, o1, o2⟩ := CP.out _ hSz); go_simp; (try with_reducible rfl))
          try simp only [Act.put, List.setIfInBounds_toArray, List.set_cons_zero, List.set_cons_succ]
          refine take_at (i := 23) (d := some 60) (v := ?mv92) rfl rfl (by kernel_rfl) (by kernel_rfl) (by kernel_rfl) (fun _ _ _ h => h) (Or.inl ⟨by rfl, ?my92⟩) hs ?mg92
          case my92 => (intro z hSz; (obtain ⟨o0, o1, o2, o3, o4⟩ := CH.out _ hSz); go_simp; (try with_reducible rfl))
          try simp only [Act.put, List.setIfInBounds_toArray, List.set_cons_zero, List.set_cons_succ]
          refine wpAnyH_ready (rs := [24]) (by kernel_rfl) (by simp) ?_
          refine AllReadyH.cons rfl (fun K' hK' => ?_) AllReadyH.nil
          go_simp
          refine (SPH.out _ hs).mono ?_
          rintro _ ub ⟨qe, qf, rfl, hbb⟩
          refine hK'.out _ _ (hs.trans (hbb.mono hs.size)) (fun hs => ?_)
          clear hK' K'
          try simp only [Act.put, List.setIfInBounds_toArray, List.set_cons_zero, List.set_cons_succ]
          refine take_at (i := 25) (d := some 62) (v := ?mv93) rfl rfl (by kernel_rfl) (by kernel_rfl) (by kernel_rfl) (fun _ _ _ h => h) (Or.inl ⟨by rfl, ?my93⟩) hs ?mg93
          case my93 => (intro z hSz; skip; go_simp; (try with_reducible rfl))
          try simp only [Act.put, List.setIfInBounds_toArray, List.set_cons_zero, List.set_cons_succ]
          refine take_at (i := 26) (d := some 63) (v := ?mv94) rfl rfl (by kernel_rfl) (by kernel_rfl) (by kernel_rfl) (fun _ _ _ h => h) (Or.inl ⟨by rfl, ?my94⟩) hs ?mg94
          case my94 => (intro z hSz; skip; go_simp; (try with_reducible rfl))
          try simp only [Act.put, List.setIfInBounds_toArray, List.set_cons_zero, List.set_cons_succ]
          refine take_at (i := 27) (d := some 64) (v := ?mv95) rfl rfl (by kernel_rfl) (by kernel_rfl) (by kernel_rfl) (fun _ _ _ h => h) (Or.inl ⟨by rfl, ?my95⟩) hs ?mg95
          case my95 => (intro z hSz; skip; go_simp; (try with_reducible rfl))
          try simp only [Act.put, List.setIfInBounds_toArray, List.set_cons_zero, List.set_cons_succ]
          refine take_at (i := 28) (d := some 65) (v := ?mv96) rfl rfl (by kernel_rfl) (by kernel_rfl) (by kernel_rfl) (fun _ _ _ h => h) (Or.inl ⟨by rfl, ?my96⟩) hs ?mg96
          case my96 => (intro z hSz; skip; go_simp; (try with_reducible rfl))
          try simp only [Act.put, List.setIfInBounds_toArray, List.set_cons_zero, List.set_cons_succ]
          refine take_at (i := 29) (d := some 66) (v := ?mv97) rfl rfl (by kernel_rfl) (by kernel_rfl) (by kernel_rfl) (fun _ _ _ h => h) (Or.inl ⟨by rfl, ?my97⟩) hs ?mg97
          case my97 => (intro z hSz; skip; go_simp; (try with_reducible rfl))
          try simp only [Act.put, List.setIfInBounds_toArray, List.set_cons_zero, List.set_cons_succ]
          refine take_at (i := 30) (d := some 67) (v := ?mv98) rfl rfl (by kernel_rfl) (by kernel_rfl) (by kernel_rfl) (fun _ _ _ h => h) (Or.inl ⟨by rfl, ?my98⟩) hs ?mg98
          case my98 => (intro z hSz; (obtain ⟨o0, o1, o2⟩ := CP.out _ hSz); go_simp; (try with_reducible rfl))
          try simp only [Act.put, List.setIfInBounds_toArray, List.set_cons_zero, List.set_cons_succ]
          refine take_at (i := 31) (d := some 68) (v := ?mv99) rfl rfl (by kernel_rfl) (by kernel_rfl) (by kernel_rfl) (fun _ _ _ h => h) (Or.inl ⟨by rfl, ?my99⟩) hs ?mg99
          case my99 => (intro z hSz; skip; go_simp; (try with_reducible rfl))
          try simp only [Act.put, List.setIfInBounds_toArray, List.set_cons_zero, List.set_cons_succ]
          refine take_at (i := 32) (d := some 69) (v := ?mv100) rfl rfl (by kernel_rfl) (by kernel_rfl) (by kernel_rfl) (fun _ _ _ h => h) (Or.inl ⟨by rfl, ?my100⟩) hs ?mg100
          case my100 => (intro z hSz; skip; go_simp; (try with_reducible rfl))
          try simp only [Act.put, List.setIfInBounds_toArray, List.set_cons_zero, List.set_cons_succ]
          refine take_at (i := 33) (d := some 70) (v := undef) rfl rfl (by kernel_rfl) (by kernel_rfl) (by kernel_rfl) (fun _ _ _ h => h) (Or.inr ⟨by rfl, rfl⟩) hs ?_
          try simp only [Act.put, List.setIfInBounds_toArray, List.set_cons_zero, List.set_cons_succ]
          refine take_at (i := 34) (d := some 71) (v := undef) rfl rfl (by kernel_rfl) (by kernel_rfl) (by kernel_rfl) (fun _ _ _ h => h) (Or.inr ⟨by rfl, rfl⟩) hs ?_
          try simp only [Act.put, List.setIfInBounds_toArray, List.set_cons_zero, List.set_cons_succ]
          refine take_at (i := 35) (d := some 72) (v := undef) rfl rfl (by kernel_rfl) (by kernel_rfl) (by kernel_rfl) (fun _ _ _ h => h) (Or.inr ⟨by rfl, rfl⟩) hs ?_
          try simp only [Act.put, List.setIfInBounds_toArray, List.set_cons_zero, List.set_cons_succ]
          refine take_at (i := 36) (d := some 73) (v := undef) rfl rfl (by kernel_rfl) (by kernel_rfl) (by kernel_rfl) (fun _ _ _ h => h) (Or.inr ⟨by rfl, rfl⟩) hs ?_
          try simp only [Act.put, List.setIfInBounds_toArray, List.set_cons_zero, List.set_cons_succ]
          refine take_at (i := 37) (d := some 74) (v := undef) rfl rfl (by kernel_rfl) (by kernel_rfl) (by kernel_rfl) (fun _ _ _ h => h) (Or.inr ⟨by rfl, rfl⟩) hs ?_
          try simp only [Act.put, List.setIfInBounds_toArray, List.set_cons_zero, List.set_cons_succ]
          refine take_at (i := 38) (d := some 75) (v := undef) rfl rfl (by kernel_rfl) (by kernel_rfl) (by kernel_rfl) (fun _ _ _ h => h) (Or.inr ⟨by rfl, rfl⟩) hs ?_
          try simp only [Act.put, List.setIfInBounds_toArray, List.set_cons_zero, List.set_cons_succ]
          refine take_at (i := 39) (d := some 76) (v := undef) rfl rfl (by kernel_rfl) (by kernel_rfl) (by kernel_rfl) (fun _ _ _ h => h) (Or.inr ⟨by rfl, rfl⟩) hs ?_
          try simp only [Act.put, List.setIfInBounds_toArray, List.set_cons_zero, List.set_cons_succ]
          refine take_at (i := 40) (d := some 77) (v := undef) rfl rfl (by kernel_rfl) (by kernel_rfl) (by kernel_rfl) (fun _ _ _ h => h) (Or.inr ⟨by rfl, rfl⟩) hs ?_
          try simp only [Act.put, List.setIfInBounds_toArray, List.set_cons_zero, List.set_cons_succ]
          refine take_at (i := 41) (d := some 78) (v := undef) rfl rfl (by kernel_rfl) (by kernel_rfl) (by kernel_rfl) (fun _ _ _ h => h) (Or.inr ⟨by rfl, rfl⟩) hs ?_
          try simp only [Act.put, List.setIfInBounds_toArray, List.set_cons_zero, List.set_cons_succ]
          refine take_at (i := 42) (d := some 79) (v := undef) rfl rfl (by kernel_rfl) (by kernel_rfl) (by kernel_rfl) (fun _ _ _ h => h) (Or.inr ⟨by rfl, rfl⟩) hs ?_
          try simp only [Act.put, List.setIfInBounds_toArray, List.set_cons_zero, List.set_cons_succ]
          refine take_at (i := 43) (d := some 80) (v := undef) rfl rfl (by kernel_rfl) (by kernel_rfl) (by kernel_rfl) (fun _ _ _ h => h) (Or.inr ⟨by rfl, rfl⟩) hs ?_
          try simp only [Act.put, List.setIfInBounds_toArray, List.set_cons_zero, List.set_cons_succ]
          refine take_at (i := 44) (d := some 81) (v := undef) rfl rfl (by kernel_rfl) (by kernel_rfl) (by kernel_rfl) (fun _ _ _ h => h) (Or.inr ⟨by rfl, rfl⟩) hs ?_
          try simp only [Act.put, List.setIfInBounds_toArray, List.set_cons_zero, List.set_cons_succ]
          refine take_at (i := 45) (d := some 82) (v := undef) rfl rfl (by kernel_rfl) (by kernel_rfl) (by kernel_rfl) (fun _ _ _ h => h) (Or.inr ⟨by rfl, rfl⟩) hs ?_
          try simp only [Act.put, List.setIfInBounds_toArray, List.set_cons_zero, List.set_cons_succ]
          refine take_at (i := 46) (d := some 83) (v := undef) rfl rfl (by kernel_rfl) (by kernel_rfl) (by kernel_rfl) (fun _ _ _ h => h) (Or.inr ⟨by rfl, rfl⟩) hs ?_
          try simp only [Act.put, List.setIfInBounds_toArray, List.set_cons_zero, List.set_cons_succ]
          refine take_at (i := 47) (d := some 84) (v := undef) rfl rfl (by kernel_rfl) (by kernel_rfl) (by kernel_rfl) (fun _ _ _ h => h) (Or.inr ⟨by rfl, rfl⟩) hs ?_
          try simp only [Act.put, List.setIfInBounds_toArray, List.set_cons_zero, List.set_cons_succ]
          refine take_at (i := 48) (d := some 85) (v := undef) rfl rfl (by kernel_rfl) (by kernel_rfl) (by kernel_rfl) (fun _ _ _ h => h) (Or.inr ⟨by rfl, rfl⟩) hs ?_
          try simp only [Act.put, List.setIfInBounds_toArray, List.set_cons_zero, List.set_cons_succ]
          refine take_at (i := 49) (d := some 86) (v := undef) rfl rfl (by kernel_rfl) (by kernel_rfl) (by kernel_rfl) (fun _ _ _ h => h) (Or.inr ⟨by rfl, rfl⟩) hs ?_
          try simp only [Act.put, List.setIfInBounds_toArray, List.set_cons_zero, List.set_cons_succ]
          refine take_at (i := 50) (d := some 87) (v := undef) rfl rfl (by kernel_rfl) (by kernel_rfl) (by kernel_rfl) (fun _ _ _ h => h) (Or.inr ⟨by rfl, rfl⟩) hs ?_
          try simp only [Act.put, List.setIfInBounds_toArray, List.set_cons_zero, List.set_cons_succ]
          refine take_at (i := 51) (d := some 88) (v := undef) rfl rfl (by kernel_rfl) (by kernel_rfl) (by kernel_rfl) (fun _ _ _ h => h) (Or.inr ⟨by rfl, rfl⟩) hs ?_
          try simp only [Act.put, List.setIfInBounds_toArray, List.set_cons_zero, List.set_cons_succ]
          refine take_at (i := 52) (d := some 89) (v := undef) rfl rfl (by kernel_rfl) (by kernel_rfl) (by kernel_rfl) (fun _ _ _ h => h) (Or.inr ⟨by rfl, rfl⟩) hs ?_
          try simp only [Act.put, List.setIfInBounds_toArray, List.set_cons_zero, List.set_cons_succ]
          refine take_at (i := 53) (d := some 90) (v := undef) rfl rfl (by kernel_rfl) (by kernel_rfl) (by kernel_rfl) (fun _ _ _ h => h) (Or.inr ⟨by rfl, rfl⟩) hs ?_
          try simp only [Act.put, List.setIfInBounds_toArray, List.set_cons_zero, List.set_cons_succ]
          refine take_at (i := 54) (d := some 91) (v := undef) rfl rfl (by kernel_rfl) (by kernel_rfl) (by kernel_rfl) (fun _ _ _ h => h) (Or.inr ⟨by rfl, rfl⟩) hs ?_
          try simp only [Act.put, List.setIfInBounds_toArray, List.set_cons_zero, List.set_cons_succ]
          refine take_at (i := 55) (d := some 92) (v := undef) rfl rfl (by kernel_rfl) (by kernel_rfl) (by kernel_rfl) (fun _ _ _ h => h) (Or.inr ⟨by rfl, rfl⟩) hs ?_
          try simp only [Act.put, List.setIfInBounds_toArray, List.set_cons_zero, List.set_cons_succ]
          refine take_at (i := 56) (d := some 93) (v := ?mv101) rfl rfl (by kernel_rfl) (by kernel_rfl) (by kernel_rfl) (fun _ _ _ h => h) (Or.inl ⟨by rfl, ?my101⟩) hs ?mg101
          case my101 => (intro z hSz; skip; go_simp; (try with_reducible rfl))
          try simp only [Act.put, List.setIfInBounds_toArray, List.set_cons_zero, List.set_cons_succ]
          refine take_at (i := 57) (d := some 94) (v := ?mv102) rfl rfl (by kernel_rfl) (by kernel_rfl) (by kernel_rfl) (fun _ _ _ h => h) (Or.inl ⟨by rfl, ?my102⟩) hs ?mg102
          case my102 => (intro z hSz; skip; go_simp; (try with_reducible rfl))
          try simp only [Act.put, List.setIfInBounds_toArray, List.set_cons_zero, List.set_cons_succ]
          refine take_at (i := 58) (d := some 95) (v := ?mv103) rfl rfl (by kernel_rfl) (by kernel_rfl) (by kernel_rfl) (fun _ _ _ h => h) (Or.inl ⟨by rfl, ?my103⟩) hs ?mg103
          case my103 => (intro z hSz; skip; go_simp; (try with_reducible rfl))
          try simp only [Act.put, List.setIfInBounds_toArray, List.set_cons_zero, List.set_cons_succ]
          refine take_at (i := 59) (d := some 96) (v := ?mv104) rfl rfl (by kernel_rfl) (by kernel_rfl) (by kernel_rfl) (fun _ _ _ h => h) (Or.inl ⟨by rfl, ?my104⟩) hs ?mg104
          case my104 => (intro z hSz; skip; go_simp; (try with_reducible rfl))
          try simp only [Act.put, List.setIfInBounds_toArray, List.set_cons_zero, List.set_cons_succ]
          refine take_at (i := 60) (d := some 97) (v := ?mv105) rfl rfl (by kernel_rfl) (by kernel_rfl) (by kernel_rfl) (fun _ _ _ h => h) (Or.inl ⟨by rfl, ?my105⟩) hs ?mg105
          case my105 => (intro z hSz; skip; go_simp; (try with_reducible rfl))
          try simp only [Act.put, List.setIfInBounds_toArray, List.set_cons_zero, List.set_cons_succ]
          refine take_at (i := 61) (d := some 98) (v := ?mv106) rfl rfl (by kernel_rfl) (by kernel_rfl) (by kernel_rfl) (fun _ _ _ h => h) (Or.inl ⟨by rfl, ?my106⟩) hs ?mg106
          case my106 => (intro z hSz; (obtain ⟨o0, o1, o2, o3, o4, o5, o6, o7, o8⟩ := CC.out _ hSz); go_simp; (try with_reducible rfl))
          try simp only [Act.put, List.setIfInBounds_toArray, List.set_cons_zero, List.set_cons_succ]
          refine take_at (i := 63) (d := some 100) (v := ?mv107) rfl rfl (by kernel_rfl) (by kernel_rfl) (by kernel_rfl) (fun _ _ _ h => h) (Or.inl ⟨by rfl, ?my107⟩) hs ?mg107
          case my107 => (intro z hSz; skip; go_simp; (try with_reducible rfl))
          try simp only [Act.put, List.setIfInBounds_toArray, List.set_cons_zero, List.set_cons_succ]
          refine take_at (i := 64) (d := some 101) (v := ?mv108) rfl rfl (by kernel_rfl) (by kernel_rfl) (by kernel_rfl) (fun _ _ _ h => h) (Or.inl ⟨by rfl, ?my108⟩) hs ?mg108
          case my108 => (intro z hSz; skip; go_simp; (try with_reducible rfl))
          try simp only [Act.put, List.setIfInBounds_toArray, List.set_cons_zero, List.set_cons_succ]
          refine take_at (i := 65) (d := some 102) (v := ?mv109) rfl rfl (by kernel_rfl) (by kernel_rfl) (by kernel_rfl) (fun _ _ _ h => h) (Or.inl ⟨by rfl, ?my109⟩) hs ?mg109
          case my109 => (intro z hSz; (obtain ⟨o0, o1, o2, o3, o4, o5, o6, o7, o8⟩ := CC.out _ hSz); go_simp; (try with_reducible rfl))
          try simp only [Act.put, List.setIfInBounds_toArray, List.set_cons_zero, List.set_cons_succ]
          refine wpAnyH_ready (rs := [62]) (by kernel_rfl) (by simp) ?_
          refine AllReadyH.cons rfl (fun K' hK' => ?_) AllReadyH.nil
          go_simp
          refine (CI.out _ hs).mono ?_
          rintro _ ub ⟨rfl, hbb⟩
          refine hK'.out _ _ (hs.trans (hbb.mono hs.size)) (fun hs => ?_)
          clear hK' K'
          try simp only [Act.put, List.setIfInBounds_toArray, List.set_cons_zero, List.set_cons_succ]
          refine wpAnyH_ready (rs := [66]) (by kernel_rfl) (by simp) ?_
          refine AllReadyH.cons rfl (fun K' hK' => ?_) AllReadyH.nil
          go_simp
          refine (CK.out _ hs).mono ?_
          rintro _ ub ⟨rfl, hbb⟩
          refine hK'.out _ _ (hs.trans (hbb.mono hs.size)) (fun hs => ?_)
          clear hK' K'
          try simp only [Act.put, List.setIfInBounds_toArray, List.set_cons_zero, List.set_cons_succ]
          refine take_at (i := 67) (d := some 104) (v := ?mv110) rfl rfl (by kernel_rfl) (by kernel_rfl) (by kernel_rfl) (fun _ _ _ h => h) (Or.inl ⟨by rfl, ?my110⟩) hs ?mg110
          case my110 => (intro z hSz; skip; go_simp; (try with_reducible rfl))
          try simp only [Act.put, List.setIfInBounds_toArray, List.set_cons_zero, List.set_cons_succ]
          refine take_at (i := 68) (d := some 105) (v := ?mv111) rfl rfl (by kernel_rfl) (by kernel_rfl) (by kernel_rfl) (fun _ _ _ h => h) (Or.inl ⟨by rfl, ?my111⟩) hs ?mg111
          case my111 => (intro z hSz; skip; go_simp; (try with_reducible rfl))
          try simp only [Act.put, List.setIfInBounds_toArray, List.set_cons_zero, List.set_cons_succ]
          refine take_at (i := 69) (d := some 106) (v := ?mv112) rfl rfl (by kernel_rfl) (by kernel_rfl) (by kernel_rfl) (fun _ _ _ h => h) (Or.inl ⟨by rfl, ?my112⟩) hs ?mg112
          case my112 => (intro z hSz; skip; go_simp; (try with_reducible rfl))
          try simp only [Act.put, List.setIfInBounds_toArray, List.set_cons_zero, List.set_cons_succ]
          refine take_at (i := 70) (d := some 107) (v := ?mv113) rfl rfl (by kernel_rfl) (by kernel_rfl) (by kernel_rfl) (fun _ _ _ h => h) (Or.inl ⟨by rfl, ?my113⟩) hs ?mg113
          case my113 => (intro z hSz; (obtain ⟨o0, o1, o2, o3, o4, o5, o6, o7, o8⟩ := CX.out _ hSz); go_simp; (try with_reducible rfl))
          try simp only [Act.put, List.setIfInBounds_toArray, List.set_cons_zero, List.set_cons_succ]
          refine take_at (i := 71) (d := some 108) (v := ?mv114) rfl rfl (by kernel_rfl) (by kernel_rfl) (by kernel_rfl) (fun _ _ _ h => h) (Or.inl ⟨by rfl, ?my114⟩) hs ?mg114
          case my114 => (intro z hSz; (obtain ⟨o0, o1, o2, o3, o4, o5, o6, o7, o8⟩ := CY.out _ hSz); go_simp; (try with_reducible rfl))
          try simp only [Act.put, List.setIfInBounds_toArray, List.set_cons_zero, List.set_cons_succ]
          refine take_at (i := 73) (d := some 110) (v := ?mv115) rfl rfl (by kernel_rfl) (by kernel_rfl) (by kernel_rfl) (fun _ _ _ h => h) (Or.inl ⟨by rfl, ?my115⟩) hs ?mg115
          case my115 => (intro z hSz; (obtain ⟨o0, o1, o2, o3, o4, o5, o6, o7, o8⟩ := CX.out _ hSz); go_simp; (try with_reducible rfl))
          try simp only [Act.put, List.setIfInBounds_toArray, List.set_cons_zero, List.set_cons_succ]
          refine take_at (i := 74) (d := some 111) (v := ?mv116) rfl rfl (by kernel_rfl) (by kernel_rfl) (by kernel_rfl) (fun _ _ _ h => h) (Or.inl ⟨by rfl, ?my116⟩) hs ?mg116
          case my116 => (intro z hSz; (obtain ⟨o0, o1, o2, o3, o4, o5, o6, o7, o8⟩ := CY.out _ hSz); go_simp; (try with_reducible rfl))
          try simp only [Act.put, List.setIfInBounds_toArray, List.set_cons_zero, List.set_cons_succ]
          refine wpAnyH_ready (rs := [72]) (by kernel_rfl) (by simp) ?_
          refine AllReadyH.cons rfl (fun K' hK' => ?_) AllReadyH.nil
          go_simp
          refine (MI.out _ hs).mono ?_
          rintro _ ub ⟨rfl, hbb⟩
          refine hK'.out _ _ (hs.trans (hbb.mono hs.size)) (fun hs => ?_)
          clear hK' K'
          try simp only [Act.put, List.setIfInBounds_toArray, List.set_cons_zero, List.set_cons_succ]
          refine wpAnyH_ready (rs := [75]) (by kernel_rfl) (by simp) ?_
          refine AllReadyH.cons rfl (fun K' hK' => ?_) AllReadyH.nil
          go_simp
          refine (MS.out _ hs).mono ?_
          rintro _ ub ⟨rfl, hbb⟩
          refine hK'.out _ _ (hs.trans (hbb.mono hs.size)) (fun hs => ?_)
          clear hK' K'
          try simp only [Act.put, List.setIfInBounds_toArray, List.set_cons_zero, List.set_cons_succ]
          refine take_at (i := 76) (d := some 113) (v := ?mv117) rfl rfl (by kernel_rfl) (by kernel_rfl) (by kernel_rfl) (fun _ _ _ h => h) (Or.inl ⟨by rfl, ?my117⟩) hs ?mg117
          case my117 => (intro z hSz; skip; go_simp; (try with_reducible rfl))
          try simp only [Act.put, List.setIfInBounds_toArray, List.set_cons_zero, List.set_cons_succ]
          refine take_at (i := 77) (d := some 114) (v := ?mv118) rfl rfl (by kernel_rfl) (by kernel_rfl) (by kernel_rfl) (fun _ _ _ h => h) (Or.inl ⟨by rfl, ?my118⟩) hs ?mg118
          case my118 => (intro z hSz; skip; go_simp; (try with_reducible rfl))
          try simp only [Act.put, List.setIfInBounds_toArray, List.set_cons_zero, List.set_cons_succ]
          refine take_at (i := 78) (d := some 115) (v := ?mv119) rfl rfl (by kernel_rfl) (by kernel_rfl) (by kernel_rfl) (fun _ _ _ h => h) (Or.inl ⟨by rfl, ?my119⟩) hs ?mg119
          case my119 => (intro z hSz; skip; go_simp; (try with_reducible rfl))
          try simp only [Act.put, List.setIfInBounds_toArray, List.set_cons_zero, List.set_cons_succ]
          refine take_at (i := 79) (d := some 116) (v := ?mv120) rfl rfl (by kernel_rfl) (by kernel_rfl) (by kernel_rfl) (fun _ _ _ h => h) (Or.inl ⟨by rfl, ?my120⟩) hs ?mg120
          case my120 => (intro z hSz; (obtain ⟨o0, o1, o2, o3, o4, o5, o6, o7, o8⟩ := CC.out _ hSz); go_simp; (try with_reducible rfl))
          try simp only [Act.put, List.setIfInBounds_toArray, List.set_cons_zero, List.set_cons_succ]
          refine take_at (i := 81) (d := some 118) (v := ?mv121) rfl rfl (by kernel_rfl) (by kernel_rfl) (by kernel_rfl) (fun _ _ _ h => h) (Or.inl ⟨by rfl, ?my121⟩) hs ?mg121
          case my121 => (intro z hSz; (obtain ⟨o0, o1, o2, o3, o4, o5, o6, o7, o8⟩ := CC.out _ hSz); go_simp; (try with_reducible rfl))
          try simp only [Act.put, List.setIfInBounds_toArray, List.set_cons_zero, List.set_cons_succ]
          refine wpAnyH_ready (rs := [80]) (by kernel_rfl) (by simp) ?_
          refine AllReadyH.cons rfl (fun K' hK' => ?_) AllReadyH.nil
          go_simp
          refine (FI.out _ hs).mono ?_
          rintro _ ub ⟨rfl, hbb⟩
          refine hK'.out _ _ (hs.trans (hbb.mono hs.size)) (fun hs => ?_)
          clear hK' K'
          try simp only [Act.put, List.setIfInBounds_toArray, List.set_cons_zero, List.set_cons_succ]
          refine wpAnyH_ready (rs := [82]) (by kernel_rfl) (by simp) ?_
          refine AllReadyH.cons rfl (fun K' hK' => ?_) AllReadyH.nil
          go_simp
          refine (FS.out _ hs).mono ?_
          rintro _ ub ⟨rfl, hbb⟩
          refine hK'.out _ _ (hs.trans (hbb.mono hs.size)) (fun hs => ?_)
          clear hK' K'
          try simp only [Act.put, List.setIfInBounds_toArray, List.set_cons_zero, List.set_cons_succ]
          refine take_at (i := 83) (d := some 120) (v := ?mv122) rfl rfl (by kernel_rfl) (by kernel_rfl) (by kernel_rfl) (fun _ _ _ h => h) (Or.inl ⟨by rfl, ?my122⟩) hs ?mg122
          case my122 => (intro z hSz; skip; go_simp; (try with_reducible rfl))
          try simp only [Act.put, List.setIfInBounds_toArray, List.set_cons_zero, List.set_cons_succ]
          refine take_at (i := 84) (d := some 121) (v := ?mv123) rfl rfl (by kernel_rfl) (by kernel_rfl) (by kernel_rfl) (fun _ _ _ h => h) (Or.inl ⟨by rfl, ?my123⟩) hs ?mg123
          case my123 => (intro z hSz; skip; go_simp; (try with_reducible rfl))
          try simp only [Act.put, List.setIfInBounds_toArray, List.set_cons_zero, List.set_cons_succ]
          refine wpAnyH_done (by kernel_rfl) (NoPanic.normal ?_) _
          go_wp2_with fail
          go_meet
          exact ⟨rfl, hs⟩
    · clear PU LW
      rcases PC.out with rfl | rfl
      · have RP : Hid _ := RP.out rfl
        have SM : Hid _ := SM.out rfl
        as_aux_lemma =>
          skip
          refine wp_region_noPanic ?_
          refine wp_region_held_drew (S := fun u => Below Z.heap.size Z u) (by kernel_rfl) D (fun hs => ?_)
          obtain ⟨XD, hXD⟩ : ∃ X, X = Z.drew := ⟨_, rfl⟩
          rw [← hXD] at hs
          simp only [← hXD]
          clear hXD D
          refine take_at (i := 0) (d := some 37) (v := ?mv124) rfl rfl (by kernel_rfl) (by kernel_rfl) (by kernel_rfl) (fun _ _ _ h => h) (Or.inl ⟨by rfl, ?my124⟩) hs ?mg124
          case my124 => (intro z hSz; skip; go_simp; (try with_reducible rfl))
          try simp only [Act.put, List.setIfInBounds_toArray, List.set_cons_zero, List.set_cons_succ]
          refine take_at (i := 1) (d := some 38) (v := ?mv125) rfl rfl (by kernel_rfl) (by kernel_rfl) (by kernel_rfl) (fun _ _ _ h => h) (Or.inl ⟨by rfl, ?my125⟩) hs ?mg125
          case my125 => (intro z hSz; (obtain ⟨o0, o1, o2, o3, o4, o5⟩ := CU.out _ hSz); go_simp; (try with_reducible rfl))
          try simp only [Act.put, List.setIfInBounds_toArray, List.set_cons_zero, List.set_cons_succ]
          refine take_at (i := 2) (d := some 39) (v := ?mv126) rfl rfl (by kernel_rfl) (by kernel_rfl) (by kernel_rfl) (fun _ _ _ h => h) (Or.inl ⟨by rfl, ?my126⟩) hs ?mg126
          case my126 => (intro z hSz; skip; go_simp; (try with_reducible rfl))
          try simp only [Act.put, List.setIfInBounds_toArray, List.set_cons_zero, List.set_cons_succ]
          refine wpAnyH_ready (rs := [3]) (by kernel_rfl) (by simp) ?_
          refine AllReadyH.cons rfl (fun K' hK' => ?_) AllReadyH.nil
          go_simp
          refine (SR.out _ hs).mono ?_
          rintro _ ub ⟨rfl, hbb⟩
          refine hK'.out _ _ (hs.trans (hbb.mono hs.size)) (fun hs => ?_)
          clear hK' K'
          try simp only [Act.put, List.setIfInBounds_toArray, List.set_cons_zero, List.set_cons_succ]
          refine take_at (i := 4) (d := some 41) (v := ?mv127) rfl rfl (by kernel_rfl) (by kernel_rfl) (by kernel_rfl) (fun _ _ _ h => h) (Or.inl ⟨by rfl, ?my127⟩) hs ?mg127
          case my127 => (intro z hSz; skip; go_simp; (try with_reducible rfl))
          try simp only [Act.put, List.setIfInBounds_toArray, List.set_cons_zero, List.set_cons_succ]
          refine take_at (i := 5) (d := some 42) (v := ?mv128) rfl rfl (by kernel_rfl) (by kernel_rfl) (by kernel_rfl) (fun _ _ _ h => h) (Or.inl ⟨by rfl, ?my128⟩) hs ?mg128
          case my128 => (intro z hSz; skip; go_simp; (try with_reducible rfl))
          try simp only [Act.put, List.setIfInBounds_toArray, List.set_cons_zero, List.set_cons_succ]
          refine take_at (i := 6) (d := some 43) (v := ?mv129) rfl rfl (by kernel_rfl) (by kernel_rfl) (by kernel_rfl) (fun _ _ _ h => h) (Or.inl ⟨by rfl, ?my129⟩) hs ?mg129
          case my129 => (intro z hSz; skip; go_simp; (try with_reducible rfl))
          try simp only [Act.put, List.setIfInBounds_toArray, List.set_cons_zero, List.set_cons_succ]
          refine take_at (i := 7) (d := some 44) (v := ?mv130) rfl rfl (by kernel_rfl) (by kernel_rfl) (by kernel_rfl) (fun _ _ _ h => h) (Or.inl ⟨by rfl, ?my130⟩) hs ?mg130
          case my130 => (intro z hSz; skip; go_simp; (try with_reducible rfl))
          try simp only [Act.put, List.setIfInBounds_toArray, List.set_cons_zero, List.set_cons_succ]
          refine take_at (i := 8) (d := some 45) (v := ?mv131) rfl rfl (by kernel_rfl) (by kernel_rfl) (by kernel_rfl) (fun _ _ _ h => h) (Or.inl ⟨by rfl, ?my131⟩) hs ?mg131
          case my131 => (intro z hSz; (obtain ⟨o0, o1, o2, o3, o4, o5⟩ := CU.out _ hSz); go_simp; (try with_reducible rfl))
          try simp only [Act.put, List.setIfInBounds_toArray, List.set_cons_zero, List.set_cons_succ]
          refine take_at (i := 9) (d := some 46) (v := ?mv132) rfl rfl (by kernel_rfl) (by kernel_rfl) (by kernel_rfl) (fun _ _ _ h => h) (Or.inl ⟨by rfl, ?my132⟩) hs ?mg132
          case my132 => (intro z hSz; skip; go_simp; (try with_reducible rfl))
          try simp only [Act.put, List.setIfInBounds_toArray, List.set_cons_zero, List.set_cons_succ]
          refine take_at (i := 10) (d := some 47) (v := ?mv133) rfl rfl (by kernel_rfl) (by kernel_rfl) (by kernel_rfl) (fun _ _ _ h => h) (Or.inl ⟨by rfl, ?my133⟩) hs ?mg133
          case my133 => (intro z hSz; skip; go_simp; (try with_reducible rfl))
          try simp only [Act.put, List.setIfInBounds_toArray, List.set_cons_zero, List.set_cons_succ]
          refine take_at (i := 11) (d := some 48) (v := undef) rfl rfl (by kernel_rfl) (by kernel_rfl) (by kernel_rfl) (fun _ _ _ h => h) (Or.inr ⟨by rfl, rfl⟩) hs ?_
          try simp only [Act.put, List.setIfInBounds_toArray, List.set_cons_zero, List.set_cons_succ]
          refine take_at (i := 12) (d := some 49) (v := undef) rfl rfl (by kernel_rfl) (by kernel_rfl) (by kernel_rfl) (fun _ _ _ h => h) (Or.inr ⟨by rfl, rfl⟩) hs ?_
          try simp only [Act.put, List.setIfInBounds_toArray, List.set_cons_zero, List.set_cons_succ]
          refine take_at (i := 13) (d := some 50) (v := undef) rfl rfl (by kernel_rfl) (by kernel_rfl) (by kernel_rfl) (fun _ _ _ h => h) (Or.inr ⟨by rfl, rfl⟩) hs ?_
          try simp only [Act.put, List.setIfInBounds_toArray, List.set_cons_zero, List.set_cons_succ]
          refine take_at (i := 14) (d := some 51) (v := undef) rfl rfl (by kernel_rfl) (by kernel_rfl) (by kernel_rfl) (fun _ _ _ h => h) (Or.inr ⟨by rfl, rfl⟩) hs ?_
          try simp only [Act.put, List.setIfInBounds_toArray, List.set_cons_zero, List.set_cons_succ]
          refine take_at (i := 15) (d := some 52) (v := undef) rfl rfl (by kernel_rfl) (by kernel_rfl) (by kernel_rfl) (fun _ _ _ h => h) (Or.inr ⟨by rfl, rfl⟩) hs ?_
          try simp only [Act.put, List.setIfInBounds_toArray, List.set_cons_zero, List.set_cons_succ]
          refine take_at (i := 16) (d := some 53) (v := undef) rfl rfl (by kernel_rfl) (by kernel_rfl) (by kernel_rfl) (fun _ _ _ h => h) (Or.inr ⟨by rfl, rfl⟩) hs ?_
          try simp only [Act.put, List.setIfInBounds_toArray, List.set_cons_zero, List.set_cons_succ]
          refine take_at (i := 17) (d := some 54) (v := undef) rfl rfl (by kernel_rfl) (by kernel_rfl) (by kernel_rfl) (fun _ _ _ h => h) (Or.inr ⟨by rfl, rfl⟩) hs ?_
          try simp only [Act.put, List.setIfInBounds_toArray, List.set_cons_zero, List.set_cons_succ]
          refine take_at (i := 18) (d := some 55) (v := ?mv134) rfl rfl (by kernel_rfl) (by kernel_rfl) (by kernel_rfl) (fun _ _ _ h => h) (Or.inl ⟨by rfl, ?my134⟩) hs ?mg134
          case my134 => (intro z hSz; skip; go_simp; (try with_reducible rfl))
          try simp only [Act.put, List.setIfInBounds_toArray, List.set_cons_zero, List.set_cons_succ]
          refine take_at (i := 19) (d := some 56) (v := ?mv135) rfl rfl (by kernel_rfl) (by kernel_rfl) (by kernel_rfl) (fun _ _ _ h => h) (Or.inl ⟨by rfl, ?my135⟩) hs ?mg135
          case my135 => (intro z hSz; skip; go_simp; (try with_reducible rfl))
          try simp only [Act.put, List.setIfInBounds_toArray, List.set_cons_zero, List.set_cons_succ]
          refine take_at (i := 20) (d := some 57) (v := ?mv136) rfl rfl (by kernel_rfl) (by kernel_rfl) (by kernel_rfl) (fun _ _ _ h => h) (Or.inl ⟨by rfl, ?my136⟩) hs ?mg136
          case my136 => (intro z hSz; skip; go_simp; (try with_reducible rfl))
          try simp only [Act.put, List.setIfInBounds_toArray, List.set_cons_zero, List.set_cons_succ]
          refine take_at (i := 21) (d := some 58) (v := ?mv137) rfl rfl (by kernel_rfl) (by kernel_rfl) (by kernel_rfl) (fun _ _ _ h => h) (Or.inl ⟨by rfl, ?my137⟩) hs ?mg137
          case my137 => (intro z hSz; skip; go_simp; (try with_reducible rfl))
          try simp only [Act.put, List.setIfInBounds_toArray, List.set_cons_zero, List.set_cons_succ]
          refine take_at (i := 22) (d := some 59) (v := ?mv138) rfl rfl (by kernel_rfl) (by kernel_rfl) (by kernel_rfl) (fun _ _ _ h => h) (Or.inl ⟨by rfl, ?my138⟩) hs ?mg138
          case my138 => (intro z hSz; (obtain ⟨o0, o1, o2⟩ := CP.out _ hSz); go_simp; (try with_reducible rfl))
          try simp only [Act.put, List.setIfInBounds_toArray, List.set_cons_zero, List.set_cons_succ]
          refine take_at (i := 23) (d := some 60) (v := ?mv139) rfl rfl (by kernel_rfl) (by kernel_rfl) (by kernel_rfl) (fun _ _ _ h => h) (Or.inl ⟨by rfl, ?my139⟩) hs ?mg139
          case my139 => (intro z hSz; (obtain ⟨o0, o1, o2, o3, o4⟩ := CH.out _ hSz); go_simp; (try with_reducible rfl))
          try simp only [Act.put, List.setIfInBounds_toArray, List.set_cons_zero, List.set_cons_succ]
          refine wpAnyH_ready (rs := [24]) (by kernel_rfl) (by simp) ?_
          refine AllReadyH.cons rfl (fun K' hK' => ?_) AllReadyH.nil
          go_simp
          refine (SPH.out _ hs).mono ?_
          rintro _ ub ⟨qe, qf, rfl, hbb⟩
          refine hK'.out _ _ (hs.trans (hbb.mono hs.size)) (fun hs => ?_)
          clear hK' K'
          try simp only [Act.put, List.setIfInBounds_toArray, List.set_cons_zero, List.set_cons_succ]
          refine take_at (i := 25) (d := some 62) (v := ?mv140) rfl rfl (by kernel_rfl) (by kernel_rfl) (by kernel_rfl) (fun _ _ _ h => h) (Or.inl ⟨by rfl, ?my140⟩) hs ?mg140
          case my140 => (intro z hSz; skip; go_simp; (try with_reducible rfl))
          try simp only [Act.put, List.setIfInBounds_toArray, List.set_cons_zero, List.set_cons_succ]
          refine take_at (i := 26) (d := some 63) (v := ?mv141) rfl rfl (by kernel_rfl) (by kernel_rfl) (by kernel_rfl) (fun _ _ _ h => h) (Or.inl ⟨by rfl, ?my141⟩) hs ?mg141
          case my141 => (intro z hSz; skip; go_simp; (try with_reducible rfl))
          try simp only [Act.put, List.setIfInBounds_toArray, List.set_cons_zero, List.set_cons_succ]
          refine take_at (i := 27) (d := some 64) (v := ?mv142) rfl rfl (by kernel_rfl) (by kernel_rfl) (by kernel_rfl) (fun _ _ _ h => h) (Or.inl ⟨by rfl, ?my142⟩) hs ?mg142
          case my142 => (intro z hSz; skip; go_simp; (try with_reducible rfl))
          try simp only [Act.put, List.setIfInBounds_toArray, List.set_cons_zero, List.set_cons_succ]
          refine take_at (i := 28) (d := some 65) (v := ?mv143) rfl rfl (by kernel_rfl) (by kernel_rfl) (by kernel_rfl) (fun _ _ _ h => h) (Or.inl ⟨by rfl, ?my143⟩) hs ?mg143
          case my143 => (intro z hSz; skip; go_simp; (try with_reducible rfl))
          try simp only [Act.put, List.setIfInBounds_toArray, List.set_cons_zero, List.set_cons_succ]
          refine take_at (i := 29) (d := some 66) (v := ?mv144) rfl rfl (by kernel_rfl) (by kernel_rfl) (by kernel_rfl) (fun _ _ _ h => h) (Or.inl ⟨by rfl, ?my144⟩) hs ?mg144
          case my144 => (intro z hSz; skip; go_simp; (try with_reducible rfl))
          try simp only [Act.put, List.setIfInBounds_toArray, List.set_cons_zero, List.set_cons_succ]
          refine take_at (i := 30) (d := some 67) (v := ?mv145) rfl rfl (by kernel_rfl) (by kernel_rfl) (by kernel_rfl) (fun _ _ _ h => h) (Or.inl ⟨by rfl, ?my145⟩) hs ?mg145
          case my145 => (intro z hSz; (obtain ⟨o0, o1, o2⟩ := CP.out _ hSz); go_simp; (try with_reducible rfl))
          try simp only [Act.put, List.setIfInBounds_toArray, List.set_cons_zero, List.set_cons_succ]
          refine take_at (i := 31) (d := some 68) (v := ?mv146) rfl rfl (by kernel_rfl) (by kernel_rfl) (by kernel_rfl) (fun _ _ _ h => h) (Or.inl ⟨by rfl, ?my146⟩) hs ?mg146
          case my146 => (intro z hSz; skip; go_simp; (try with_reducible rfl))
          try simp only [Act.put, List.setIfInBounds_toArray, List.set_cons_zero, List.set_cons_succ]
          refine take_at (i := 32) (d := some 69) (v := ?mv147) rfl rfl (by kernel_rfl) (by kernel_rfl) (by kernel_rfl) (fun _ _ _ h => h) (Or.inl ⟨by rfl, ?my147⟩) hs ?mg147
          case my147 => (intro z hSz; skip; go_simp; (try with_reducible rfl))
          try simp only [Act.put, List.setIfInBounds_toArray, List.set_cons_zero, List.set_cons_succ]
          refine take_at (i := 33) (d := some 70) (v := ?mv148) rfl rfl (by kernel_rfl) (by kernel_rfl) (by kernel_rfl) (fun _ _ _ h => h) (Or.inl ⟨by rfl, ?my148⟩) hs ?mg148
          case my148 => (intro z hSz; skip; go_simp; (try with_reducible rfl))
          try simp only [Act.put, List.setIfInBounds_toArray, List.set_cons_zero, List.set_cons_succ]
          refine take_at (i := 34) (d := some 71) (v := ?mv149) rfl rfl (by kernel_rfl) (by kernel_rfl) (by kernel_rfl) (fun _ _ _ h => h) (Or.inl ⟨by rfl, ?my149⟩) hs ?mg149
          case my149 => (intro z hSz; (obtain ⟨o0, o1, o2⟩ := CP.out _ hSz); go_simp; (try with_reducible rfl))
          try simp only [Act.put, List.setIfInBounds_toArray, List.set_cons_zero, List.set_cons_succ]
          refine take_at (i := 37) (d := some 74) (v := ?mv150) rfl rfl (by kernel_rfl) (by kernel_rfl) (by kernel_rfl) (fun _ _ _ h => h) (Or.inl ⟨by rfl, ?my150⟩) hs ?mg150
          case my150 => (intro z hSz; (obtain ⟨o0, o1, o2, o3, o4⟩ := CH.out _ hSz); go_simp; (try with_reducible rfl))
          try simp only [Act.put, List.setIfInBounds_toArray, List.set_cons_zero, List.set_cons_succ]
          refine wpAnyH_ready (rs := [35]) (by kernel_rfl) (by simp) ?_
          refine AllReadyH.cons rfl (fun K' hK' => ?_) AllReadyH.nil
          go_simp
          refine (RP.out _ hs).mono ?_
          rintro _ ub ⟨rfl, hbb⟩
          refine hK'.out _ _ (hs.trans (hbb.mono hs.size)) (fun hs => ?_)
          clear hK' K'
          try simp only [Act.put, List.setIfInBounds_toArray, List.set_cons_zero, List.set_cons_succ]
          refine take_at (i := 36) (d := some 73) (v := ?mv151) rfl rfl (by kernel_rfl) (by kernel_rfl) (by kernel_rfl) (fun _ _ _ h => h) (Or.inl ⟨by rfl, ?my151⟩) hs ?mg151
          case my151 => (intro z hSz; skip; go_simp; (try with_reducible rfl))
          try simp only [Act.put, List.setIfInBounds_toArray, List.set_cons_zero, List.set_cons_succ]
          refine take_at (i := 38) (d := some 75) (v := ?mv152) rfl rfl (by kernel_rfl) (by kernel_rfl) (by kernel_rfl) (fun _ _ _ h => h) (Or.inl ⟨by rfl, ?my152⟩) hs ?mg152
          case my152 => (intro z hSz; skip; go_simp; (try with_reducible rfl))
          try simp only [Act.put, List.setIfInBounds_toArray, List.set_cons_zero, List.set_cons_succ]
          refine take_at (i := 39) (d := some 76) (v := ?mv153) rfl rfl (by kernel_rfl) (by kernel_rfl) (by kernel_rfl) (fun _ _ _ h => h) (Or.inl ⟨by rfl, ?my153⟩) hs ?mg153
          case my153 => (intro z hSz; skip; go_simp; (try with_reducible rfl))
          try simp only [Act.put, List.setIfInBounds_toArray, List.set_cons_zero, List.set_cons_succ]
          refine take_at (i := 40) (d := some 77) (v := ?mv154) rfl rfl (by kernel_rfl) (by kernel_rfl) (by kernel_rfl) (fun _ _ _ h => h) (Or.inl ⟨by rfl, ?my154⟩) hs ?mg154
          case my154 => (intro z hSz; skip; go_simp; (try with_reducible rfl))
          try simp only [Act.put, List.setIfInBounds_toArray, List.set_cons_zero, List.set_cons_succ]
          refine take_at (i := 41) (d := some 78) (v := ?mv155) rfl rfl (by kernel_rfl) (by kernel_rfl) (by kernel_rfl) (fun _ _ _ h => h) (Or.inl ⟨by rfl, ?my155⟩) hs ?mg155
          case my155 => (intro z hSz; (obtain ⟨o0, o1, o2⟩ := CP.out _ hSz); go_simp; (try with_reducible rfl))
          try simp only [Act.put, List.setIfInBounds_toArray, List.set_cons_zero, List.set_cons_succ]
          refine wpAnyH_ready (rs := [42]) (by kernel_rfl) (by simp) ?_
          refine AllReadyH.cons rfl (fun K' hK' => ?_) AllReadyH.nil
          go_simp
          refine (RP.out _ hs).mono ?_
          rintro _ ub ⟨rfl, hbb⟩
          refine hK'.out _ _ (hs.trans (hbb.mono hs.size)) (fun hs => ?_)
          clear hK' K'
          try simp only [Act.put, List.setIfInBounds_toArray, List.set_cons_zero, List.set_cons_succ]
          refine take_at (i := 43) (d := some 80) (v := ?mv156) rfl rfl (by kernel_rfl) (by kernel_rfl) (by kernel_rfl) (fun _ _ _ h => h) (Or.inl ⟨by rfl, ?my156⟩) hs ?mg156
          case my156 => (intro z hSz; skip; go_simp; (try with_reducible rfl))
          try simp only [Act.put, List.setIfInBounds_toArray, List.set_cons_zero, List.set_cons_succ]
          refine take_at (i := 44) (d := some 81) (v := ?mv157) rfl rfl (by kernel_rfl) (by kernel_rfl) (by kernel_rfl) (fun _ _ _ h => h) (Or.inl ⟨by rfl, ?my157⟩) hs ?mg157
          case my157 => (intro z hSz; skip; go_simp; (try with_reducible rfl))
          try simp only [Act.put, List.setIfInBounds_toArray, List.set_cons_zero, List.set_cons_succ]
          refine take_at (i := 45) (d := some 82) (v := ?mv158) rfl rfl (by kernel_rfl) (by kernel_rfl) (by kernel_rfl) (fun _ _ _ h => h) (Or.inl ⟨by rfl, ?my158⟩) hs ?mg158
          case my158 => (intro z hSz; skip; go_simp; (try with_reducible rfl))
          try simp only [Act.put, List.setIfInBounds_toArray, List.set_cons_zero, List.set_cons_succ]
          refine take_at (i := 46) (d := some 83) (v := ?mv159) rfl rfl (by kernel_rfl) (by kernel_rfl) (by kernel_rfl) (fun _ _ _ h => h) (Or.inl ⟨by rfl, ?my159⟩) hs ?mg159
          case my159 => (intro z hSz; skip; go_simp; (try with_reducible rfl))
          try simp only [Act.put, List.setIfInBounds_toArray, List.set_cons_zero, List.set_cons_succ]
          refine take_at (i := 47) (d := some 84) (v := ?mv160) rfl rfl (by kernel_rfl) (by kernel_rfl) (by kernel_rfl) (fun _ _ _ h => h) (Or.inl ⟨by rfl, ?my160⟩) hs ?mg160
          case my160 => (intro z hSz; (obtain ⟨o0, o1, o2, o3, o4⟩ := CH.out _ hSz); go_simp; (try with_reducible rfl))
          try simp only [Act.put, List.setIfInBounds_toArray, List.set_cons_zero, List.set_cons_succ]
          refine take_at (i := 50) (d := some 87) (v := ?mv161) rfl rfl (by kernel_rfl) (by kernel_rfl) (by kernel_rfl) (fun _ _ _ h => h) (Or.inl ⟨by rfl, ?my161⟩) hs ?mg161
          case my161 => (intro z hSz; skip; go_simp; (try with_reducible rfl))
          try simp only [Act.put, List.setIfInBounds_toArray, List.set_cons_zero, List.set_cons_succ]
          refine take_at (i := 51) (d := some 88) (v := ?mv162) rfl rfl (by kernel_rfl) (by kernel_rfl) (by kernel_rfl) (fun _ _ _ h => h) (Or.inl ⟨by rfl, ?my162⟩) hs ?mg162
          case my162 => (intro z hSz; (obtain ⟨o0, o1, o2⟩ := CP.out _ hSz); go_simp; (try with_reducible rfl))
          try simp only [Act.put, List.setIfInBounds_toArray, List.set_cons_zero, List.set_cons_succ]
          refine wpAnyH_ready (rs := [48]) (by kernel_rfl) (by simp) ?_
          refine AllReadyH.cons rfl (fun K' hK' => ?_) AllReadyH.nil
          go_simp
          refine (HS.out _ hs).mono ?_
          rintro _ ub ⟨rfl, hbb⟩
          refine hK'.out _ _ (hs.trans (hbb.mono hs.size)) (fun hs => ?_)
          clear hK' K'
          try simp only [Act.put, List.setIfInBounds_toArray, List.set_cons_zero, List.set_cons_succ]
          refine take_at (i := 49) (d := some 86) (v := ?mv163) rfl rfl (by kernel_rfl) (by kernel_rfl) (by kernel_rfl) (fun _ _ _ h => h) (Or.inl ⟨by rfl, ?my163⟩) hs ?mg163
          case my163 => (intro z hSz; skip; go_simp; (try with_reducible rfl))
          try simp only [Act.put, List.setIfInBounds_toArray, List.set_cons_zero, List.set_cons_succ]
          refine wpAnyH_ready (rs := [52]) (by kernel_rfl) (by simp) ?_
          refine AllReadyH.cons rfl (fun K' hK' => ?_) AllReadyH.nil
          go_simp
          refine (SM.out _ hs).mono ?_
          rintro _ ub ⟨rfl, hbb⟩
          refine hK'.out _ _ (hs.trans (hbb.mono hs.size)) (fun hs => ?_)
          clear hK' K'
          try simp only [Act.put, List.setIfInBounds_toArray, List.set_cons_zero, List.set_cons_succ]
          refine take_at (i := 53) (d := some 90) (v := ?mv164) rfl rfl (by kernel_rfl) (by kernel_rfl) (by kernel_rfl) (fun _ _ _ h => h) (Or.inl ⟨by rfl, ?my164⟩) hs ?mg164
          case my164 => (intro z hSz; skip; go_simp; (try with_reducible rfl))
          try simp only [Act.put, List.setIfInBounds_toArray, List.set_cons_zero, List.set_cons_succ]
          refine take_at (i := 54) (d := some 91) (v := ?mv165) rfl rfl (by kernel_rfl) (by kernel_rfl) (by kernel_rfl) (fun _ _ _ h => h) (Or.inl ⟨by rfl, ?my165⟩) hs ?mg165
          case my165 => (intro z hSz; skip; go_simp; (try with_reducible rfl))
          try simp only [Act.put, List.setIfInBounds_toArray, List.set_cons_zero, List.set_cons_succ]
          refine take_at (i := 55) (d := some 92) (v := ?mv166) rfl rfl (by kernel_rfl) (by kernel_rfl) (by kernel_rfl) (fun _ _ _ h => h) (Or.inl ⟨by rfl, ?my166⟩) hs ?mg166
          case my166 => (intro z hSz; skip; go_simp; (try with_reducible rfl))
          try simp only [Act.put, List.setIfInBounds_toArray, List.set_cons_zero, List.set_cons_succ]
          refine take_at (i := 56) (d := some 93) (v := ?mv167) rfl rfl (by kernel_rfl) (by kernel_rfl) (by kernel_rfl) (fun _ _ _ h => h) (Or.inl ⟨by rfl, ?my167⟩) hs ?mg167
          case my167 => (intro z hSz; skip; go_simp; (try with_reducible rfl))
          try simp only [Act.put, List.setIfInBounds_toArray, List.set_cons_zero, List.set_cons_succ]
          refine take_at (i := 57) (d := some 94) (v := ?mv168) rfl rfl (by kernel_rfl) (by kernel_rfl) (by kernel_rfl) (fun _ _ _ h => h) (Or.inl ⟨by rfl, ?my168⟩) hs ?mg168
          case my168 => (intro z hSz; skip; go_simp; (try with_reducible rfl))
          try simp only [Act.put, List.setIfInBounds_toArray, List.set_cons_zero, List.set_cons_succ]
          refine take_at (i := 58) (d := some 95) (v := ?mv169) rfl rfl (by kernel_rfl) (by kernel_rfl) (by kernel_rfl) (fun _ _ _ h => h) (Or.inl ⟨by rfl, ?my169⟩) hs ?mg169
          case my169 => (intro z hSz; skip; go_simp; (try with_reducible rfl))
          try simp only [Act.put, List.setIfInBounds_toArray, List.set_cons_zero, List.set_cons_succ]
          refine take_at (i := 59) (d := some 96) (v := ?mv170) rfl rfl (by kernel_rfl) (by kernel_rfl) (by kernel_rfl) (fun _ _ _ h => h) (Or.inl ⟨by rfl, ?my170⟩) hs ?mg170
          case my170 => (intro z hSz; skip; go_simp; (try with_reducible rfl))
          try simp only [Act.put, List.setIfInBounds_toArray, List.set_cons_zero, List.set_cons_succ]
          refine take_at (i := 60) (d := some 97) (v := ?mv171) rfl rfl (by kernel_rfl) (by kernel_rfl) (by kernel_rfl) (fun _ _ _ h => h) (Or.inl ⟨by rfl, ?my171⟩) hs ?mg171
          case my171 => (intro z hSz; skip; go_simp; (try with_reducible rfl))
          try simp only [Act.put, List.setIfInBounds_toArray, List.set_cons_zero, List.set_cons_succ]
          refine take_at (i := 61) (d := some 98) (v := ?mv172) rfl rfl (by kernel_rfl) (by kernel_rfl) (by kernel_rfl) (fun _ _ _ h => h) (Or.inl ⟨by rfl, ?my172⟩) hs ?mg172
          case my172 => (intro z hSz; (obtain ⟨o0, o1, o2, o3, o4, o5, o6, o7, o8⟩ := CC.out _ hSz); go_simp; (try with_reducible rfl))
          try simp only [Act.put, List.setIfInBounds_toArray, List.set_cons_zero, List.set_cons_succ]
          refine take_at (i := 63) (d := some 100) (v := ?mv173) rfl rfl (by kernel_rfl) (by kernel_rfl) (by kernel_rfl) (fun _ _ _ h => h) (Or.inl ⟨by rfl, ?my173⟩) hs ?mg173
          case my173 => (intro z hSz; skip; go_simp; (try with_reducible rfl))
          try simp only [Act.put, List.setIfInBounds_toArray, List.set_cons_zero, List.set_cons_succ]
          refine take_at (i := 64) (d := some 101) (v := ?mv174) rfl rfl (by kernel_rfl) (by kernel_rfl) (by kernel_rfl) (fun _ _ _ h => h) (Or.inl ⟨by rfl, ?my174⟩) hs ?mg174
          case my174 => (intro z hSz; skip; go_simp; (try with_reducible rfl))
          try simp only [Act.put, List.setIfInBounds_toArray, List.set_cons_zero, List.set_cons_succ]
          refine take_at (i := 65) (d := some 102) (v := ?mv175) rfl rfl (by kernel_rfl) (by kernel_rfl) (by kernel_rfl) (fun _ _ _ h => h) (Or.inl ⟨by rfl, ?my175⟩) hs ?mg175
          case my175 => (intro z hSz; (obtain ⟨o0, o1, o2, o3, o4, o5, o6, o7, o8⟩ := CC.out _ hSz); go_simp; (try with_reducible rfl))
          try simp only [Act.put, List.setIfInBounds_toArray, List.set_cons_zero, List.set_cons_succ]
          refine wpAnyH_ready (rs := [62]) (by kernel_rfl) (by simp) ?_
          refine AllReadyH.cons rfl (fun K' hK' => ?_) AllReadyH.nil
          go_simp
          refine (CI.out _ hs).mono ?_
          rintro _ ub ⟨rfl, hbb⟩
          refine hK'.out _ _ (hs.trans (hbb.mono hs.size)) (fun hs => ?_)
          clear hK' K'
          try simp only [Act.put, List.setIfInBounds_toArray, List.set_cons_zero, List.set_cons_succ]
          refine wpAnyH_ready (rs := [66]) (by kernel_rfl) (by simp) ?_
          refine AllReadyH.cons rfl (fun K' hK' => ?_) AllReadyH.nil
          go_simp
          refine (CK.out _ hs).mono ?_
          rintro _ ub ⟨rfl, hbb⟩
          refine hK'.out _ _ (hs.trans (hbb.mono hs.size)) (fun hs => ?_)
          clear hK' K'
          try simp only [Act.put, List.setIfInBounds_toArray, List.set_cons_zero, List.set_cons_succ]
          refine take_at (i := 67) (d := some 104) (v := ?mv176) rfl rfl (by kernel_rfl) (by kernel_rfl) (by kernel_rfl) (fun _ _ _ h => h) (Or.inl ⟨by rfl, ?my176⟩) hs ?mg176
          case my176 => (intro z hSz; skip; go_simp; (try with_reducible rfl))
          try simp only [Act.put, List.setIfInBounds_toArray, List.set_cons_zero, List.set_cons_succ]
          refine take_at (i := 68) (d := some 105) (v := ?mv177) rfl rfl (by kernel_rfl) (by kernel_rfl) (by kernel_rfl) (fun _ _ _ h => h) (Or.inl ⟨by rfl, ?my177⟩) hs ?mg177
          case my177 => (intro z hSz; skip; go_simp; (try with_reducible rfl))
          try simp only [Act.put, List.setIfInBounds_toArray, List.set_cons_zero, List.set_cons_succ]
          refine take_at (i := 69) (d := some 106) (v := ?mv178) rfl rfl (by kernel_rfl) (by kernel_rfl) (by kernel_rfl) (fun _ _ _ h => h) (Or.inl ⟨by rfl, ?my178⟩) hs ?mg178
          case my178 => (intro z hSz; skip; go_simp; (try with_reducible rfl))
          try simp only [Act.put, List.setIfInBounds_toArray, List.set_cons_zero, List.set_cons_succ]
          refine take_at (i := 70) (d := some 107) (v := ?mv179) rfl rfl (by kernel_rfl) (by kernel_rfl) (by kernel_rfl) (fun _ _ _ h => h) (Or.inl ⟨by rfl, ?my179⟩) hs ?mg179
          case my179 => (intro z hSz; (obtain ⟨o0, o1, o2, o3, o4, o5, o6, o7, o8⟩ := CX.out _ hSz); go_simp; (try with_reducible rfl))
          try simp only [Act.put, List.setIfInBounds_toArray, List.set_cons_zero, List.set_cons_succ]
          refine take_at (i := 71) (d := some 108) (v := ?mv180) rfl rfl (by kernel_rfl) (by kernel_rfl) (by kernel_rfl) (fun _ _ _ h => h) (Or.inl ⟨by rfl, ?my180⟩) hs ?mg180
          case my180 => (intro z hSz; (obtain ⟨o0, o1, o2, o3, o4, o5, o6, o7, o8⟩ := CY.out _ hSz); go_simp; (try with_reducible rfl))
          try simp only [Act.put, List.setIfInBounds_toArray, List.set_cons_zero, List.set_cons_succ]
          refine take_at (i := 73) (d := some 110) (v := ?mv181) rfl rfl (by kernel_rfl) (by kernel_rfl) (by kernel_rfl) (fun _ _ _ h => h) (Or.inl ⟨by rfl, ?my181⟩) hs ?mg181
          case my181 => (intro z hSz; (obtain ⟨o0, o1, o2, o3, o4, o5, o6, o7, o8⟩ := CX.out _ hSz); go_simp; (try with_reducible rfl))
          try simp only [Act.put, List.setIfInBounds_toArray, List.set_cons_zero, List.set_cons_succ]
          refine take_at (i := 74) (d := some 111) (v := ?mv182) rfl rfl (by kernel_rfl) (by kernel_rfl) (by kernel_rfl) (fun _ _ _ h => h) (Or.inl ⟨by rfl, ?my182⟩) hs ?mg182
          case my182 => (intro z hSz; (obtain ⟨o0, o1, o2, o3, o4, o5, o6, o7, o8⟩ := CY.out _ hSz); go_simp; (try with_reducible rfl))
          try simp only [Act.put, List.setIfInBounds_toArray, List.set_cons_zero, List.set_cons_succ]
          refine wpAnyH_ready (rs := [72]) (by kernel_rfl) (by simp) ?_
          refine AllReadyH.cons rfl (fun K' hK' => ?_) AllReadyH.nil
          go_simp
          refine (MI.out _ hs).mono ?_
          rintro _ ub ⟨rfl, hbb⟩
          refine hK'.out _ _ (hs.trans (hbb.mono hs.size)) (fun hs => ?_)
          clear hK' K'
          try simp only [Act.put, List.setIfInBounds_toArray, List.set_cons_zero, List.set_cons_succ]
          refine wpAnyH_ready (rs := [75]) (by kernel_rfl) (by simp) ?_
          refine AllReadyH.cons rfl (fun K' hK' => ?_) AllReadyH.nil
          go_simp
          refine (MS.out _ hs).mono ?_
          rintro _ ub ⟨rfl, hbb⟩
          refine hK'.out _ _ (hs.trans (hbb.mono hs.size)) (fun hs => ?_)
          clear hK' K'
          try simp only [Act.put, List.setIfInBounds_toArray, List.set_cons_zero, List.set_cons_succ]
          refine take_at (i := 76) (d := some 113) (v := ?mv183) rfl rfl (by kernel_rfl) (by kernel_rfl) (by kernel_rfl) (fun _ _ _ h => h) (Or.inl ⟨by rfl, ?my183⟩) hs ?mg183
          case my183 => (intro z hSz; skip; go_simp; (try with_reducible rfl))
          try simp only [Act.put, List.setIfInBounds_toArray, List.set_cons_zero, List.set_cons_succ]
          refine take_at (i := 77) (d := some 114) (v := ?mv184) rfl rfl (by kernel_rfl) (by kernel_rfl) (by kernel_rfl) (fun _ _ _ h => h) (Or.inl ⟨by rfl, ?my184⟩) hs ?mg184
          case my184 => (intro z hSz; skip; go_simp; (try with_reducible rfl))
          try simp only [Act.put, List.setIfInBounds_toArray, List.set_cons_zero, List.set_cons_succ]
          refine take_at (i := 78) (d := some 115) (v := ?mv185) rfl rfl (by kernel_rfl) (by kernel_rfl) (by kernel_rfl) (fun _ _ _ h => h) (Or.inl ⟨by rfl, ?my185⟩) hs ?mg185
          case my185 => (intro z hSz; skip; go_simp; (try with_reducible rfl))
          try simp only [Act.put, List.setIfInBounds_toArray, List.set_cons_zero, List.set_cons_succ]
          refine take_at (i := 79) (d := some 116) (v := ?mv186) rfl rfl (by kernel_rfl) (by kernel_rfl) (by kernel_rfl) (fun _ _ _ h => h) (Or.inl ⟨by rfl, ?my186⟩) hs ?mg186
          case my186 => (intro z hSz; (obtain ⟨o0, o1, o2, o3, o4, o5, o6, o7, o8⟩ := CC.out _ hSz); go_simp; (try with_reducible rfl))
          try simp only [Act.put, List.setIfInBounds_toArray, List.set_cons_zero, List.set_cons_succ]
          refine take_at (i := 81) (d := some 118) (v := ?mv187) rfl rfl (by kernel_rfl) (by kernel_rfl) (by kernel_rfl) (fun _ _ _ h => h) (Or.inl ⟨by rfl, ?my187⟩) hs ?mg187
          case my187 => (intro z hSz; (obtain ⟨o0, o1, o2, o3, o4, o5, o6, o7, o8⟩ := CC.out _ hSz); go_simp; (try with_reducible rfl))
          try simp only [Act.put, List.setIfInBounds_toArray, List.set_cons_zero, List.set_cons_succ]
          refine wpAnyH_ready (rs := [80]) (by kernel_rfl) (by simp) ?_
          refine AllReadyH.cons rfl (fun K' hK' => ?_) AllReadyH.nil
          go_simp
          refine (FI.out _ hs).mono ?_
          rintro _ ub ⟨rfl, hbb⟩
          refine hK'.out _ _ (hs.trans (hbb.mono hs.size)) (fun hs => ?_)
          clear hK' K'
          try simp only [Act.put, List.setIfInBounds_toArray, List.set_cons_zero, List.set_cons_succ]
          refine wpAnyH_ready (rs := [82]) (by kernel_rfl) (by simp) ?_
          refine AllReadyH.cons rfl (fun K' hK' => ?_) AllReadyH.nil
          go_simp
          refine (FS.out _ hs).mono ?_
          rintro _ ub ⟨rfl, hbb⟩
          refine hK'.out _ _ (hs.trans (hbb.mono hs.size)) (fun hs => ?_)
          clear hK' K'
          try simp only [Act.put, List.setIfInBounds_toArray, List.set_cons_zero, List.set_cons_succ]
          refine take_at (i := 83) (d := some 120) (v := ?mv188) rfl rfl (by kernel_rfl) (by kernel_rfl) (by kernel_rfl) (fun _ _ _ h => h) (Or.inl ⟨by rfl, ?my188⟩) hs ?mg188
          case my188 => (intro z hSz; skip; go_simp; (try with_reducible rfl))
          try simp only [Act.put, List.setIfInBounds_toArray, List.set_cons_zero, List.set_cons_succ]
          refine take_at (i := 84) (d := some 121) (v := ?mv189) rfl rfl (by kernel_rfl) (by kernel_rfl) (by kernel_rfl) (fun _ _ _ h => h) (Or.inl ⟨by rfl, ?my189⟩) hs ?mg189
          case my189 => (intro z hSz; skip; go_simp; (try with_reducible rfl))
          try simp only [Act.put, List.setIfInBounds_toArray, List.set_cons_zero, List.set_cons_succ]
          refine wpAnyH_done (by kernel_rfl) (NoPanic.normal ?_) _
          go_wp2_with fail
          go_meet
          exact ⟨rfl, hs⟩
      · clear RP SM
        as_aux_lemma =>
          skip
          refine wp_region_noPanic ?_
          refine wp_region_held_drew (S := fun u => Below Z.heap.size Z u) (by kernel_rfl) D (fun hs => ?_)
          obtain ⟨XD, hXD⟩ : ∃ X, X = Z.drew := ⟨_, rfl⟩
          rw [← hXD] at hs
          simp only [← hXD]
          clear hXD D
          refine take_at (i := 0) (d := some 37) (v := ?mv190) rfl rfl (by kernel_rfl) (by kernel_rfl) (by kernel_rfl) (fun _ _ _ h => h) (Or.inl ⟨by rfl, ?my190⟩) hs ?mg190
          case my190 => (intro z hSz; skip; go_simp; (try with_reducible rfl))
          try simp only [Act.put, List.setIfInBounds_toArray, List.set_cons_zero, List.set_cons_succ]
          refine take_at (i := 1) (d := some 38) (v := ?mv191) rfl rfl (by kernel_rfl) (by kernel_rfl) (by kernel_rfl) (fun _ _ _ h => h) (Or.inl ⟨by rfl, ?my191⟩) hs ?mg191
          case my191 => (intro z hSz; (obtain ⟨o0, o1, o2, o3, o4, o5⟩ := CU.out _ hSz); go_simp; (try with_reducible rfl))
          try simp only [Act.put, List.setIfInBounds_toArray, List.set_cons_zero, List.set_cons_succ]
          refine take_at (i := 2) (d := some 39) (v := ?mv192) rfl rfl (by kernel_rfl) (by kernel_rfl) (by kernel_rfl) (fun _ _ _ h => h) (Or.inl ⟨by rfl, ?my192⟩) hs ?mg192
          case my192 => (intro z hSz; skip; go_simp; (try with_reducible rfl))
          try simp only [Act.put, List.setIfInBounds_toArray, List.set_cons_zero, List.set_cons_succ]
          refine wpAnyH_ready (rs := [3]) (by kernel_rfl) (by simp) ?_
          refine AllReadyH.cons rfl (fun K' hK' => ?_) AllReadyH.nil
          go_simp
          refine (SR.out _ hs).mono ?_
          rintro _ ub ⟨rfl, hbb⟩
          refine hK'.out _ _ (hs.trans (hbb.mono hs.size)) (fun hs => ?_)
          clear hK' K'
          try simp only [Act.put, List.setIfInBounds_toArray, List.set_cons_zero, List.set_cons_succ]
          refine take_at (i := 4) (d := some 41) (v := ?mv193) rfl rfl (by kernel_rfl) (by kernel_rfl) (by kernel_rfl) (fun _ _ _ h => h) (Or.inl ⟨by rfl, ?my193⟩) hs ?mg193
          case my193 => (intro z hSz; skip; go_simp; (try with_reducible rfl))
          try simp only [Act.put, List.setIfInBounds_toArray, List.set_cons_zero, List.set_cons_succ]
          refine take_at (i := 5) (d := some 42) (v := ?mv194) rfl rfl (by kernel_rfl) (by kernel_rfl) (by kernel_rfl) (fun _ _ _ h => h) (Or.inl ⟨by rfl, ?my194⟩) hs ?mg194
          case my194 => (intro z hSz; skip; go_simp; (try with_reducible rfl))
          try simp only [Act.put, List.setIfInBounds_toArray, List.set_cons_zero, List.set_cons_succ]
          refine take_at (i := 6) (d := some 43) (v := ?mv195) rfl rfl (by kernel_rfl) (by kernel_rfl) (by kernel_rfl) (fun _ _ _ h => h) (Or.inl ⟨by rfl, ?my195⟩) hs ?mg195
          case my195 => (intro z hSz; skip; go_simp; (try with_reducible rfl))
          try simp only [Act.put, List.setIfInBounds_toArray, List.set_cons_zero, List.set_cons_succ]
          refine take_at (i := 7) (d := some 44) (v := ?mv196) rfl rfl (by kernel_rfl) (by kernel_rfl) (by kernel_rfl) (fun _ _ _ h => h) (Or.inl ⟨by rfl, ?my196⟩) hs ?mg196
          case my196 => (intro z hSz; skip; go_simp; (try with_reducible rfl))
          try simp only [Act.put, List.setIfInBounds_toArray, List.set_cons_zero, List.set_cons_succ]
          refine take_at (i := 8) (d := some 45) (v := ?mv197) rfl rfl (by kernel_rfl) (by kernel_rfl) (by kernel_rfl) (fun _ _ _ h => h) (Or.inl ⟨by rfl, ?my197⟩) hs ?mg197
          case my197 => (intro z hSz; (obtain ⟨o0, o1, o2, o3, o4, o5⟩ := CU.out _ hSz); go_simp; (try with_reducible rfl))
          try simp only [Act.put, List.setIfInBounds_toArray, List.set_cons_zero, List.set_cons_succ]
          refine take_at (i := 9) (d := some 46) (v := ?mv198) rfl rfl (by kernel_rfl) (by kernel_rfl) (by kernel_rfl) (fun _ _ _ h => h) (Or.inl ⟨by rfl, ?my198⟩) hs ?mg198
          case my198 => (intro z hSz; skip; go_simp; (try with_reducible rfl))
          try simp only [Act.put, List.setIfInBounds_toArray, List.set_cons_zero, List.set_cons_succ]
          refine take_at (i := 10) (d := some 47) (v := ?mv199) rfl rfl (by kernel_rfl) (by kernel_rfl) (by kernel_rfl) (fun _ _ _ h => h) (Or.inl ⟨by rfl, ?my199⟩) hs ?mg199
          case my199 => (intro z hSz; skip; go_simp; (try with_reducible rfl))
          try simp only [Act.put, List.setIfInBounds_toArray, List.set_cons_zero, List.set_cons_succ]
          refine take_at (i := 11) (d := some 48) (v := undef) rfl rfl (by kernel_rfl) (by kernel_rfl) (by kernel_rfl) (fun _ _ _ h => h) (Or.inr ⟨by rfl, rfl⟩) hs ?_
          try simp only [Act.put, List.setIfInBounds_toArray, List.set_cons_zero, List.set_cons_succ]
          refine take_at (i := 12) (d := some 49) (v := undef) rfl rfl (by kernel_rfl) (by kernel_rfl) (by kernel_rfl) (fun _ _ _ h => h) (Or.inr ⟨by rfl, rfl⟩) hs ?_
          try simp only [Act.put, List.setIfInBounds_toArray, List.set_cons_zero, List.set_cons_succ]
          refine take_at (i := 13) (d := some 50) (v := undef) rfl rfl (by kernel_rfl) (by kernel_rfl) (by kernel_rfl) (fun _ _ _ h => h) (Or.inr ⟨by rfl, rfl⟩) hs ?_
          try simp only [Act.put, List.setIfInBounds_toArray, List.set_cons_zero, List.set_cons_succ]
          refine take_at (i := 14) (d := some 51) (v := undef) rfl rfl (by kernel_rfl) (by kernel_rfl) (by kernel_rfl) (fun _ _ _ h => h) (Or.inr ⟨by rfl, rfl⟩) hs ?_
          try simp only [Act.put, List.setIfInBounds_toArray, List.set_cons_zero, List.set_cons_succ]
          refine take_at (i := 15) (d := some 52) (v := undef) rfl rfl (by kernel_rfl) (by kernel_rfl) (by kernel_rfl) (fun _ _ _ h => h) (Or.inr ⟨by rfl, rfl⟩) hs ?_
          try simp only [Act.put, List.setIfInBounds_toArray, List.set_cons_zero, List.set_cons_succ]
          refine take_at (i := 16) (d := some 53) (v := undef) rfl rfl (by kernel_rfl) (by kernel_rfl) (by kernel_rfl) (fun _ _ _ h => h) (Or.inr ⟨by rfl, rfl⟩) hs ?_
          try simp only [Act.put, List.setIfInBounds_toArray, List.set_cons_zero, List.set_cons_succ]
          refine take_at (i := 17) (d := some 54) (v := undef) rfl rfl (by kernel_rfl) (by kernel_rfl) (by kernel_rfl) (fun _ _ _ h => h) (Or.inr ⟨by rfl, rfl⟩) hs ?_
          try simp only [Act.put, List.setIfInBounds_toArray, List.set_cons_zero, List.set_cons_succ]
          refine take_at (i := 18) (d := some 55) (v := ?mv200) rfl rfl (by kernel_rfl) (by kernel_rfl) (by kernel_rfl) (fun _ _ _ h => h) (Or.inl ⟨by rfl, ?my200⟩) hs ?mg200
          case my200 => (intro z hSz; skip; go_simp; (try with_reducible rfl))
          try simp only [Act.put, List.setIfInBounds_toArray, List.set_cons_zero, List.set_cons_succ]
          refine take_at (i := 19) (d := some 56) (v := ?mv201) rfl rfl (by kernel_rfl) (by kernel_rfl) (by kernel_rfl) (fun _ _ _ h => h) (Or.inl ⟨by rfl, ?my201⟩) hs ?mg201
          case my201 => (intro z hSz; skip; go_simp; (try with_reducible rfl))
          try simp only [Act.put, List.setIfInBounds_toArray, List.set_cons_zero, List.set_cons_succ]
          refine take_at (i := 20) (d := some 57) (v := ?mv202) rfl rfl (by kernel_rfl) (by kernel_rfl) (by kernel_rfl) (fun _ _ _ h => h) (Or.inl ⟨by rfl, ?my202⟩) hs ?mg202
          case my202 => (intro z hSz; skip; go_simp; (try with_reducible rfl))
          try simp only [Act.put, List.setIfInBounds_toArray, List.set_cons_zero, List.set_cons_succ]
          refine take_at (i := 21) (d := some 58) (v := ?mv203) rfl rfl (by kernel_rfl) (by kernel_rfl) (by kernel_rfl) (fun _ _ _ h => h) (Or.inl ⟨by rfl, ?my203⟩) hs ?mg203
          case my203 => (intro z hSz; skip; go_simp; (try with_reducible rfl))
          try simp only [Act.put, List.setIfInBounds_toArray, List.set_cons_zero, List.set_cons_succ]
          refine take_at (i := 22) (d := some 59) (v := ?mv204) rfl rfl (by kernel_rfl) (by kernel_rfl) (by kernel_rfl) (fun _ _ _ h => h) (Or.inl ⟨by rfl, ?my204⟩) hs ?mg204
          case my204 => (intro z hSz; (obtain ⟨o0, o1, o2⟩ := CP.out _ hSz); go_simp; (try with_reducible rfl))
          try simp only [Act.put, List.setIfInBounds_toArray, List.set_cons_zero, List.set_cons_succ]
          refine take_at (i := 23) (d := some 60) (v := ?mv205) rfl rfl (by kernel_rfl) (by kernel_rfl) (by kernel_rfl) (fun _ _ _ h => h) (Or.inl ⟨by rfl, ?my205⟩) hs ?mg205
          case my205 => (intro z hSz; (obtain ⟨o0, o1, o2, o3, o4⟩ := CH.out _ hSz); go_simp; (try with_reducible rfl))
          try simp only [Act.put, List.setIfInBounds_toArray, List.set_cons_zero, List.set_cons_succ]
          refine wpAnyH_ready (rs := [24]) (by kernel_rfl) (by simp) ?_
          refine AllReadyH.cons rfl (fun K' hK' => ?_) AllReadyH.nil
          go_simp
          refine (SPH.out _ hs).mono ?_
          rintro _ ub ⟨qe, qf, rfl, hbb⟩
          refine hK'.out _ _ (hs.trans (hbb.mono hs.size)) (fun hs => ?_)
          clear hK' K'
          try simp only [Act.put, List.setIfInBounds_toArray, List.set_cons_zero, List.set_cons_succ]
          refine take_at (i := 25) (d := some 62) (v := ?mv206) rfl rfl (by kernel_rfl) (by kernel_rfl) (by kernel_rfl) (fun _ _ _ h => h) (Or.inl ⟨by rfl, ?my206⟩) hs ?mg206
          case my206 => (intro z hSz; skip; go_simp; (try with_reducible rfl))
          try simp only [Act.put, List.setIfInBounds_toArray, List.set_cons_zero, List.set_cons_succ]
          refine take_at (i := 26) (d := some 63) (v := ?mv207) rfl rfl (by kernel_rfl) (by kernel_rfl) (by kernel_rfl) (fun _ _ _ h => h) (Or.inl ⟨by rfl, ?my207⟩) hs ?mg207
          case my207 => (intro z hSz; skip; go_simp; (try with_reducible rfl))
          try simp only [Act.put, List.setIfInBounds_toArray, List.set_cons_zero, List.set_cons_succ]
          refine take_at (i := 27) (d := some 64) (v := ?mv208) rfl rfl (by kernel_rfl) (by kernel_rfl) (by kernel_rfl) (fun _ _ _ h => h) (Or.inl ⟨by rfl, ?my208⟩) hs ?mg208
          case my208 => (intro z hSz; skip; go_simp; (try with_reducible rfl))
          try simp only [Act.put, List.setIfInBounds_toArray, List.set_cons_zero, List.set_cons_succ]
          refine take_at (i := 28) (d := some 65) (v := ?mv209) rfl rfl (by kernel_rfl) (by kernel_rfl) (by kernel_rfl) (fun _ _ _ h => h) (Or.inl ⟨by rfl, ?my209⟩) hs ?mg209
          case my209 => (intro z hSz; skip; go_simp; (try with_reducible rfl))
          try simp only [Act.put, List.setIfInBounds_toArray, List.set_cons_zero, List.set_cons_succ]
          refine take_at (i := 29) (d := some 66) (v := ?mv210) rfl rfl (by kernel_rfl) (by kernel_rfl) (by kernel_rfl) (fun _ _ _ h => h) (Or.inl ⟨by rfl, ?my210⟩) hs ?mg210
          case my210 => (intro z hSz; skip; go_simp; (try with_reducible rfl))
          try simp only [Act.put, List.setIfInBounds_toArray, List.set_cons_zero, List.set_cons_succ]
          refine take_at (i := 30) (d := some 67) (v := ?mv211) rfl rfl (by kernel_rfl) (by kernel_rfl) (by kernel_rfl) (fun _ _ _ h => h) (Or.inl ⟨by rfl, ?my211⟩) hs ?mg211
          case my211 => (intro z hSz; (obtain ⟨o0, o1, o2⟩ := CP.out _ hSz); go_simp; (try with_reducible rfl))
          try simp only [Act.put, List.setIfInBounds_toArray, List.set_cons_zero, List.set_cons_succ]
          refine take_at (i := 31) (d := some 68) (v := ?mv212) rfl rfl (by kernel_rfl) (by kernel_rfl) (by kernel_rfl) (fun _ _ _ h => h) (Or.inl ⟨by rfl, ?my212⟩) hs ?mg212
          case my212 => (intro z hSz; skip; go_simp; (try with_reducible rfl))
          try simp only [Act.put, List.setIfInBounds_toArray, List.set_cons_zero, List.set_cons_succ]
          refine take_at (i := 32) (d := some 69) (v := ?mv213) rfl rfl (by kernel_rfl) (by kernel_rfl) (by kernel_rfl) (fun _ _ _ h => h) (Or.inl ⟨by rfl, ?my213⟩) hs ?mg213
          case my213 => (intro z hSz; skip; go_simp; (try with_reducible rfl))
          try simp only [Act.put, List.setIfInBounds_toArray, List.set_cons_zero, List.set_cons_succ]
          refine take_at (i := 33) (d := some 70) (v := undef) rfl rfl (by kernel_rfl) (by kernel_rfl) (by kernel_rfl) (fun _ _ _ h => h) (Or.inr ⟨by rfl, rfl⟩) hs ?_
          try simp only [Act.put, List.setIfInBounds_toArray, List.set_cons_zero, List.set_cons_succ]
          refine take_at (i := 34) (d := some 71) (v := undef) rfl rfl (by kernel_rfl) (by kernel_rfl) (by kernel_rfl) (fun _ _ _ h => h) (Or.inr ⟨by rfl, rfl⟩) hs ?_
          try simp only [Act.put, List.setIfInBounds_toArray, List.set_cons_zero, List.set_cons_succ]
          refine take_at (i := 35) (d := some 72) (v := undef) rfl rfl (by kernel_rfl) (by kernel_rfl) (by kernel_rfl) (fun _ _ _ h => h) (Or.inr ⟨by rfl, rfl⟩) hs ?_
          try simp only [Act.put, List.setIfInBounds_toArray, List.set_cons_zero, List.set_cons_succ]
          refine take_at (i := 36) (d := some 73) (v := undef) rfl rfl (by kernel_rfl) (by kernel_rfl) (by kernel_rfl) (fun _ _ _ h => h) (Or.inr ⟨by rfl, rfl⟩) hs ?_
          try simp only [Act.put, List.setIfInBounds_toArray, List.set_cons_zero, List.set_cons_succ]
          refine take_at (i := 37) (d := some 74) (v := undef) rfl rfl (by kernel_rfl) (by kernel_rfl) (by kernel_rfl) (fun _ _ _ h => h) (Or.inr ⟨by rfl, rfl⟩) hs ?_
          try simp only [Act.put, List.setIfInBounds_toArray, List.set_cons_zero, List.set_cons_succ]
          refine take_at (i := 38) (d := some 75) (v := undef) rfl rfl (by kernel_rfl) (by kernel_rfl) (by kernel_rfl) (fun _ _ _ h => h) (Or.inr ⟨by rfl, rfl⟩) hs ?_
          try simp only [Act.put, List.setIfInBounds_toArray, List.set_cons_zero, List.set_cons_succ]
          refine take_at (i := 39) (d := some 76) (v := undef) rfl rfl (by kernel_rfl) (by kernel_rfl) (by kernel_rfl) (fun _ _ _ h => h) (Or.inr ⟨by rfl, rfl⟩) hs ?_
          try simp only [Act.put, List.setIfInBounds_toArray, List.set_cons_zero, List.set_cons_succ]
          refine take_at (i := 40) (d := some 77) (v := undef) rfl rfl (by kernel_rfl) (by kernel_rfl) (by kernel_rfl) (fun _ _ _ h => h) (Or.inr ⟨by rfl, rfl⟩) hs ?_
          try simp only [Act.put, List.setIfInBounds_toArray, List.set_cons_zero, List.set_cons_succ]
          refine take_at (i := 41) (d := some 78) (v := undef) rfl rfl (by kernel_rfl) (by kernel_rfl) (by kernel_rfl) (fun _ _ _ h => h) (Or.inr ⟨by rfl, rfl⟩) hs ?_
          try simp only [Act.put, List.setIfInBounds_toArray, List.set_cons_zero, List.set_cons_succ]
          refine take_at (i := 42) (d := some 79) (v := undef) rfl rfl (by kernel_rfl) (by kernel_rfl) (by kernel_rfl) (fun _ _ _ h => h) (Or.inr ⟨by rfl, rfl⟩) hs ?_
          try simp only [Act.put, List.setIfInBounds_toArray, List.set_cons_zero, List.set_cons_succ]
          refine take_at (i := 43) (d := some 80) (v := undef) rfl rfl (by kernel_rfl) (by kernel_rfl) (by kernel_rfl) (fun _ _ _ h => h) (Or.inr ⟨by rfl, rfl⟩) hs ?_
          try simp only [Act.put, List.setIfInBounds_toArray, List.set_cons_zero, List.set_cons_succ]
          refine take_at (i := 44) (d := some 81) (v := undef) rfl rfl (by kernel_rfl) (by kernel_rfl) (by kernel_rfl) (fun _ _ _ h => h) (Or.inr ⟨by rfl, rfl⟩) hs ?_
          try simp only [Act.put, List.setIfInBounds_toArray, List.set_cons_zero, List.set_cons_succ]
          refine take_at (i := 45) (d := some 82) (v := undef) rfl rfl (by kernel_rfl) (by kernel_rfl) (by kernel_rfl) (fun _ _ _ h => h) (Or.inr ⟨by rfl, rfl⟩) hs ?_
          try simp only [Act.put, List.setIfInBounds_toArray, List.set_cons_zero, List.set_cons_succ]
          refine take_at (i := 46) (d := some 83) (v := undef) rfl rfl (by kernel_rfl) (by kernel_rfl) (by kernel_rfl) (fun _ _ _ h => h) (Or.inr ⟨by rfl, rfl⟩) hs ?_
          try simp only [Act.put, List.setIfInBounds_toArray, List.set_cons_zero, List.set_cons_succ]
          refine take_at (i := 47) (d := some 84) (v := undef) rfl rfl (by kernel_rfl) (by kernel_rfl) (by kernel_rfl) (fun _ _ _ h => h) (Or.inr ⟨by rfl, rfl⟩) hs ?_
          try simp only [Act.put, List.setIfInBounds_toArray, List.set_cons_zero, List.set_cons_succ]
          refine take_at (i := 48) (d := some 85) (v := undef) rfl rfl (by kernel_rfl) (by kernel_rfl) (by kernel_rfl) (fun _ _ _ h => h) (Or.inr ⟨by rfl, rfl⟩) hs ?_
          try simp only [Act.put, List.setIfInBounds_toArray, List.set_cons_zero, List.set_cons_succ]
          refine take_at (i := 49) (d := some 86) (v := undef) rfl rfl (by kernel_rfl) (by kernel_rfl) (by kernel_rfl) (fun _ _ _ h => h) (Or.inr ⟨by rfl, rfl⟩) hs ?_
          try simp only [Act.put, List.setIfInBounds_toArray, List.set_cons_zero, List.set_cons_succ]
          refine take_at (i := 50) (d := some 87) (v := undef) rfl rfl (by kernel_rfl) (by kernel_rfl) (by kernel_rfl) (fun _ _ _ h => h) (Or.inr ⟨by rfl, rfl⟩) hs ?_
          try simp only [Act.put, List.setIfInBounds_toArray, List.set_cons_zero, List.set_cons_succ]
          refine take_at (i := 51) (d := some 88) (v := undef) rfl rfl (by kernel_rfl) (by kernel_rfl) (by kernel_rfl) (fun _ _ _ h => h) (Or.inr ⟨by rfl, rfl⟩) hs ?_
          try simp only [Act.put, List.setIfInBounds_toArray, List.set_cons_zero, List.set_cons_succ]
          refine take_at (i := 52) (d := some 89) (v := undef) rfl rfl (by kernel_rfl) (by kernel_rfl) (by kernel_rfl) (fun _ _ _ h => h) (Or.inr ⟨by rfl, rfl⟩) hs ?_
          try simp only [Act.put, List.setIfInBounds_toArray, List.set_cons_zero, List.set_cons_succ]
          refine take_at (i := 53) (d := some 90) (v := undef) rfl rfl (by kernel_rfl) (by kernel_rfl) (by kernel_rfl) (fun _ _ _ h => h) (Or.inr ⟨by rfl, rfl⟩) hs ?_
          try simp only [Act.put, List.setIfInBounds_toArray, List.set_cons_zero, List.set_cons_succ]
          refine take_at (i := 54) (d := some 91) (v := undef) rfl rfl (by kernel_rfl) (by kernel_rfl) (by kernel_rfl) (fun _ _ _ h => h) (Or.inr ⟨by rfl, rfl⟩) hs ?_
          try simp only [Act.put, List.setIfInBounds_toArray, List.set_cons_zero, List.set_cons_succ]
          refine take_at (i := 55) (d := some 92) (v := undef) rfl rfl (by kernel_rfl) (by kernel_rfl) (by kernel_rfl) (fun _ _ _ h => h) (Or.inr ⟨by rfl, rfl⟩) hs ?_
          try simp only [Act.put, List.setIfInBounds_toArray, List.set_cons_zero, List.set_cons_succ]
          refine take_at (i := 56) (d := some 93) (v := ?mv214) rfl rfl (by kernel_rfl) (by kernel_rfl) (by kernel_rfl) (fun _ _ _ h => h) (Or.inl ⟨by rfl, ?my214⟩) hs ?mg214
          case my214 => (intro z hSz; skip; go_simp; (try with_reducible rfl))
          try simp only [Act.put, List.setIfInBounds_toArray, List.set_cons_zero, List.set_cons_succ]
          refine take_at (i := 57) (d := some 94) (v := ?mv215) rfl rfl (by kernel_rfl) (by kernel_rfl) (by kernel_rfl) (fun _ _ _ h => h) (Or.inl ⟨by rfl, ?my215⟩) hs ?mg215
          case my215 => (intro z hSz; skip; go_simp; (try with_reducible rfl))
          try simp only [Act.put, List.setIfInBounds_toArray, List.set_cons_zero, List.set_cons_succ]
          refine take_at (i := 58) (d := some 95) (v := ?mv216) rfl rfl (by kernel_rfl) (by kernel_rfl) (by kernel_rfl) (fun _ _ _ h => h) (Or.inl ⟨by rfl, ?my216⟩) hs ?mg216
          case my216 => (intro z hSz; skip; go_simp; (try with_reducible rfl))
          try simp only [Act.put, List.setIfInBounds_toArray, List.set_cons_zero, List.set_cons_succ]
          refine take_at (i := 59) (d := some 96) (v := ?mv217) rfl rfl (by kernel_rfl) (by kernel_rfl) (by kernel_rfl) (fun _ _ _ h => h) (Or.inl ⟨by rfl, ?my217⟩) hs ?mg217
          case my217 => (intro z hSz; skip; go_simp; (try with_reducible rfl))
          try simp only [Act.put, List.setIfInBounds_toArray, List.set_cons_zero, List.set_cons_succ]
          refine take_at (i := 60) (d := some 97) (v := ?mv218) rfl rfl (by kernel_rfl) (by kernel_rfl) (by kernel_rfl) (fun _ _ _ h => h) (Or.inl ⟨by rfl, ?my218⟩) hs ?mg218
          case my218 => (intro z hSz; skip; go_simp; (try with_reducible rfl))
          try simp only [Act.put, List.setIfInBounds_toArray, List.set_cons_zero, List.set_cons_succ]
          refine take_at (i := 61) (d := some 98) (v := ?mv219) rfl rfl (by kernel_rfl) (by kernel_rfl) (by kernel_rfl) (fun _ _ _ h => h) (Or.inl ⟨by rfl, ?my219⟩) hs ?mg219
          case my219 => (intro z hSz; (obtain ⟨o0, o1, o2, o3, o4, o5, o6, o7, o8⟩ := CC.out _ hSz); go_simp; (try with_reducible rfl))
          try simp only [Act.put, List.setIfInBounds_toArray, List.set_cons_zero, List.set_cons_succ]
          refine take_at (i := 63) (d := some 100) (v := ?mv220) rfl rfl (by kernel_rfl) (by kernel_rfl) (by kernel_rfl) (fun _ _ _ h => h) (Or.inl ⟨by rfl, ?my220⟩) hs ?mg220
          case my220 => (intro z hSz; skip; go_simp; (try with_reducible rfl))
          try simp only [Act.put, List.setIfInBounds_toArray, List.set_cons_zero, List.set_cons_succ]
          refine take_at (i := 64) (d := some 101) (v := ?mv221) rfl rfl (by kernel_rfl) (by kernel_rfl) (by kernel_rfl) (fun _ _ _ h => h) (Or.inl ⟨by rfl, ?my221⟩) hs ?mg221
          case my221 => (intro z hSz; skip; go_simp; (try with_reducible rfl))
          try simp only [Act.put, List.setIfInBounds_toArray, List.set_cons_zero, List.set_cons_succ]
          refine take_at (i := 65) (d := some 102) (v := ?mv222) rfl rfl (by kernel_rfl) (by kernel_rfl) (by kernel_rfl) (fun _ _ _ h => h) (Or.inl ⟨by rfl, ?my222⟩) hs ?mg222
          case my222 => (intro z hSz; (obtain ⟨o0, o1, o2, o3, o4, o5, o6, o7, o8⟩ := CC.out _ hSz); go_simp; (try with_reducible rfl))
          try simp only [Act.put, List.setIfInBounds_toArray, List.set_cons_zero, List.set_cons_succ]
          refine wpAnyH_ready (rs := [62]) (by kernel_rfl) (by simp) ?_
          refine AllReadyH.cons rfl (fun K' hK' => ?_) AllReadyH.nil
          go_simp
          refine (CI.out _ hs).mono ?_
          rintro _ ub ⟨rfl, hbb⟩
          refine hK'.out _ _ (hs.trans (hbb.mono hs.size)) (fun hs => ?_)
          clear hK' K'
          try simp only [Act.put, List.setIfInBounds_toArray, List.set_cons_zero, List.set_cons_succ]
          refine wpAnyH_ready (rs := [66]) (by kernel_rfl) (by simp) ?_
          refine AllReadyH.cons rfl (fun K' hK' => ?_) AllReadyH.nil
          go_simp
          refine (CK.out _ hs).mono ?_
          rintro _ ub ⟨rfl, hbb⟩
          refine hK'.out _ _ (hs.trans (hbb.mono hs.size)) (fun hs => ?_)
          clear hK' K'
          try simp only [Act.put, List.setIfInBounds_toArray, List.set_cons_zero, List.set_cons_succ]
          refine take_at (i := 67) (d := some 104) (v := ?mv223) rfl rfl (by kernel_rfl) (by kernel_rfl) (by kernel_rfl) (fun _ _ _ h => h) (Or.inl ⟨by rfl, ?my223⟩) hs ?mg223
          case my223 => (intro z hSz; skip; go_simp; (try with_reducible rfl))
          try simp only [Act.put, List.setIfInBounds_toArray, List.set_cons_zero, List.set_cons_succ]
          refine take_at (i := 68) (d := some 105) (v := ?mv224) rfl rfl (by kernel_rfl) (by kernel_rfl) (by kernel_rfl) (fun _ _ _ h => h) (Or.inl ⟨by rfl, ?my224⟩) hs ?mg224
          case my224 => (intro z hSz; skip; go_simp; (try with_reducible rfl))
          try simp only [Act.put, List.setIfInBounds_toArray, List.set_cons_zero, List.set_cons_succ]
          refine take_at (i := 69) (d := some 106) (v := ?mv225) rfl rfl (by kernel_rfl) (by kernel_rfl) (by kernel_rfl) (fun _ _ _ h => h) (Or.inl ⟨by rfl, ?my225⟩) hs ?mg225
          case my225 => (intro z hSz; skip; go_simp; (try with_reducible rfl))
          try simp only [Act.put, List.setIfInBounds_toArray, List.set_cons_zero, List.set_cons_succ]
          refine take_at (i := 70) (d := some 107) (v := ?mv226) rfl rfl (by kernel_rfl) (by kernel_rfl) (by kernel_rfl) (fun _ _ _ h => h) (Or.inl ⟨by rfl, ?my226⟩) hs ?mg226
          case my226 => (intro z hSz; (obtain ⟨o0, o1, o2, o3, o4, o5, o6, o7, o8⟩ := CX.out _ hSz); go_simp; (try with_reducible rfl))
          try simp only [Act.put, List.setIfInBounds_toArray, List.set_cons_zero, List.set_cons_succ]
          refine take_at (i := 71) (d := some 108) (v := ?mv227) rfl rfl (by kernel_rfl) (by kernel_rfl) (by kernel_rfl) (fun _ _ _ h => h) (Or.inl ⟨by rfl, ?my227⟩) hs ?mg227
          case my227 => (intro z hSz; (obtain ⟨o0, o1, o2, o3, o4, o5, o6, o7, o8⟩ := CY.out _ hSz); go_simp; (try with_reducible rfl))
          try simp only [Act.put, List.setIfInBounds_toArray, List.set_cons_zero, List.set_cons_succ]
          refine take_at (i := 73) (d := some 110) (v := ?mv228) rfl rfl (by kernel_rfl) (by kernel_rfl) (by kernel_rfl) (fun _ _ _ h => h) (Or.inl ⟨by rfl, ?my228⟩) hs ?mg228
          case my228 => (intro z hSz; (obtain ⟨o0, o1, o2, o3, o4, o5, o6, o7, o8⟩ := CX.out _ hSz); go_simp; (try with_reducible rfl))
          try simp only [Act.put, List.setIfInBounds_toArray, List.set_cons_zero, List.set_cons_succ]
          refine take_at (i := 74) (d := some 111) (v := ?mv229) rfl rfl (by kernel_rfl) (by kernel_rfl) (by kernel_rfl) (fun _ _ _ h => h) (Or.inl ⟨by rfl, ?my229⟩) hs ?mg229
          case my229 => (intro z hSz; (obtain ⟨o0, o1, o2, o3, o4, o5, o6, o7, o8⟩ := CY.out _ hSz); go_simp; (try with_reducible rfl))
          try simp only [Act.put, List.setIfInBounds_toArray, List.set_cons_zero, List.set_cons_succ]
          refine wpAnyH_ready (rs := [72]) (by kernel_rfl) (by simp) ?_
          refine AllReadyH.cons rfl (fun K' hK' => ?_) AllReadyH.nil
          go_simp
          refine (MI.out _ hs).mono ?_
          rintro _ ub ⟨rfl, hbb⟩
          refine hK'.out _ _ (hs.trans (hbb.mono hs.size)) (fun hs => ?_)
          clear hK' K'
          try simp only [Act.put, List.setIfInBounds_toArray, List.set_cons_zero, List.set_cons_succ]
          refine wpAnyH_ready (rs := [75]) (by kernel_rfl) (by simp) ?_
          refine AllReadyH.cons rfl (fun K' hK' => ?_) AllReadyH.nil
          go_simp
          refine (MS.out _ hs).mono ?_
          rintro _ ub ⟨rfl, hbb⟩
          refine hK'.out _ _ (hs.trans (hbb.mono hs.size)) (fun hs => ?_)
          clear hK' K'
          try simp only [Act.put, List.setIfInBounds_toArray, List.set_cons_zero, List.set_cons_succ]
          refine take_at (i := 76) (d := some 113) (v := ?mv230) rfl rfl (by kernel_rfl) (by kernel_rfl) (by kernel_rfl) (fun _ _ _ h => h) (Or.inl ⟨by rfl, ?my230⟩) hs ?mg230
          case my230 => (intro z hSz; skip; go_simp; (try with_reducible rfl))
          try simp only [Act.put, List.setIfInBounds_toArray, List.set_cons_zero, List.set_cons_succ]
          refine take_at (i := 77) (d := some 114) (v := ?mv231) rfl rfl (by kernel_rfl) (by kernel_rfl) (by kernel_rfl) (fun _ _ _ h => h) (Or.inl ⟨by rfl, ?my231⟩) hs ?mg231
          case my231 => (intro z hSz; skip; go_simp; (try with_reducible rfl))
          try simp only [Act.put, List.setIfInBounds_toArray, List.set_cons_zero, List.set_cons_succ]
          refine take_at (i := 78) (d := some 115) (v := ?mv232) rfl rfl (by kernel_rfl) (by kernel_rfl) (by kernel_rfl) (fun _ _ _ h => h) (Or.inl ⟨by rfl, ?my232⟩) hs ?mg232
          case my232 => (intro z hSz; skip; go_simp; (try with_reducible rfl))
          try simp only [Act.put, List.setIfInBounds_toArray, List.set_cons_zero, List.set_cons_succ]
          refine take_at (i := 79) (d := some 116) (v := ?mv233) rfl rfl (by kernel_rfl) (by kernel_rfl) (by kernel_rfl) (fun _ _ _ h => h) (Or.inl ⟨by rfl, ?my233⟩) hs ?mg233
          case my233 => (intro z hSz; (obtain ⟨o0, o1, o2, o3, o4, o5, o6, o7, o8⟩ := CC.out _ hSz); go_simp; (try with_reducible rfl))
          try simp only [Act.put, List.setIfInBounds_toArray, List.set_cons_zero, List.set_cons_succ]
          refine take_at (i := 81) (d := some 118) (v := ?mv234) rfl rfl (by kernel_rfl) (by kernel_rfl) (by kernel_rfl) (fun _ _ _ h => h) (Or.inl ⟨by rfl, ?my234⟩) hs ?mg234
          case my234 => (intro z hSz; (obtain ⟨o0, o1, o2, o3, o4, o5, o6, o7, o8⟩ := CC.out _ hSz); go_simp; (try with_reducible rfl))
          try simp only [Act.put, List.setIfInBounds_toArray, List.set_cons_zero, List.set_cons_succ]
          refine wpAnyH_ready (rs := [80]) (by kernel_rfl) (by simp) ?_
          refine AllReadyH.cons rfl (fun K' hK' => ?_) AllReadyH.nil
          go_simp
          refine (FI.out _ hs).mono ?_
          rintro _ ub ⟨rfl, hbb⟩
          refine hK'.out _ _ (hs.trans (hbb.mono hs.size)) (fun hs => ?_)
          clear hK' K'
          try simp only [Act.put, List.setIfInBounds_toArray, List.set_cons_zero, List.set_cons_succ]
          refine wpAnyH_ready (rs := [82]) (by kernel_rfl) (by simp) ?_
          refine AllReadyH.cons rfl (fun K' hK' => ?_) AllReadyH.nil
          go_simp
          refine (FS.out _ hs).mono ?_
          rintro _ ub ⟨rfl, hbb⟩
          refine hK'.out _ _ (hs.trans (hbb.mono hs.size)) (fun hs => ?_)
          clear hK' K'
          try simp only [Act.put, List.setIfInBounds_toArray, List.set_cons_zero, List.set_cons_succ]
          refine take_at (i := 83) (d := some 120) (v := ?mv235) rfl rfl (by kernel_rfl) (by kernel_rfl) (by kernel_rfl) (fun _ _ _ h => h) (Or.inl ⟨by rfl, ?my235⟩) hs ?mg235
          case my235 => (intro z hSz; skip; go_simp; (try with_reducible rfl))
          try simp only [Act.put, List.setIfInBounds_toArray, List.set_cons_zero, List.set_cons_succ]
          refine take_at (i := 84) (d := some 121) (v := ?mv236) rfl rfl (by kernel_rfl) (by kernel_rfl) (by kernel_rfl) (fun _ _ _ h => h) (Or.inl ⟨by rfl, ?my236⟩) hs ?mg236
          case my236 => (intro z hSz; skip; go_simp; (try with_reducible rfl))
          try simp only [Act.put, List.setIfInBounds_toArray, List.set_cons_zero, List.set_cons_succ]
          refine wpAnyH_done (by kernel_rfl) (NoPanic.normal ?_) _
          go_wp2_with fail
          go_meet
          exact ⟨rfl, hs⟩
  case rest =>
    obtain ⟨rfl, hcb⟩ := hcut
    generalize wc = X at *
    have BX : Below w.heap.size w X := BZH.out.trans (hcb.mono BZH.out.size)
    clear SR PU LW SPH RP HS SM CI CK MI MS FI FS CU CH CP CC CX CY UC PC BZH q1 q2 q3 q4 hE0 hE1 hB0 hB1 hnq hcb
    go_wp2_with fail
    refine (drawSignHead_any _ a0 _ cap0 zs (FA.out _ BX).1 hsm).mono ?_
    rintro e v1 ⟨sd, n, z, r, m, k, rfl, _, _, _, hb1⟩
    have B1 := BX.trans (hb1.mono BX.size)
    obtain ⟨F, hU⟩ : ∃ U, U = v1.alloc (.cells #[.int .i64 z, .int .i64 r, .int .i64 m, .int .i64 k] 26) := ⟨_, rfl⟩
    obtain ⟨Vz, hV⟩ : ∃ V, V = v1.heap.size := ⟨_, rfl⟩
    have SV : Blk F Vz #[.int .i64 z, .int .i64 r, .int .i64 m, .int .i64 k] 26 := by rw [hU, hV]; exact Blk.new _ _ _
    have bU : Below v1.heap.size v1 F := by rw [hU]; exact (Below.refl _ _).alloc (Nat.le_refl _) _
    have BF := B1.trans (bU.mono B1.size)
    have SZ := SV
    clear hb1 bU B1 BX SV
    go_wp2_with fail
    simp only [← hU, ← hV]
    clear hU hV
    refine (implSignHead_any sd n z r m k _ (FA.out _ BF).2).mono ?_
    rintro r' v2 ⟨a1, c1, a2, c2, a3, c3, rfl, O, hb2⟩
    obtain ⟨Y, hU⟩ : ∃ U, U = v2.alloc (.cells #[.int .i64 (sgC sd n z r m k), .int .i64 (sgI sd n z r m k z), .int .i64 (sgI sd n z r m k r), .int .i64 (sgI sd n z r m k m), .int .i64 (sgI sd n z r m k k), .int .i64 (sgI sd n z r m k k), .slice a1 (sgS sd n z r m k).length c1, .slice a2 (sgO sd n z r m k).length c2, .slice a3 (sgP sd n z r m k).length c3] 54) := ⟨_, rfl⟩
    obtain ⟨Vs, hV⟩ : ∃ V, V = v2.heap.size := ⟨_, rfl⟩
    have SV : Blk Y Vs #[.int .i64 (sgC sd n z r m k), .int .i64 (sgI sd n z r m k z), .int .i64 (sgI sd n z r m k r), .int .i64 (sgI sd n z r m k m), .int .i64 (sgI sd n z r m k k), .int .i64 (sgI sd n z r m k k), .slice a1 (sgS sd n z r m k).length c1, .slice a2 (sgO sd n z r m k).length c2, .slice a3 (sgP sd n z r m k).length c3] 54 := by rw [hU, hV]; exact Blk.new _ _ _
    have bU : Below v2.heap.size v2 Y := by rw [hU]; exact (Below.refl _ _).alloc (Nat.le_refl _) _
    have bF := hb2.trans (bU.mono hb2.size)
    have BY := BF.trans (bF.mono BF.size)
    replace SZ := SZ.below bF SZ.lt
    have OY := O.below bU
    have TY := (FA.out _ BY).2
    have BYH : Hid (Below w.heap.size w Y) := BY
    have CZ : Hid (∀ u : World, Below Y.heap.size Y u → u.cell? ⟨Vz, 0, none⟩ = some (.int .i64 z) ∧ u.cell? ⟨Vz, 1, none⟩ = some (.int .i64 r) ∧ u.cell? ⟨Vz, 2, none⟩ = some (.int .i64 m) ∧ u.cell? ⟨Vz, 3, none⟩ = some (.int .i64 k) ∧ Vz < u.heap.size) := fun u h => by
      have S := SZ.below h SZ.lt
      exact ⟨(S.cell 0).trans rfl, (S.cell 1).trans rfl, (S.cell 2).trans rfl, (S.cell 3).trans rfl, S.lt⟩
    have CS : Hid (∀ u : World, Below Y.heap.size Y u → u.cell? ⟨Vs, 0, none⟩ = some (.int .i64 (sgC sd n z r m k)) ∧ u.cell? ⟨Vs, 1, none⟩ = some (.int .i64 (sgI sd n z r m k z)) ∧ u.cell? ⟨Vs, 2, none⟩ = some (.int .i64 (sgI sd n z r m k r)) ∧ u.cell? ⟨Vs, 3, none⟩ = some (.int .i64 (sgI sd n z r m k m)) ∧ u.cell? ⟨Vs, 4, none⟩ = some (.int .i64 (sgI sd n z r m k k)) ∧ u.cell? ⟨Vs, 5, none⟩ = some (.int .i64 (sgI sd n z r m k k)) ∧ u.cell? ⟨Vs, 6, none⟩ = some (.slice a1 (sgS sd n z r m k).length c1) ∧ u.cell? ⟨Vs, 7, none⟩ = some (.slice a2 (sgO sd n z r m k).length c2) ∧ u.cell? ⟨Vs, 8, none⟩ = some (.slice a3 (sgP sd n z r m k).length c3) ∧ Vs < u.heap.size) := fun u h => by
      have S := SV.below h SV.lt
      exact ⟨(S.cell 0).trans rfl, (S.cell 1).trans rfl, (S.cell 2).trans rfl, (S.cell 3).trans rfl, (S.cell 4).trans rfl, (S.cell 5).trans rfl, (S.cell 6).trans rfl, (S.cell 7).trans rfl, (S.cell 8).trans rfl, S.lt⟩
    have hQ0 := fldQ0
    have hQ1 := fldQ1
    have heq := eqlH
    have D : Below Y.heap.size Y Y.drew := (Below.refl _ _).drew
    clear hb2 bU bF O BF SZ SV BY FA
    by_cases hc : sgC sd n z r m k = 0
    case neg =>
      have SS : Hid (∀ u : World, Below Y.heap.size Y u → Calls Tryz.prog 24 #[.int .i64 sd, .int .i64 n, .agg #[.int .i64 z, .int .i64 r, .int .i64 m, .int .i64 k]] u fun r' w' => ∃ (y1 y2 y3 y4 y5 : Int) (q1 : Option Addr) (p1 : Nat) (q2 : Option Addr) (p2 : Nat) (q3 : Option Addr) (p3 : Nat), r' = .returned (.agg #[.int .i64 (sgC sd n z r m k), .int .i64 y1, .int .i64 y2, .int .i64 y3, .int .i64 y4, .int .i64 y5, .slice q1 (sgS sd n z r m k).length p1, .slice q2 (sgO sd n z r m k).length p2, .slice q3 (sgP sd n z r m k).length p3]) ∧ Below u.heap.size u w') := fun u h => (specSignHead_any sd n z r m k u).mono fun r' w' ⟨q1, p1, q2, p2, q3, p3, e, _, hb⟩ => ⟨_, _, _, _, _, q1, p1, q2, p2, q3, p3, e, hb⟩
      have GI : Hid (∀ u : World, Below Y.heap.size Y u → Calls Tryz.prog 25 #[.agg #[.int .i64 z, .int .i64 r, .int .i64 m, .int .i64 k]] u fun rr w' => rr = .returned (.int .i64 (hdF z r m k)) ∧ Below u.heap.size u w') := fun u h => implHeadFault_any z r m k u
      have GS : Hid (∀ u : World, Below Y.heap.size Y u → Calls Tryz.prog 26 #[.agg #[.int .i64 z, .int .i64 r, .int .i64 m, .int .i64 k]] u fun rr w' => rr = .returned (.int .i64 (hdF z r m k)) ∧ Below u.heap.size u w') := fun u h => specHeadFault_any z r m k u
      generalize hdF z r m k = hf at *
      generalize sgC sd n z r m k = cd at *
      generalize sgI sd n z r m k z = j1 at *
      generalize sgI sd n z r m k r = j2 at *
      generalize sgI sd n z r m k m = j3 at *
      generalize sgI sd n z r m k k = j4 at *
      generalize (sgS sd n z r m k).length = n1 at *
      generalize (sgO sd n z r m k).length = n2 at *
      generalize (sgP sd n z r m k).length = n3 at *
      have hne : (cd != 0) = true := by simpa using hc
      have q1 : (cd == cd) = true := by simp
      have q2 : (hf == hf) = true := by simp
      clear OY TY hc
      as_aux_lemma =>
        go_wp2_with fail
        simp only [← hU, ← hV]
        clear hU hV
        refine wp_region_noPanic ?_
        refine wp_region_held_drew (S := fun u => Below Y.heap.size Y u) (by kernel_rfl) D (fun hs => ?_)
        obtain ⟨XD, hXD⟩ : ∃ X, X = Y.drew := ⟨_, rfl⟩
        rw [← hXD] at hs
        simp only [← hXD]
        clear hXD D
        refine take_at (i := 0) (d := some 135) (v := ?mv237) rfl rfl (by kernel_rfl) (by kernel_rfl) (by kernel_rfl) (fun _ _ _ h => h) (Or.inl ⟨by rfl, ?my237⟩) hs ?mg237
        case my237 => (intro z hSz; skip; go_simp; (try with_reducible rfl))
        try simp only [Act.put, List.setIfInBounds_toArray, List.set_cons_zero, List.set_cons_succ]
        refine take_at (i := 1) (d := some 136) (v := ?mv238) rfl rfl (by kernel_rfl) (by kernel_rfl) (by kernel_rfl) (fun _ _ _ h => h) (Or.inl ⟨by rfl, ?my238⟩) hs ?mg238
        case my238 => (intro z hSz; skip; go_simp; (try with_reducible rfl))
        try simp only [Act.put, List.setIfInBounds_toArray, List.set_cons_zero, List.set_cons_succ]
        refine take_at (i := 2) (d := some 137) (v := ?mv239) rfl rfl (by kernel_rfl) (by kernel_rfl) (by kernel_rfl) (fun _ _ _ h => h) (Or.inl ⟨by rfl, ?my239⟩) hs ?mg239
        case my239 => (intro z hSz; (obtain ⟨o0, o1, o2, o3, o4⟩ := CZ.out _ hSz); go_simp; (try with_reducible rfl))
        try simp only [Act.put, List.setIfInBounds_toArray, List.set_cons_zero, List.set_cons_succ]
        refine take_at (i := 5) (d := some 140) (v := ?mv240) rfl rfl (by kernel_rfl) (by kernel_rfl) (by kernel_rfl) (fun _ _ _ h => h) (Or.inl ⟨by rfl, ?my240⟩) hs ?mg240
        case my240 => (intro z hSz; skip; go_simp; (try with_reducible rfl))
        try simp only [Act.put, List.setIfInBounds_toArray, List.set_cons_zero, List.set_cons_succ]
        refine take_at (i := 6) (d := some 141) (v := ?mv241) rfl rfl (by kernel_rfl) (by kernel_rfl) (by kernel_rfl) (fun _ _ _ h => h) (Or.inl ⟨by rfl, ?my241⟩) hs ?mg241
        case my241 => (intro z hSz; (obtain ⟨o0, o1, o2, o3, o4, o5, o6, o7, o8, o9⟩ := CS.out _ hSz); go_simp; (try with_reducible rfl))
        try simp only [Act.put, List.setIfInBounds_toArray, List.set_cons_zero, List.set_cons_succ]
        refine wpAnyH_ready (rs := [3]) (by kernel_rfl) (by simp) ?_
        refine AllReadyH.cons rfl (fun K' hK' => ?_) AllReadyH.nil
        go_simp
        refine (SS.out _ hs).mono ?_
        rintro _ ub ⟨y1, y2, y3, y4, y5, q1, p1, q2, p2, q3, p3, rfl, hbb⟩
        refine hK'.out _ _ (hs.trans (hbb.mono hs.size)) (fun hs => ?_)
        clear hK' K'
        try simp only [Act.put, List.setIfInBounds_toArray, List.set_cons_zero, List.set_cons_succ]
        refine take_at (i := 4) (d := some 139) (v := ?mv242) rfl rfl (by kernel_rfl) (by kernel_rfl) (by kernel_rfl) (fun _ _ _ h => h) (Or.inl ⟨by rfl, ?my242⟩) hs ?mg242
        case my242 => (intro z hSz; skip; go_simp; (try with_reducible rfl))
        try simp only [Act.put, List.setIfInBounds_toArray, List.set_cons_zero, List.set_cons_succ]
        refine take_at (i := 7) (d := some 142) (v := ?mv243) rfl rfl (by kernel_rfl) (by kernel_rfl) (by kernel_rfl) (fun _ _ _ h => h) (Or.inl ⟨by rfl, ?my243⟩) hs ?mg243
        case my243 => (intro z hSz; skip; go_simp; (try with_reducible rfl))
        try simp only [Act.put, List.setIfInBounds_toArray, List.set_cons_zero, List.set_cons_succ]
        refine take_at (i := 8) (d := some 143) (v := ?mv244) rfl rfl (by kernel_rfl) (by kernel_rfl) (by kernel_rfl) (fun _ _ _ h => h) (Or.inl ⟨by rfl, ?my244⟩) hs ?mg244
        case my244 => (intro z hSz; skip; go_simp; (try with_reducible rfl))
        try simp only [Act.put, List.setIfInBounds_toArray, List.set_cons_zero, List.set_cons_succ]
        refine take_at (i := 9) (d := some 144) (v := ?mv245) rfl rfl (by kernel_rfl) (by kernel_rfl) (by kernel_rfl) (fun _ _ _ h => h) (Or.inl ⟨by rfl, ?my245⟩) hs ?mg245
        case my245 => (intro z hSz; (obtain ⟨o0, o1, o2, o3, o4⟩ := CZ.out _ hSz); go_simp; (try with_reducible rfl))
        try simp only [Act.put, List.setIfInBounds_toArray, List.set_cons_zero, List.set_cons_succ]
        refine take_at (i := 11) (d := some 146) (v := ?mv246) rfl rfl (by kernel_rfl) (by kernel_rfl) (by kernel_rfl) (fun _ _ _ h => h) (Or.inl ⟨by rfl, ?my246⟩) hs ?mg246
        case my246 => (intro z hSz; (obtain ⟨o0, o1, o2, o3, o4⟩ := CZ.out _ hSz); go_simp; (try with_reducible rfl))
        try simp only [Act.put, List.setIfInBounds_toArray, List.set_cons_zero, List.set_cons_succ]
        refine wpAnyH_ready (rs := [10]) (by kernel_rfl) (by simp) ?_
        refine AllReadyH.cons rfl (fun K' hK' => ?_) AllReadyH.nil
        go_simp
        refine (GI.out _ hs).mono ?_
        rintro _ ub ⟨rfl, hbb⟩
        refine hK'.out _ _ (hs.trans (hbb.mono hs.size)) (fun hs => ?_)
        clear hK' K'
        try simp only [Act.put, List.setIfInBounds_toArray, List.set_cons_zero, List.set_cons_succ]
        refine wpAnyH_ready (rs := [12]) (by kernel_rfl) (by simp) ?_
        refine AllReadyH.cons rfl (fun K' hK' => ?_) AllReadyH.nil
        go_simp
        refine (GS.out _ hs).mono ?_
        rintro _ ub ⟨rfl, hbb⟩
        refine hK'.out _ _ (hs.trans (hbb.mono hs.size)) (fun hs => ?_)
        clear hK' K'
        try simp only [Act.put, List.setIfInBounds_toArray, List.set_cons_zero, List.set_cons_succ]
        refine take_at (i := 13) (d := some 148) (v := ?mv247) rfl rfl (by kernel_rfl) (by kernel_rfl) (by kernel_rfl) (fun _ _ _ h => h) (Or.inl ⟨by rfl, ?my247⟩) hs ?mg247
        case my247 => (intro z hSz; skip; go_simp; (try with_reducible rfl))
        try simp only [Act.put, List.setIfInBounds_toArray, List.set_cons_zero, List.set_cons_succ]
        refine take_at (i := 14) (d := some 149) (v := ?mv248) rfl rfl (by kernel_rfl) (by kernel_rfl) (by kernel_rfl) (fun _ _ _ h => h) (Or.inl ⟨by rfl, ?my248⟩) hs ?mg248
        case my248 => (intro z hSz; skip; go_simp; (try with_reducible rfl))
        try simp only [Act.put, List.setIfInBounds_toArray, List.set_cons_zero, List.set_cons_succ]
        refine take_at (i := 15) (d := some 2) (v := ?mv249) rfl rfl (by kernel_rfl) (by kernel_rfl) (by kernel_rfl) (fun _ _ _ h => h) (Or.inl ⟨by rfl, ?my249⟩) hs ?mg249
        case my249 => (intro z hSz; skip; go_simp; (try with_reducible rfl))
        try simp only [Act.put, List.setIfInBounds_toArray, List.set_cons_zero, List.set_cons_succ]
        refine wpAnyH_done (by kernel_rfl) (NoPanic.normal ?_) _
        go_wp2
        go_ret
        exact ⟨rfl, BYH.out.trans (hs.mono BYH.out.size)⟩
    case pos =>
      have ev : ∀ v, sgI sd n z r m k v = v := fun v => by unfold sgI; rw [if_pos hc]
      rw [hc, ev, ev, ev, ev] at CS hU ⊢
      have GFF := sg_fault hc
      have GCK := sg_checked hc
      have LS : (sgS sd n z r m k).length ≤ 16 := by unfold sgS; rw [if_pos hc, shW_len]; decide
      have LO : (sgO sd n z r m k).length ≤ 16 := by unfold sgO; rw [if_pos hc, otW_len]; decide
      have W1 : ∀ n' ∈ sgS sd n z r m k, (Lit.int .i64 n').wf = true := by unfold sgS; rw [if_pos hc]; exact allS_wf (shW_all _ _ _ _)
      have W2 : ∀ n' ∈ sgO sd n z r m k, (Lit.int .i64 n').wf = true := by unfold sgO; rw [if_pos hc]; exact allS_wf (otW_all _ _ _ _)
      have W3 : ∀ n' ∈ sgP sd n z r m k, (Lit.int .i64 n').wf = true := allS_wf (sdF_zero GFF).2.2.2.2
      have H1 := has_of_own OY.one W1
      have H2 := has_of_own OY.two W2
      have H3' := has_of_own OY.three W3
      have CAP := own_caps9 OY.three
      have LP : (sgP sd n z r m k).length ≤ 1048576 := by have := (sdF_zero GFF).2.2.2.1; omega
      have GF : Hid (∀ u : World, Below Y.heap.size Y u → Calls Tryz.prog 20 #[.agg #[.int .i64 z, .int .i64 r, .int .i64 m, .int .i64 k, .int .i64 k, .slice a1 (sgS sd n z r m k).length c1, .slice a2 (sgO sd n z r m k).length c2, .slice a3 (sgP sd n z r m k).length c3]] u fun rr w' => rr = .returned (.int .i64 0) ∧ Below u.heap.size u w') := fun u h => by
        have := implSignedFault_any z r m k k a1 a2 a3 c1 c2 c3 (sgS sd n z r m k) (sgO sd n z r m k) (sgP sd n z r m k) u (H1.below h (Nat.le_refl _)) (H2.below h (Nat.le_refl _)) (H3'.below h (Nat.le_refl _)) (by omega) (by omega) LP
        rw [GFF] at this
        exact this
      have KR : Hid (∀ u : World, Below Y.heap.size Y u → Calls Tryz.prog 27 #[.int .i64 sd, .int .i64 n] u fun rr w' => rr = .returned (.agg #[.int .i64 (krC sd n), .int .i64 (krV sd n)]) ∧ Below u.heap.size u w') := fun u h => implKeysRoot_any sd n u (TY.below h (Nat.le_refl _))
      have CH : Hid (∀ u : World, Below Y.heap.size Y u → Calls Tryz.prog 16 #[.int .i64 (krV sd n), .int .i64 n, .agg #[.int .i64 z, .int .i64 r, .int .i64 m, .int .i64 k, .int .i64 k, .slice a1 (sgS sd n z r m k).length c1, .slice a2 (sgO sd n z r m k).length c2, .slice a3 (sgP sd n z r m k).length c3]] u fun rr w' => rr = .returned (.bool true) ∧ Below u.heap.size u w') := fun u h => by
        have := implCheckHead_any (krV sd n) n z r m k k a1 a2 a3 c1 c2 c3 (sgS sd n z r m k) (sgO sd n z r m k) (sgP sd n z r m k) u (TY.below h (Nat.le_refl _)) (H1.below h (Nat.le_refl _)) (H2.below h (Nat.le_refl _)) (H3'.below h (Nat.le_refl _)) (by omega) (by omega) LP CAP.1 CAP.2
        rw [GCK] at this
        exact this
      have SS : Hid (∀ u : World, Below Y.heap.size Y u → Calls Tryz.prog 24 #[.int .i64 sd, .int .i64 n, .agg #[.int .i64 z, .int .i64 r, .int .i64 m, .int .i64 k]] u fun r' w' => ∃ (q1 : Option Addr) (p1 : Nat) (q2 : Option Addr) (p2 : Nat) (q3 : Option Addr) (p3 : Nat), r' = .returned (.agg #[.int .i64 0, .int .i64 z, .int .i64 r, .int .i64 m, .int .i64 k, .int .i64 k, .slice q1 (sgS sd n z r m k).length p1, .slice q2 (sgO sd n z r m k).length p2, .slice q3 (sgP sd n z r m k).length p3]) ∧ H3 w' q1 q2 q3 (sgS sd n z r m k) (sgO sd n z r m k) (sgP sd n z r m k) ∧ Below u.heap.size u w') := fun u h => by
        have := specSignHead_any sd n z r m k u
        rw [hc, ev, ev, ev, ev] at this
        exact this.mono fun r' w' ⟨q1, p1, q2, p2, q3, p3, e, O', hb⟩ => ⟨q1, p1, q2, p2, q3, p3, e, ⟨has_of_own O'.one W1, has_of_own O'.two W2, has_of_own O'.three W3⟩, hb⟩
      have SA : Hid (∀ (u : World) (q1 q2 q3 : Option Addr) (p1 p2 p3 : Nat), Below Y.heap.size Y u → H3 u q1 q2 q3 (sgS sd n z r m k) (sgO sd n z r m k) (sgP sd n z r m k) → Calls Tryz.prog 18 #[.agg #[.int .i64 z, .int .i64 r, .int .i64 m, .int .i64 k, .int .i64 k, .slice a1 (sgS sd n z r m k).length c1, .slice a2 (sgO sd n z r m k).length c2, .slice a3 (sgP sd n z r m k).length c3], .agg #[.int .i64 z, .int .i64 r, .int .i64 m, .int .i64 k, .int .i64 k, .slice q1 (sgS sd n z r m k).length p1, .slice q2 (sgO sd n z r m k).length p2, .slice q3 (sgP sd n z r m k).length p3]] u fun rr w' => rr = .returned (.bool true) ∧ Below u.heap.size u w') := fun u q1 q2 q3 p1 p2 p3 h hq => by
        have := implSameSigned_any z r m k k z r m k k a1 a2 a3 q1 q2 q3 c1 c2 c3 p1 p2 p3 (sgS sd n z r m k) (sgO sd n z r m k) (sgP sd n z r m k) (sgS sd n z r m k) (sgO sd n z r m k) (sgP sd n z r m k) u (H1.below h (Nat.le_refl _)) (H2.below h (Nat.le_refl _)) (H3'.below h (Nat.le_refl _)) hq.one hq.two hq.three (by omega) (by omega) LP
        rw [smB_self] at this
        exact this
      generalize krC sd n = kc at *
      generalize krV sd n = kv at *
      generalize sgS sd n z r m k = ls at *
      generalize sgO sd n z r m k = ms at *
      generalize sgP sd n z r m k = ps at *
      have hI1 := fldR1
      clear H1 H2 H3' W1 W2 W3 CAP GFF GCK LS LO LP OY TY ev hc
      as_aux_lemma =>
        go_wp2_with fail
        simp only [← hU, ← hV]
        clear hU hV
        refine wp_region_noPanic ?_
        refine wp_region_held_drew (S := fun u => Below Y.heap.size Y u) (by kernel_rfl) D (fun hs => ?_)
        obtain ⟨XD, hXD⟩ : ∃ X, X = Y.drew := ⟨_, rfl⟩
        rw [← hXD] at hs
        simp only [← hXD]
        clear hXD D
        refine take_at (i := 0) (d := some 150) (v := ?mv250) rfl rfl (by kernel_rfl) (by kernel_rfl) (by kernel_rfl) (fun _ _ _ h => h) (Or.inl ⟨by rfl, ?my250⟩) hs ?mg250
        case my250 => (intro z hSz; skip; go_simp; (try with_reducible rfl))
        try simp only [Act.put, List.setIfInBounds_toArray, List.set_cons_zero, List.set_cons_succ]
        refine take_at (i := 1) (d := some 151) (v := ?mv251) rfl rfl (by kernel_rfl) (by kernel_rfl) (by kernel_rfl) (fun _ _ _ h => h) (Or.inl ⟨by rfl, ?my251⟩) hs ?mg251
        case my251 => (intro z hSz; (obtain ⟨o0, o1, o2, o3, o4, o5, o6, o7, o8, o9⟩ := CS.out _ hSz); go_simp; (try with_reducible rfl))
        try simp only [Act.put, List.setIfInBounds_toArray, List.set_cons_zero, List.set_cons_succ]
        refine wpAnyH_ready (rs := [2]) (by kernel_rfl) (by simp) ?_
        refine AllReadyH.cons rfl (fun K' hK' => ?_) AllReadyH.nil
        go_simp
        refine (GF.out _ hs).mono ?_
        rintro _ ub ⟨rfl, hbb⟩
        refine hK'.out _ _ (hs.trans (hbb.mono hs.size)) (fun hs => ?_)
        clear hK' K'
        try simp only [Act.put, List.setIfInBounds_toArray, List.set_cons_zero, List.set_cons_succ]
        refine take_at (i := 3) (d := some 153) (v := ?mv252) rfl rfl (by kernel_rfl) (by kernel_rfl) (by kernel_rfl) (fun _ _ _ h => h) (Or.inl ⟨by rfl, ?my252⟩) hs ?mg252
        case my252 => (intro z hSz; skip; go_simp; (try with_reducible rfl))
        try simp only [Act.put, List.setIfInBounds_toArray, List.set_cons_zero, List.set_cons_succ]
        refine take_at (i := 4) (d := some 154) (v := ?mv253) rfl rfl (by kernel_rfl) (by kernel_rfl) (by kernel_rfl) (fun _ _ _ h => h) (Or.inl ⟨by rfl, ?my253⟩) hs ?mg253
        case my253 => (intro z hSz; skip; go_simp; (try with_reducible rfl))
        try simp only [Act.put, List.setIfInBounds_toArray, List.set_cons_zero, List.set_cons_succ]
        refine take_at (i := 5) (d := some 155) (v := ?mv254) rfl rfl (by kernel_rfl) (by kernel_rfl) (by kernel_rfl) (fun _ _ _ h => h) (Or.inl ⟨by rfl, ?my254⟩) hs ?mg254
        case my254 => (intro z hSz; skip; go_simp; (try with_reducible rfl))
        try simp only [Act.put, List.setIfInBounds_toArray, List.set_cons_zero, List.set_cons_succ]
        refine take_at (i := 6) (d := some 156) (v := ?mv255) rfl rfl (by kernel_rfl) (by kernel_rfl) (by kernel_rfl) (fun _ _ _ h => h) (Or.inl ⟨by rfl, ?my255⟩) hs ?mg255
        case my255 => (intro z hSz; skip; go_simp; (try with_reducible rfl))
        try simp only [Act.put, List.setIfInBounds_toArray, List.set_cons_zero, List.set_cons_succ]
        refine take_at (i := 7) (d := some 157) (v := ?mv256) rfl rfl (by kernel_rfl) (by kernel_rfl) (by kernel_rfl) (fun _ _ _ h => h) (Or.inl ⟨by rfl, ?my256⟩) hs ?mg256
        case my256 => (intro z hSz; (obtain ⟨o0, o1, o2, o3, o4, o5, o6, o7, o8, o9⟩ := CS.out _ hSz); go_simp; (try with_reducible rfl))
        try simp only [Act.put, List.setIfInBounds_toArray, List.set_cons_zero, List.set_cons_succ]
        refine take_at (i := 8) (d := some 158) (v := ?mv257) rfl rfl (by kernel_rfl) (by kernel_rfl) (by kernel_rfl) (fun _ _ _ h => h) (Or.inl ⟨by rfl, ?my257⟩) hs ?mg257
        case my257 => (intro z hSz; (obtain ⟨o0, o1, o2, o3, o4⟩ := CZ.out _ hSz); go_simp; (try with_reducible rfl))
        try simp only [Act.put, List.setIfInBounds_toArray, List.set_cons_zero, List.set_cons_succ]
        refine take_at (i := 9) (d := some 159) (v := ?mv258) rfl rfl (by kernel_rfl) (by kernel_rfl) (by kernel_rfl) (fun _ _ _ h => h) (Or.inl ⟨by rfl, ?my258⟩) hs ?mg258
        case my258 => (intro z hSz; skip; go_simp; (try with_reducible rfl))
        try simp only [Act.put, List.setIfInBounds_toArray, List.set_cons_zero, List.set_cons_succ]
        refine take_at (i := 10) (d := some 160) (v := ?mv259) rfl rfl (by kernel_rfl) (by kernel_rfl) (by kernel_rfl) (fun _ _ _ h => h) (Or.inl ⟨by rfl, ?my259⟩) hs ?mg259
        case my259 => (intro z hSz; skip; go_simp; (try with_reducible rfl))
        try simp only [Act.put, List.setIfInBounds_toArray, List.set_cons_zero, List.set_cons_succ]
        refine take_at (i := 11) (d := some 161) (v := ?mv260) rfl rfl (by kernel_rfl) (by kernel_rfl) (by kernel_rfl) (fun _ _ _ h => h) (Or.inl ⟨by rfl, ?my260⟩) hs ?mg260
        case my260 => (intro z hSz; skip; go_simp; (try with_reducible rfl))
        try simp only [Act.put, List.setIfInBounds_toArray, List.set_cons_zero, List.set_cons_succ]
        refine take_at (i := 12) (d := some 162) (v := ?mv261) rfl rfl (by kernel_rfl) (by kernel_rfl) (by kernel_rfl) (fun _ _ _ h => h) (Or.inl ⟨by rfl, ?my261⟩) hs ?mg261
        case my261 => (intro z hSz; skip; go_simp; (try with_reducible rfl))
        try simp only [Act.put, List.setIfInBounds_toArray, List.set_cons_zero, List.set_cons_succ]
        refine take_at (i := 13) (d := some 163) (v := ?mv262) rfl rfl (by kernel_rfl) (by kernel_rfl) (by kernel_rfl) (fun _ _ _ h => h) (Or.inl ⟨by rfl, ?my262⟩) hs ?mg262
        case my262 => (intro z hSz; skip; go_simp; (try with_reducible rfl))
        try simp only [Act.put, List.setIfInBounds_toArray, List.set_cons_zero, List.set_cons_succ]
        refine take_at (i := 16) (d := some 166) (v := ?mv263) rfl rfl (by kernel_rfl) (by kernel_rfl) (by kernel_rfl) (fun _ _ _ h => h) (Or.inl ⟨by rfl, ?my263⟩) hs ?mg263
        case my263 => (intro z hSz; skip; go_simp; (try with_reducible rfl))
        try simp only [Act.put, List.setIfInBounds_toArray, List.set_cons_zero, List.set_cons_succ]
        refine take_at (i := 17) (d := some 167) (v := ?mv264) rfl rfl (by kernel_rfl) (by kernel_rfl) (by kernel_rfl) (fun _ _ _ h => h) (Or.inl ⟨by rfl, ?my264⟩) hs ?mg264
        case my264 => (intro z hSz; skip; go_simp; (try with_reducible rfl))
        try simp only [Act.put, List.setIfInBounds_toArray, List.set_cons_zero, List.set_cons_succ]
        refine take_at (i := 18) (d := some 168) (v := ?mv265) rfl rfl (by kernel_rfl) (by kernel_rfl) (by kernel_rfl) (fun _ _ _ h => h) (Or.inl ⟨by rfl, ?my265⟩) hs ?mg265
        case my265 => (intro z hSz; (obtain ⟨o0, o1, o2, o3, o4, o5, o6, o7, o8, o9⟩ := CS.out _ hSz); go_simp; (try with_reducible rfl))
        try simp only [Act.put, List.setIfInBounds_toArray, List.set_cons_zero, List.set_cons_succ]
        refine wpAnyH_ready (rs := [14]) (by kernel_rfl) (by simp) ?_
        refine AllReadyH.cons rfl (fun K' hK' => ?_) AllReadyH.nil
        go_simp
        refine (KR.out _ hs).mono ?_
        rintro _ ub ⟨rfl, hbb⟩
        refine hK'.out _ _ (hs.trans (hbb.mono hs.size)) (fun hs => ?_)
        clear hK' K'
        try simp only [Act.put, List.setIfInBounds_toArray, List.set_cons_zero, List.set_cons_succ]
        refine take_at (i := 15) (d := some 165) (v := ?mv266) rfl rfl (by kernel_rfl) (by kernel_rfl) (by kernel_rfl) (fun _ _ _ h => h) (Or.inl ⟨by rfl, ?my266⟩) hs ?mg266
        case my266 => (intro z hSz; skip; go_simp; (try with_reducible rfl))
        try simp only [Act.put, List.setIfInBounds_toArray, List.set_cons_zero, List.set_cons_succ]
        refine wpAnyH_ready (rs := [19]) (by kernel_rfl) (by simp) ?_
        refine AllReadyH.cons rfl (fun K' hK' => ?_) AllReadyH.nil
        go_simp
        refine (CH.out _ hs).mono ?_
        rintro _ ub ⟨rfl, hbb⟩
        refine hK'.out _ _ (hs.trans (hbb.mono hs.size)) (fun hs => ?_)
        clear hK' K'
        try simp only [Act.put, List.setIfInBounds_toArray, List.set_cons_zero, List.set_cons_succ]
        refine take_at (i := 20) (d := some 170) (v := ?mv267) rfl rfl (by kernel_rfl) (by kernel_rfl) (by kernel_rfl) (fun _ _ _ h => h) (Or.inl ⟨by rfl, ?my267⟩) hs ?mg267
        case my267 => (intro z hSz; skip; go_simp; (try with_reducible rfl))
        try simp only [Act.put, List.setIfInBounds_toArray, List.set_cons_zero, List.set_cons_succ]
        refine take_at (i := 21) (d := some 171) (v := ?mv268) rfl rfl (by kernel_rfl) (by kernel_rfl) (by kernel_rfl) (fun _ _ _ h => h) (Or.inl ⟨by rfl, ?my268⟩) hs ?mg268
        case my268 => (intro z hSz; skip; go_simp; (try with_reducible rfl))
        try simp only [Act.put, List.setIfInBounds_toArray, List.set_cons_zero, List.set_cons_succ]
        refine take_at (i := 22) (d := some 172) (v := ?mv269) rfl rfl (by kernel_rfl) (by kernel_rfl) (by kernel_rfl) (fun _ _ _ h => h) (Or.inl ⟨by rfl, ?my269⟩) hs ?mg269
        case my269 => (intro z hSz; skip; go_simp; (try with_reducible rfl))
        try simp only [Act.put, List.setIfInBounds_toArray, List.set_cons_zero, List.set_cons_succ]
        refine take_at (i := 23) (d := some 173) (v := ?mv270) rfl rfl (by kernel_rfl) (by kernel_rfl) (by kernel_rfl) (fun _ _ _ h => h) (Or.inl ⟨by rfl, ?my270⟩) hs ?mg270
        case my270 => (intro z hSz; (obtain ⟨o0, o1, o2, o3, o4, o5, o6, o7, o8, o9⟩ := CS.out _ hSz); go_simp; (try with_reducible rfl))
        try simp only [Act.put, List.setIfInBounds_toArray, List.set_cons_zero, List.set_cons_succ]
        refine take_at (i := 24) (d := some 174) (v := ?mv271) rfl rfl (by kernel_rfl) (by kernel_rfl) (by kernel_rfl) (fun _ _ _ h => h) (Or.inl ⟨by rfl, ?my271⟩) hs ?mg271
        case my271 => (intro z hSz; skip; go_simp; (try with_reducible rfl))
        try simp only [Act.put, List.setIfInBounds_toArray, List.set_cons_zero, List.set_cons_succ]
        refine take_at (i := 25) (d := some 175) (v := ?mv272) rfl rfl (by kernel_rfl) (by kernel_rfl) (by kernel_rfl) (fun _ _ _ h => h) (Or.inl ⟨by rfl, ?my272⟩) hs ?mg272
        case my272 => (intro z hSz; skip; go_simp; (try with_reducible rfl))
        try simp only [Act.put, List.setIfInBounds_toArray, List.set_cons_zero, List.set_cons_succ]
        refine take_at (i := 26) (d := some 176) (v := ?mv273) rfl rfl (by kernel_rfl) (by kernel_rfl) (by kernel_rfl) (fun _ _ _ h => h) (Or.inl ⟨by rfl, ?my273⟩) hs ?mg273
        case my273 => (intro z hSz; (obtain ⟨o0, o1, o2, o3, o4⟩ := CZ.out _ hSz); go_simp; (try with_reducible rfl))
        try simp only [Act.put, List.setIfInBounds_toArray, List.set_cons_zero, List.set_cons_succ]
        refine wpAnyH_ready (rs := [27]) (by kernel_rfl) (by simp) ?_
        refine AllReadyH.cons rfl (fun K' hK' => ?_) AllReadyH.nil
        go_simp
        refine (SS.out _ hs).mono ?_
        rintro _ ub ⟨q1, p1, q2, p2, q3, p3, rfl, HQ, hbb⟩
        refine hK'.out _ _ (hs.trans (hbb.mono hs.size)) (fun hs => ?_)
        clear hK' K'
        try simp only [Act.put, List.setIfInBounds_toArray, List.set_cons_zero, List.set_cons_succ]
        refine take_at (i := 28) (d := some 178) (v := ?mv274) rfl rfl (by kernel_rfl) (by kernel_rfl) (by kernel_rfl) (fun _ _ _ h => h) (Or.inl ⟨by rfl, ?my274⟩) hs ?mg274
        case my274 => (intro z hSz; skip; go_simp; (try with_reducible rfl))
        try simp only [Act.put, List.setIfInBounds_toArray, List.set_cons_zero, List.set_cons_succ]
        refine wpAnyH_ready (rs := [29]) (by kernel_rfl) (by simp) ?_
        refine AllReadyH.cons rfl (fun K' hK' => ?_) AllReadyH.nil
        go_simp
        refine (SA.out _ q1 q2 q3 p1 p2 p3 hs HQ).mono ?_
        rintro _ ub ⟨rfl, hbb⟩
        refine hK'.out _ _ (hs.trans (hbb.mono hs.size)) (fun hs => ?_)
        clear hK' K'
        try simp only [Act.put, List.setIfInBounds_toArray, List.set_cons_zero, List.set_cons_succ]
        refine take_at (i := 30) (d := some 180) (v := ?mv275) rfl rfl (by kernel_rfl) (by kernel_rfl) (by kernel_rfl) (fun _ _ _ h => h) (Or.inl ⟨by rfl, ?my275⟩) hs ?mg275
        case my275 => (intro z hSz; skip; go_simp; (try with_reducible rfl))
        try simp only [Act.put, List.setIfInBounds_toArray, List.set_cons_zero, List.set_cons_succ]
        refine take_at (i := 31) (d := some 2) (v := ?mv276) rfl rfl (by kernel_rfl) (by kernel_rfl) (by kernel_rfl) (fun _ _ _ h => h) (Or.inl ⟨by rfl, ?my276⟩) hs ?mg276
        case my276 => (intro z hSz; skip; go_simp; (try with_reducible rfl))
        try simp only [Act.put, List.setIfInBounds_toArray, List.set_cons_zero, List.set_cons_succ]
        refine wpAnyH_done (by kernel_rfl) (NoPanic.normal ?_) _
        go_wp2
        go_ret
        exact ⟨rfl, BYH.out.trans (hs.mono BYH.out.size)⟩

set_option maxRecDepth 100000 in
theorem fnHeads_lifted (os : Os) (started : os.Started) (H : Type) (enc : TypeId × Value → H) :
    ReturnsInHanded {} Tryz.checked os 3 .any (fun w args => (Rows.fnHeadsSpec.pre enc Tryz.prog Tryz.f3 [] false w args ∧ laidMetH Tryz.prog [("loop.example/g00565/impl.pieceStarts", Rows.laid_loop_example_g00565_impl_pieceStarts)] w) ∧ sizedMet enc Tryz.prog Tryz.f3 (OpenSpec.ofChange Rows.fnHeadsSpec) false w args) (Rows.fnHeadsSpec.post enc Tryz.prog Tryz.f3 false true false false) := by
  refine returnsInHanded_of_change_and (C := Tryz.checked) (X := fun w _ => laidMetH Tryz.prog [("loop.example/g00565/impl.pieceStarts", Rows.laid_loop_example_g00565_impl_pieceStarts)] w) (fun _ _ _ hh h => h.of_heap hh) own started (by kernel_rfl) Tryz.func3
    (ChangeSpec.witness_shaped (enc := enc) (C := Tryz.checked) (os := os) (X := fun w _ => laidMetH Tryz.prog [("loop.example/g00565/impl.pieceStarts", Rows.laid_loop_example_g00565_impl_pieceStarts)] w) false (World.doorLaid Tryz.prog 400 os) #[.slice none 0 0] 8 rfl (World.shaped_of_RefB (by kernel_rfl) (by kernel_rfl)) (by kernel_rfl) (by kernel_rfl) (by kernel_rfl) (door_met os _)) ?_
  intro W base args ds gs before hval0 hW _ _ hL _
  have hval : ∀ (j : Nat) t v, Tryz.f3.params[j]? = some t → args[j]? = some v → Value.okWide Tryz.prog W .any base t v := hval0
  have hW' := hW
  obtain ⟨p, q, hA0, hV, rfl, hfz, hnd⟩ := hW
  have hA : DataW.TrodAll enc Tryz.prog W 0 (fun _ => true) true Tryz.f3.params.toList args.toList ds p := hA0
  rw [Tryz.params3] at hA hval
  obtain ⟨v0, vs0, d0, ds0, p0, q0, hargs, rfl, rfl, h0, tr0⟩ := trodAll_cons hA
  obtain ⟨rfl, rfl, rfl⟩ := trodAll_nil tr0
  obtain rfl : args = #[v0] := by cases args; simp_all
  obtain ⟨g, rfl⟩ : ∃ g, gs = [g] := by obtain ⟨_, _, _, _, d, _, e, _⟩ := trodVars_one hV; exact ⟨d, e⟩
  have g0 := h0
  have lt0 : ∀ x ∈ p0, x.block < W.heap.size := by obtain ⟨m, hm⟩ := g0; exact DataW.trod_lt m _ _ _ hm
  obtain ⟨a0, len0, cap0, rfl⟩ := okWide_slice Tryz.underlying22 (hval 0 22 v0 rfl rfl)
  obtain ⟨z0, w0⟩ : ∃ zs, IsRow .u8 W a0 len0 cap0 zs := by
    obtain ⟨fuel, hf⟩ := h0
    rcases open_ints Tryz.underlying22 Tryz.underlying5 (by kernel_rfl) hf with ⟨hcs, _⟩ | ⟨x, l, c, zs, hcs, _, hl, hm, hz, _, hcell, hwz⟩
    · simp [Value.cells] at hcs
      obtain ⟨rfl, rfl, rfl⟩ := hcs
      exact ⟨[], .inl ⟨rfl, rfl, rfl, rfl⟩⟩
    · simp [Value.cells] at hcs
      obtain ⟨rfl, rfl, rfl⟩ := hcs
      exact ⟨zs, .inr ⟨_, rfl, hl, hm, by simpa using hz, hcell, hwz⟩⟩
  clear hA0 hval0
  refine (fnHeads_walk W (tab_of_laid hL) a0 len0 cap0 z0 w0).mono fun e W' ⟨he, bel⟩ => ?_
  subst he
  exact ⟨_, rfl, _, _, _, [], _, _, hW', trodAll_mk1 (shut_bool Tryz.underlying4 _), (trodAll_cons_mk (Below.trod laidOut (by kernel_rfl) (of_decide_eq_true (by kernel_rfl)) g0 bel lt0) trodAll_mk0), Below.trodVars laidOut bel (by kernel_rfl) hV, bel.frame _, fun h => by cases h⟩

theorem fnHeads_row : Rows.FnHeadsSaid :=
  OpenClaim.holds_of_wide 3 Tryz.f3 rfl rfl rfl rfl rfl rfl rfl ⟨rfl, rfl, rfl, rfl, rfl⟩ rfl rfl rfl rfl rfl (by kernel_rfl) Tryz.func3 (by kernel_rfl)
    (of_decide_eq_true (by kernel_rfl)) (by unfold Func.isWrapper; first | (rw [if_pos (by decide +kernel)]; kernel_rfl) | (rw [if_neg (by decide +kernel)]; exact ⟨rfl, rfl⟩))
    (fun os started H enc _ => fnHeads_lifted os started H enc)

theorem fnHeads_holds : Rows.FnHeadsCardSaid :=
  Claim7.holds_tied_plain_at .later [] [.data] true Rows.fnHeadsCard.stood.harness Rows.fnHeadsCard.stood.looks
    fnHeads_row (fun _ h => by cases h) (by kernel_rfl) (fun _ h => by cases h) fnHeads_row_tie rfl ⟨rfl, rfl⟩ (by kernel_rfl) rfl
    (fun f fn hf hfn => by
      obtain rfl : f = 3 := Option.some.inj ((show Tryz.prog.funcNamed "loop.example/g00565/laws.FnHeads" = some 3 by kernel_rfl).symm.trans hf) |>.symm
      obtain rfl : fn = Tryz.f3 := (Option.some.inj (Tryz.func3.symm.trans hfn)).symm
      exact ⟨by kernel_rfl, fun j t ht => by
        rw [Tryz.params3] at ht
        have h3 : t = 22 := by
          match j, ht with
          | 0, ht => simp at ht; simp [← ht]
          | _ + 1, ht => simp at ht
        rcases h3 with rfl
        all_goals exact (show Tryz.prog.wantsStandIn _ = false by kernel_rfl)⟩)
    (by kernel_rfl)
#print axioms fnHeads_holds
end Go.Proofs.YtffidkoejlebeaaGreatDoor
