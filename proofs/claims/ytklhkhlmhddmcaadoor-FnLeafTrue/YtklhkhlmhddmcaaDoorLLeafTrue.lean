/- At every code the law on leaves that are taken holds: such a leaf is the piece at its place, or there are two pieces of one sum; the table that begins pieces starts as the program's text lays it. -/
import Derived.Test.YtklhkhlmhddmcaaDoorILeafC
import Derived.Test.YtklhkhlmhddmcaaDoorLfT
import Derived.Test.YtklhkhlmhddmcaaDoorDraw6E
import Derived.Test.YtklhkhlmhddmcaaDoorNumsG
import Derived.Test.YtklhkhlmhddmcaaDoorBig
import Derived.Test.YtklhkhlmhddmcaaDoorIPcs
import Derived.Test.YtklhkhlmhddmcaaDoorSums6
import Derived.Test.YtklhkhlmhddmcaaDoorPcsF
import Derived.Deep.DeepCutAuto
import Derived.Test.YtklhkhlmhddmcaaDoorDoor
namespace Go.Proofs.YtklhkhlmhddmcaaDoor
open Go.ChangeShapes Go.WideShapes Go.ChangeAt Go.RowKit
set_option linter.unusedVariables false
set_option linter.unusedSimpArgs false

set_option maxRecDepth 100000 in
set_option maxHeartbeats 16000000 in
theorem fnLeafTrue_walk (w : World) (hT : Tab w) (a0 : Option Addr) (len0 cap0 : Nat) (z0 : List Int) (w0 : IsRow .u8 w a0 len0 cap0 z0) :
    Calls Tryd.prog 3 #[.slice a0 len0 cap0] w fun e w' => e = .returned (.bool true) ∧ Below w.heap.size w w' := by
  have A0 := Has.of_row w0
  have hlen := A0.1
  generalize z0.take len0 = zs at A0 hlen
  subst hlen
  clear w0
  by_cases hbig : 1048576 < zs.length
  case pos =>
    go_enter Tryd.func3, Tryd.ntmps3
    go_wp2_with fail
    refine (lwBig_yes _ a0 _ cap0 hbig).mono ?_
    rintro r u ⟨rfl, rfl⟩
    go_wp2
    go_ret
    exact ⟨rfl, Below.refl _ _⟩
  have hsm : zs.length ≤ 1048576 := by omega
  have HT : Hid (Tab w) := hT
  clear hT hbig
  go_enter Tryd.func3, Tryd.ntmps3
  go_wp2_with fail
  refine (lwBig_no _ a0 _ cap0 hsm).mono ?_
  rintro r u ⟨rfl, hu⟩
  have hu2 := hu.symm
  subst hu2
  clear hu
  go_wp2_with fail
  refine (drawLeafClash_any _ a0 _ cap0 zs A0 hsm).mono ?_
  rintro e u1 ⟨a1, c1, rs, at', a2, c2, ds, a3, c3, ps, rfl, lr, sr, ab, ld, lp, ⟨ep, fp⟩, R1, D1, P1, hb1⟩
  have PZ : Hid (pcF rs = 0) := pcF_of (by omega) (fun r hr => by have := sr r hr; omega)
  have SR : Hid (∀ r ∈ rs, r.zs.length ≤ 1048576) := fun r hr => by have := sr r hr; omega
  have AB : Hid (lkC rs at' ds ps = 0 ↔ acB ds at' rs.length ps (rtV (psL rs)) = true) := lk_ab PZ.out (by omega)
  have LS : Hid (∀ x, lkX rs at' ds ps = some x → isCl x) := lkX_some rs at' ds ps D1.2.1 (fun r hr => (R1.2 r hr).1.2.1)
  have LT : Hid (lkC rs at' ds ps = 0 → lkX rs at' ds ps = none → ds = (rs.map Pc.zs).getD at'.toNat []) := fun h k => lk_true h k
  have LA : Hid (lkC rs at' ds ps = 0 → 0 ≤ at' ∧ at' < rs.length) := fun h => lk_at h
  clear sr
  have SP : Hid (∀ u : World, Below u1.heap.size u1 u → Calls Tryd.prog 21 #[.slice a1 rs.length c1, .int .i64 at', .slice a2 ds.length c2, .slice a3 ps.length c3] u fun r w' => ∃ a1 c1 a2 c2, r = .returned (.agg #[.int .i64 (lkC rs at' ds ps), .bool (lkX rs at' ds ps).isSome, .slice a1 (clA (lkX rs at' ds ps)).length c1, .slice a2 (clB (lkX rs at' ds ps)).length c2]) ∧ Below u.heap.size u w') := by
    intro u hu
    refine (specLeafClash_any a1 a2 a3 c1 c2 c3 rs at' ds ps u (R1.below hu (Nat.le_refl _)) (D1.below hu (Nat.le_refl _)) (P1.below hu (Nat.le_refl _)) (by omega) SR.out (by omega) (by omega) ep fp).mono ?_
    rintro r w' ⟨a1, c1, a2, c2, rfl, _, hb⟩
    exact ⟨a1, c1, a2, c2, rfl, hb⟩
  have PF1 : Hid (∀ u : World, Below u1.heap.size u1 u → Calls Tryd.prog 18 #[.slice a1 rs.length c1] u fun r w' => r = .returned (.int .i64 0) ∧ Below u.heap.size u w') := by
    intro u hu
    have := implPiecesFault_any a1 c1 rs u (R1.below hu (Nat.le_refl _)) (by omega) SR.out
    rw [PZ.out] at this
    exact this
  have AC : Hid (∀ u : World, Below u1.heap.size u1 u → Calls Tryd.prog 22 #[.slice a2 ds.length c2, .int .i64 at', .int .i64 rs.length, .slice a3 ps.length c3, .int .i64 (rtV (psL rs))] u fun r w' => r = .returned (.bool (acB ds at' rs.length ps (rtV (psL rs)))) ∧ Below u.heap.size u w') := fun u hu => implAccept_any a2 a3 c2 c3 ds ps at' rs.length (rtV (psL rs)) u (HT.out.below (hb1.trans (hu.mono hb1.size)) (Nat.le_refl _)) (D1.below hu (Nat.le_refl _)) (P1.below hu (Nat.le_refl _)) (by omega) ep fp
  have PS1 : Hid (∀ u : World, Below u1.heap.size u1 u → Calls Tryd.prog 15 #[.slice a1 rs.length c1] u fun r w' => ∃ pa pc, r = .returned (.agg #[.int .i64 (pcF rs), .slice pa (psL rs).length pc]) ∧ World.ownsRow w' u.heap.size 2 1 (.slice pa (psL rs).length pc) (psL rs).length ((psL rs).map (.int .i64)) ∧ Below u.heap.size u w') := fun u hu => implPieceSums_any a1 c1 rs u (HT.out.below (hb1.trans (hu.mono hb1.size)) (Nat.le_refl _)) (R1.below hu (Nat.le_refl _)) (by omega) SR.out
  go_wp2_with fail
  refine (implLeafClash_any a1 a2 a3 c1 c2 c3 rs at' ds ps _ (HT.out.below hb1 (Nat.le_refl _)) R1 D1 P1 (by omega) SR.out (by omega) (by omega) ep fp).mono ?_
  rintro r u2 ⟨b1, i1, b2, i2, rfl, O2, hb2⟩
  have W2 := hb1.trans (hb2.mono hb1.size)
  have OK := cl_ok LS.out
  have H1 := has_of_own O2.one OK.2.2.1
  have H2 := has_of_own O2.two OK.2.2.2
  clear O2 OK
  have KX : Hid (∀ x, lkX rs at' ds ps = some x → (clA (lkX rs at' ds ps)) = x.1 ∧ (clB (lkX rs at' ds ps)) = x.2) := fun x h => by rw [h]; exact ⟨rfl, rfl⟩
  have hff : Hid ((lkX rs at' ds ps).isSome = false → lkX rs at' ds ps = none) := fun h => by simpa using h
  have htt : Hid ((lkX rs at' ds ps).isSome = true → ∃ x, lkX rs at' ds ps = some x) := fun h => Option.isSome_iff_exists.1 h
  generalize (lkX rs at' ds ps).isSome = ff at *
  generalize clA (lkX rs at' ds ps) = ls at *
  generalize clB (lkX rs at' ds ps) = ms at *
  generalize lkX rs at' ds ps = X at *
  generalize lkC rs at' ds ps = cc at *
  have BV : Below u1.heap.size u1 (u2.alloc (.cells #[.int .i64 cc, .bool ff, .slice b1 ls.length i1, .slice b2 ms.length i2] 31)) := hb2.alloc hb2.size _
  have WV : Below w.heap.size w (u2.alloc (.cells #[.int .i64 cc, .bool ff, .slice b1 ls.length i1, .slice b2 ms.length i2] 31)) := W2.alloc W2.size _
  have HV1 := H1.alloc (.cells #[.int .i64 cc, .bool ff, .slice b1 ls.length i1, .slice b2 ms.length i2] 31)
  have HV2 := H2.alloc (.cells #[.int .i64 cc, .bool ff, .slice b1 ls.length i1, .slice b2 ms.length i2] 31)
  clear hb2 H1 H2
  go_wp2_with fail
  refine (drawPieceSums_any _ a0 _ cap0 zs (A0.below WV (Nat.le_refl _)) hsm).mono ?_
  rintro e u3 ⟨a4, c4, ts, rfl, l4, s4, T4, hb3⟩
  have W3 := WV.trans (hb3.mono WV.size)
  have T3 := HT.out.below W3 (Nat.le_refl _)
  have S4 : Hid (∀ r ∈ ts, r.zs.length ≤ 1048576) := fun r hr => by have := s4 r hr; omega
  have TSI : Hid (∀ u : World, Below u3.heap.size u3 u → Calls Tryd.prog 15 #[.slice a4 ts.length c4] u fun r w' => ∃ pa pc, r = .returned (.agg #[.int .i64 (pcF ts), .slice pa (psL ts).length pc]) ∧ Has w' .i64 pa (psL ts).length (psL ts) ∧ Below u.heap.size u w') := by
    intro u hu
    refine (implPieceSums_any a4 c4 ts u (T3.below hu (Nat.le_refl _)) (T4.below hu (Nat.le_refl _)) (by omega) S4.out).mono ?_
    rintro r w' ⟨pa, pc, rfl, O, hb⟩
    exact ⟨pa, pc, rfl, has_of_own O (by unfold psL; split; exact allS_wf (smL_all ts); simp), hb⟩
  have TSS : Hid (∀ u : World, Below u3.heap.size u3 u → Calls Tryd.prog 16 #[.slice a4 ts.length c4] u fun r w' => ∃ pa pc, r = .returned (.agg #[.int .i64 (pcF ts), .slice pa (psL ts).length pc]) ∧ Has w' .i64 pa (psL ts).length (psL ts) ∧ Below u.heap.size u w') := by
    intro u hu
    refine (specPieceSums_any a4 c4 ts u (T4.below hu (Nat.le_refl _)) (by omega) S4.out).mono ?_
    rintro r w' ⟨pa, pc, rfl, O, hb⟩
    exact ⟨pa, pc, rfl, has_of_own O (by unfold psL; split; exact allS_wf (smL_all ts); simp), hb⟩
  have PFI : Hid (∀ u : World, Below u3.heap.size u3 u → Calls Tryd.prog 18 #[.slice a4 ts.length c4] u fun r w' => r = .returned (.int .i64 (pcF ts)) ∧ Below u.heap.size u w') := fun u hu => implPiecesFault_any a4 c4 ts u (T4.below hu (Nat.le_refl _)) (by omega) S4.out
  have PFS : Hid (∀ u : World, Below u3.heap.size u3 u → Calls Tryd.prog 19 #[.slice a4 ts.length c4] u fun r w' => r = .returned (.int .i64 (pcF ts)) ∧ Below u.heap.size u w') := fun u hu => specPiecesFault_any a4 c4 ts u (T4.below hu (Nat.le_refl _)) (by omega) S4.out
  have lps : (psL ts).length ≤ 25 := by
    unfold psL
    split
    · rw [smL_len]; exact l4
    · simp
  have NM : Hid (∀ (u : World) (pa pb : Option Addr) (qa qb : Nat), Has u .i64 pa (psL ts).length (psL ts) → Has u .i64 pb (psL ts).length (psL ts) → Calls Tryd.prog 17 #[.slice pa (psL ts).length qa, .slice pb (psL ts).length qb] u fun r w' => r = .returned (.bool true) ∧ Below u.heap.size u w') := by
    intro u pa pb qa qb h1 h2
    have := numsG_any pa pb qa qb (psL ts) (psL ts) u h1 h2 (by omega)
    rw [decide_eq_true (rfl : psL ts = psL ts)] at this
    exact this
  generalize pcF ts = cf at *
  generalize psL ts = ns at *
  clear s4 T4 l4 T3 lps
  have hcf : (cf != cf) = false := by simp
  have F0 := fldS0
  have F1 := fldS1
  go_wp2_with fail
  refine (TSI.out _ (Below.refl _ _)).mono ?_
  rintro r u4 ⟨p4, q4, rfl, _, B4⟩
  go_wp2_with fail
  refine (TSS.out _ B4).mono ?_
  rintro r u5 ⟨p5, q5, rfl, _, hb5⟩
  have B5 := B4.trans (hb5.mono B4.size)
  clear hb5 B4
  go_wp2_with fail
  refine (TSI.out _ B5).mono ?_
  rintro r u6 ⟨p6, q6, rfl, H6, hb6⟩
  have B6 := B5.trans (hb6.mono B5.size)
  clear hb6 B5
  go_wp2_with fail
  refine (TSS.out _ B6).mono ?_
  rintro r u7 ⟨p7, q7, rfl, H7, hb7⟩
  have B7 := B6.trans (hb7.mono B6.size)
  have H67 := H6.below hb7 (Nat.le_refl _)
  clear hb7 B6 H6
  go_wp2_with fail
  refine (NM.out _ p6 p7 q6 q7 H67 H7).mono ?_
  rintro r u8 ⟨rfl, hb8⟩
  have B8 := B7.trans (hb8.mono B7.size)
  clear hb8 B7 H67 H7
  go_wp2_with fail
  refine (PFI.out _ B8).mono ?_
  rintro r u9 ⟨rfl, hb9⟩
  have B9 := B8.trans (hb9.mono B8.size)
  clear hb9 B8
  go_wp2_with fail
  refine (PFS.out _ B9).mono ?_
  rintro r u10 ⟨rfl, hb10⟩
  have B10 := B9.trans (hb10.mono B9.size)
  have X10 := hb3.trans (B10.mono hb3.size)
  have Y10 := BV.trans (X10.mono BV.size)
  clear hb10 B9 B10 hb3 TSI TSS PFI PFS NM
  go_wp2_with fail
  refine (PS1.out _ Y10).mono ?_
  rintro r u11 ⟨p8, q8, rfl, O8, hb11⟩
  have X11 := X10.trans (hb11.mono X10.size)
  have Y11 := Y10.trans (hb11.mono Y10.size)
  have W11 := WV.trans (X11.mono WV.size)
  have cap8 := own_capsV O8
  have H8 := has_of_own O8 (by unfold psL; split; exact allS_wf (smL_all rs); simp)
  have l8 : (psL rs).length ≤ 1048576 := by
    unfold psL
    split
    · rw [smL_len]; omega
    · simp
  clear hb11 O8 X10 Y10 PS1
  go_wp2_with fail
  refine (implRootOf_any p8 q8 (psL rs) u11 (HT.out.below W11 (Nat.le_refl _)) H8 l8 cap8.1 cap8.2).mono ?_
  rintro r u12 ⟨rfl, hb12⟩
  have X12 := X11.trans (hb12.mono X11.size)
  have Y12 := Y11.trans (hb12.mono Y11.size)
  have W12 := W11.trans (hb12.mono W11.size)
  clear hb12 X11 Y11 W11 H8 l8 cap8 PZ
  generalize lvF (psL rs) = lv at *
  generalize rtV (psL rs) = rt at *
  have XE := X12.alloc X12.size (.cells #[.int .i64 lv, .int .i64 rt] 40)
  have YE := Y12.alloc Y12.size (.cells #[.int .i64 lv, .int .i64 rt] 40)
  have WE := W12.alloc W12.size (.cells #[.int .i64 lv, .int .i64 rt] 40)
  obtain ⟨⟨v0, v1, v2, v3⟩, _, _, _, _⟩ := var4 XE
  have r1 : (u12.alloc (.cells #[.int .i64 lv, .int .i64 rt] 40)).cell? ⟨u12.heap.size, 1, none⟩ = some (.int .i64 rt) := by simp [go_sem]
  have z12 : u12.heap.size < (u12.alloc (.cells #[.int .i64 lv, .int .i64 rt] 40)).heap.size := by simp
  have z2 : u2.heap.size < (u12.alloc (.cells #[.int .i64 lv, .int .i64 rt] 40)).heap.size := by have := XE.size; simp at this ⊢; omega
  clear X12 Y12 W12 WV BV
  by_cases hcode : cc = 0
  · have cb : (cc != 0) = false := by simpa using hcode
    obtain ⟨n0, n1⟩ := LA.out hcode
    have hac : acB ds at' rs.length ps rt = true := AB.out.1 hcode
    rw [hac] at AC
    have LTT := LT.out hcode
    have LTH : Hid (X = none → ds = (rs.map Pc.zs).getD at'.toNat []) := LTT
    obtain ⟨j, rfl⟩ := Int.eq_ofNat_of_zero_le n0
    have hjl : j < rs.length := by omega
    have eg : (rs.map Pc.zs).getD (j : Int).toNat [] = rs[j].zs := by simp [List.getD, hjl]
    rw [eg] at LTH
    have q1 : ¬ (j : Int) < 0 := by omega
    have q2 : ¬ (j : Int) ≥ (rs.length : Int) := by omega
    have q3 : (j : Int) < (rs.length : Int) := by omega
    have q4 : ¬ (rs.length : Int) ≤ (j : Int) := by omega
    clear eg LTT LT LA AB hac hcode PF1 SP n0
    go_wp2_with fail
    refine (AC.out _ YE).mono ?_
    rintro r u13 ⟨rfl, hb13⟩
    have X13 := XE.trans (hb13.mono XE.size)
    have Y13 := YE.trans (hb13.mono YE.size)
    have W13 := WE.trans (hb13.mono WE.size)
    clear v0 v1 v2 v3 r1
    obtain ⟨⟨v0, v1, v2, v3⟩, _, _, _, _⟩ := var4 X13
    have R13 := R1.below Y13 (Nat.le_refl _)
    have D13 := D1.below Y13 (Nat.le_refl _)
    obtain ⟨b9, o9, hx9, _, hc9⟩ : ∃ b off, a1 = some ⟨b, off, none⟩ ∧ b < u13.heap.size ∧ ∀ i (h : i < rs.length), u13.cell? ⟨b, off + i, none⟩ = some (.slice rs[i].ad rs[i].zs.length rs[i].cap) := by
      rcases R13.1 with c | h
      · omega
      · exact h
    subst hx9
    have e1 := hc9 j hjl
    have D9 := (R13.2 _ (List.getElem_mem hjl)).1
    have G1 := HV1.below X13 (Nat.le_refl _)
    have G2 := HV2.below X13 (Nat.le_refl _)
    clear hc9 R13 R1 hb13 XE YE WE Y13 AC z2 z12
    generalize rs[j] = d1 at *
    have LB := lwBytesT_any a2 d1.ad c2 d1.cap ds d1.zs u13 D13 D9
    have LBH : Hid (_) := LB
    clear LB D13 D9 D1 P1
    cases ff with
    | false =>
      have hd := LTH.out (hff.out rfl)
      rw [decide_eq_true hd] at LBH
      clear hd LTH
      go_wp2_with fail
      refine Calls.mono LBH.out ?_
      rintro r u14 ⟨rfl, hu⟩
      have hu2 := hu.symm
      subst hu2
      go_wp2
      go_ret
      exact ⟨rfl, W13⟩
    | true =>
      obtain ⟨x, hx⟩ := htt.out rfl
      have hcl := LS.out x hx
      obtain ⟨k1, k2⟩ := KX.out x hx
      subst k1 k2
      have FD : Hid (∀ u : World, Below u13.heap.size u13 u → Calls Tryd.prog 24 #[.agg #[.bool true, .slice b1 x.1.length i1, .slice b2 x.2.length i2]] u fun r w' => r = .returned (.bool true) ∧ Below u.heap.size u w') := fun u hu => found_any hcl b1 b2 i1 i2 u (G1.below hu (Nat.le_refl _)) (G2.below hu (Nat.le_refl _))
      clear hcl hx G1 G2 LTH
      by_cases hd : ds = d1.zs
      · rw [decide_eq_true hd] at LBH
        clear hd
        go_wp2_with fail
        refine Calls.mono LBH.out ?_
        rintro r u14 ⟨rfl, hu⟩
        have hu2 := hu.symm
        subst hu2
        go_wp2_with fail
        refine (FD.out _ (Below.refl _ _)).mono ?_
        rintro r u15 ⟨rfl, hb15⟩
        go_wp2
        go_ret
        exact ⟨rfl, W13.trans (hb15.mono W13.size)⟩
      · rw [decide_eq_false hd] at LBH
        clear hd
        go_wp2_with fail
        refine Calls.mono LBH.out ?_
        rintro r u14 ⟨rfl, hu⟩
        have hu2 := hu.symm
        subst hu2
        go_wp2_with fail
        refine (FD.out _ (Below.refl _ _)).mono ?_
        rintro r u15 ⟨rfl, hb15⟩
        go_wp2
        go_ret
        exact ⟨rfl, W13.trans (hb15.mono W13.size)⟩
  · have cb : (cc != 0) = true := by simpa using hcode
    have hac : acB ds at' rs.length ps rt = false := by
      cases h : acB ds at' rs.length ps rt with
      | false => rfl
      | true => exact absurd (AB.out.2 h) hcode
    rw [hac] at AC
    have hcc : (cc == cc) = true := by simp
    have FQ := fldQ0
    obtain ⟨E, hE⟩ : ∃ E, E = u12.alloc (.cells #[.int .i64 lv, .int .i64 rt] 40) := ⟨_, rfl⟩
    have d0 : ∀ wx : World, Below E.heap.size E wx → wx.cell? ⟨u2.heap.size, 0, none⟩ = some (.int .i64 cc) := fun wx h => (h.cell (p := ⟨u2.heap.size, 0, none⟩) (by rw [hE]; exact z2)).trans (by rw [hE]; exact v0)
    have d1 : ∀ wx : World, Below E.heap.size E wx → wx.cell? ⟨u12.heap.size, 1, none⟩ = some (.int .i64 rt) := fun wx h => (h.cell (p := ⟨u12.heap.size, 1, none⟩) (by rw [hE]; exact z12)).trans (by rw [hE]; exact r1)
    rw [← hE] at YE WE
    have SPE : Hid (∀ u : World, Below E.heap.size E u → Calls Tryd.prog 21 #[.slice a1 rs.length c1, .int .i64 at', .slice a2 ds.length c2, .slice a3 ps.length c3] u fun r w' => ∃ a1 c1 a2 c2, r = .returned (.agg #[.int .i64 cc, .bool ff, .slice a1 ls.length c1, .slice a2 ms.length c2]) ∧ Below u.heap.size u w') := fun u hu => SP.out u (YE.trans (hu.mono YE.size))
    have PFE : Hid (∀ u : World, Below E.heap.size E u → Calls Tryd.prog 18 #[.slice a1 rs.length c1] u fun r w' => r = .returned (.int .i64 0) ∧ Below u.heap.size u w') := fun u hu => PF1.out u (YE.trans (hu.mono YE.size))
    have ACE : Hid (∀ u : World, Below E.heap.size E u → Calls Tryd.prog 22 #[.slice a2 ds.length c2, .int .i64 at', .int .i64 rs.length, .slice a3 ps.length c3, .int .i64 rt] u fun r w' => r = .returned (.bool false) ∧ Below u.heap.size u w') := fun u hu => AC.out u (YE.trans (hu.mono YE.size))
    have DE : Below E.heap.size E E.drew := (Below.refl _ _).drew
    have FIN : Hid (∀ u : World, Below E.heap.size E u → Below w.heap.size w u) := fun u hu => WE.trans (hu.mono WE.size)
    clear hac hcode SP PF1 AC XE YE WE LT LA AB LS KX hff htt R1 D1 P1 HV1 HV2 HT
    go_wp2_with fail
    simp only [← hE]
    clear hE v0 v1 v2 v3 r1 z2 z12
    go_region_held3 (fun wx => Below E.heap.size E wx)
      ((first | exact DE | exact D1 | assumption))
      ((first | (go_at_call 21; refine (SPE.out _ (by assumption)).mono ?_; rintro _ ua ⟨j1, j2, j3, j4, rfl, hba⟩; have D1 : Below E.heap.size E ua := Below.trans (by assumption) (hba.mono (Below.size (by assumption)))) | (go_at_call 18; refine (PFE.out _ (by assumption)).mono ?_; rintro _ ua ⟨rfl, hba⟩; have D1 : Below E.heap.size E ua := Below.trans (by assumption) (hba.mono (Below.size (by assumption)))) | (go_at_call 22; refine (ACE.out _ (by assumption)).mono ?_; rintro _ ua ⟨rfl, hba⟩; have D1 : Below E.heap.size E ua := Below.trans (by assumption) (hba.mono (Below.size (by assumption)))) | fail))
    go_wp2
    go_ret
    exact ⟨by first | rfl | simp, FIN.out _ D1⟩

set_option maxRecDepth 100000 in
theorem fnLeafTrue_lifted (os : Os) (started : os.Started) (H : Type) (enc : TypeId × Value → H) :
    ReturnsInHanded {} Tryd.checked os 3 .any (fun w args => (Rows.fnLeafTrueSpec.pre enc Tryd.prog Tryd.f3 [] false w args ∧ laidMetH Tryd.prog [("loop.example/g00565/impl.pieceStarts", Rows.laid_loop_example_g00565_impl_pieceStarts)] w) ∧ sizedMet enc Tryd.prog Tryd.f3 (OpenSpec.ofChange Rows.fnLeafTrueSpec) false w args) (Rows.fnLeafTrueSpec.post enc Tryd.prog Tryd.f3 false true false false) := by
  refine returnsInHanded_of_change_and (C := Tryd.checked) (X := fun w _ => laidMetH Tryd.prog [("loop.example/g00565/impl.pieceStarts", Rows.laid_loop_example_g00565_impl_pieceStarts)] w) (fun _ _ _ hh h => h.of_heap hh) own started (by kernel_rfl) Tryd.func3
    (ChangeSpec.witness_shaped (enc := enc) (C := Tryd.checked) (os := os) (X := fun w _ => laidMetH Tryd.prog [("loop.example/g00565/impl.pieceStarts", Rows.laid_loop_example_g00565_impl_pieceStarts)] w) false (World.doorLaid Tryd.prog 400 os) #[.slice none 0 0] 8 rfl (World.shaped_of_RefB (by kernel_rfl) (by kernel_rfl)) (by kernel_rfl) (by kernel_rfl) (by kernel_rfl) (door_met os _)) ?_
  intro W base args ds gs before hval0 hW _ _ hL _
  have hval : ∀ (j : Nat) t v, Tryd.f3.params[j]? = some t → args[j]? = some v → Value.okWide Tryd.prog W .any base t v := hval0
  have hW' := hW
  obtain ⟨p, q, hA0, hV, rfl, hfz, hnd⟩ := hW
  have hA : DataW.TrodAll enc Tryd.prog W 0 (fun _ => true) true Tryd.f3.params.toList args.toList ds p := hA0
  rw [Tryd.params3] at hA hval
  obtain ⟨v0, vs0, d0, ds0, p0, q0, hargs, rfl, rfl, h0, r0⟩ := trodAll_cons hA
  obtain ⟨rfl, rfl, rfl⟩ := trodAll_nil r0
  obtain rfl : args = #[v0] := by cases args; simp_all
  obtain ⟨g, rfl⟩ : ∃ g, gs = [g] := by obtain ⟨_, _, _, _, d, _, e, _⟩ := trodVars_one hV; exact ⟨d, e⟩
  have g0 := h0
  have lt0 : ∀ x ∈ p0, x.block < W.heap.size := by obtain ⟨m, hm⟩ := g0; exact DataW.trod_lt m _ _ _ hm
  obtain ⟨a0, len0, cap0, rfl⟩ := okWide_slice Tryd.underlying22 (hval 0 22 v0 rfl rfl)
  obtain ⟨z0, w0⟩ : ∃ zs, IsRow .u8 W a0 len0 cap0 zs := by
    obtain ⟨fuel, hf⟩ := h0
    rcases open_ints Tryd.underlying22 Tryd.underlying5 (by kernel_rfl) hf with ⟨hcs, _⟩ | ⟨x, l, c, zs, hcs, _, hl, hm, hz, _, hcell, hwz⟩
    · simp [Value.cells] at hcs
      obtain ⟨rfl, rfl, rfl⟩ := hcs
      exact ⟨[], .inl ⟨rfl, rfl, rfl, rfl⟩⟩
    · simp [Value.cells] at hcs
      obtain ⟨rfl, rfl, rfl⟩ := hcs
      exact ⟨zs, .inr ⟨_, rfl, hl, hm, by simpa using hz, hcell, hwz⟩⟩
  clear hA0 hval0
  refine (fnLeafTrue_walk W (tab_of_laid hL) a0 len0 cap0 z0 w0).mono fun e W' ⟨he, bel⟩ => ?_
  subst he
  exact ⟨_, rfl, _, _, _, [], _, _, hW', trodAll_mk1 (shut_bool Tryd.underlying4 _), (trodAll_cons_mk (Below.trod laidOut (by kernel_rfl) (of_decide_eq_true (by kernel_rfl)) g0 bel lt0) trodAll_mk0), Below.trodVars laidOut bel (by kernel_rfl) hV, bel.frame _, fun h => by cases h⟩

theorem fnLeafTrue_row : Rows.FnLeafTrueSaid :=
  OpenClaim.holds_of_wide 3 Tryd.f3 rfl rfl rfl rfl rfl rfl rfl ⟨rfl, rfl, rfl, rfl, rfl⟩ rfl rfl rfl rfl rfl (by kernel_rfl) Tryd.func3 (by kernel_rfl)
    (of_decide_eq_true (by kernel_rfl)) (by unfold Func.isWrapper; first | (rw [if_pos (by decide +kernel)]; kernel_rfl) | (rw [if_neg (by decide +kernel)]; exact ⟨rfl, rfl⟩))
    (fun os started H enc _ => fnLeafTrue_lifted os started H enc)

theorem fnLeafTrue_holds : Rows.FnLeafTrueCardSaid :=
  Claim7.holds_tied_plain_at .later [] [.data] true Rows.fnLeafTrueCard.stood.harness Rows.fnLeafTrueCard.stood.looks
    fnLeafTrue_row (fun _ h => by cases h) (by kernel_rfl) (fun _ h => by cases h) fnLeafTrue_row_tie rfl ⟨rfl, rfl⟩ (by kernel_rfl) rfl
    (fun f fn hf hfn => by
      obtain rfl : f = 3 := Option.some.inj ((show Tryd.prog.funcNamed "loop.example/g00565/laws.FnLeafTrue" = some 3 by kernel_rfl).symm.trans hf) |>.symm
      obtain rfl : fn = Tryd.f3 := (Option.some.inj (Tryd.func3.symm.trans hfn)).symm
      exact ⟨by kernel_rfl, fun j t ht => by
        rw [Tryd.params3] at ht
        have h3 : t = 22 := by
          match j, ht with
          | 0, ht => simp at ht; simp [← ht]
          | _ + 1, ht => simp at ht
        rcases h3 with rfl
        all_goals exact (show Tryd.prog.wantsStandIn _ = false by kernel_rfl)⟩)
    (by kernel_rfl)
#print axioms fnLeafTrue_holds
end Go.Proofs.YtklhkhlmhddmcaaDoor
