/- At every code the law on slots that are taken holds: such a slot is as there is one, or as there is none, or there are two pieces of one sum; the table that begins pieces starts as the program's text lays it. -/
import Derived.Test.YtjjddjohckcmbaaDoorMptP
import Derived.Test.YtjjddjohckcmbaaDoorSDd
import Derived.Test.YtjjddjohckcmbaaDoorIMc
import Derived.Test.YtjjddjohckcmbaaDoorSClM
import Derived.Test.YtjjddjohckcmbaaDoorIPut7
import Derived.Test.YtjjddjohckcmbaaDoorIFind
import Derived.Test.YtjjddjohckcmbaaDoorNumsG
import Derived.Test.YtjjddjohckcmbaaDoorBig
import Derived.Test.YtjjddjohckcmbaaDoorMoves
import Derived.Test.YtjjddjohckcmbaaDoorRegB
import Derived.Deep.DeepCutAuto
import Derived.Deep.RegionWith
import Derived.Deep.RegionHeld3
import Derived.Test.YtjjddjohckcmbaaDoorDoor
namespace Go.Proofs.YtjjddjohckcmbaaDoor
open Go.ChangeShapes Go.WideShapes Go.ChangeAt Go.RowKit
set_option linter.unusedVariables false
set_option linter.unusedSimpArgs false

set_option maxRecDepth 100000 in
set_option maxHeartbeats 16000000 in
theorem fnMapTrue_walk (w : World) (hT : Tab w) (a0 : Option Addr) (len0 cap0 : Nat) (z0 : List Int) (w0 : IsRow .u8 w a0 len0 cap0 z0) :
    Calls Tryd.prog 4 #[.slice a0 len0 cap0] w fun e w' => e = .returned (.bool true) ∧ Below w.heap.size w w' := by
  have A0 := Has.of_row w0
  have hlen := A0.1
  generalize z0.take len0 = zs at A0 hlen
  subst hlen
  clear w0
  by_cases hbig : 1048576 < zs.length
  case pos =>
    go_enter Tryd.func4, Tryd.ntmps4
    go_wp2_with fail
    refine (lwBig_yes _ a0 _ cap0 hbig).mono ?_
    rintro r u ⟨rfl, rfl⟩
    go_wp2
    go_ret
    exact ⟨rfl, Below.refl _ _⟩
  have hsm : zs.length ≤ 1048576 := by omega
  have FA : Hid (∀ wx : World, Below w.heap.size w wx → Has wx .u8 a0 zs.length zs ∧ Tab wx) := fun wx h => ⟨A0.below h (Nat.le_refl _), hT.below h (Nat.le_refl _)⟩
  clear hT hbig A0
  go_enter Tryd.func4, Tryd.ntmps4
  go_wp2_with fail
  refine (lwBig_no _ a0 _ cap0 hsm).mono ?_
  rintro r u ⟨rfl, hu⟩
  have hu2 := hu.symm
  subst hu2
  clear hu
  go_wp2_with fail
  refine (drawMapClash_any _ a0 _ cap0 zs (FA.out _ (Below.refl _ _)).1 hsm).mono ?_
  rintro e u1 ⟨a1, c1, l, k, tt, v, a2, c2, p, rfl, l13, kb, p6, cp, HL, HP, hb1⟩
  go_wp2_with fail
  refine (implMapClash_any a1 c1 l k v tt a2 c2 p _ (FA.out _ hb1).2 HL (by omega) HP (by omega)).mono ?_
  rintro r u2 ⟨b1, i1, b2, i2, rfl, O2, hb2⟩
  have W2 := hb1.trans (hb2.mono hb1.size)
  replace HL := HL.below hb2 (Nat.le_refl _)
  replace HP := HP.below hb2 (Nat.le_refl _)
  have LS : Hid (∀ x, mkX l k tt v p = some x → isCl x) := mkX_some l k v tt p
  have OK := cl_ok LS.out
  have H1 := has_of_own O2.one OK.2.2.1
  have H2 := has_of_own O2.two OK.2.2.2
  have TR : Hid (mkC l k tt v p = 0 → mkX l k tt v p = none → (tt = true ∧ fdC l k = 0 ∧ fdV l k = v) ∨ (tt = false ∧ fdC l k = 4 ∧ fdV l k = 0)) := fun h1 h2 => map_true h1 h2
  have FC : Hid (mkC l k tt v p = 0 → fdC l k = 0 ∨ fdC l k = 4) := fun h => fdC_two (mkC_zero h).1
  have MS0 := fun (u : World) (h1 : HasS u a1 l) (h2 : Has u .i64 a2 p.length p) => specMapClash_any a1 c1 l k v tt a2 c2 p u h1 (by omega) h2 (by omega) cp.1 cp.2
  have MSH : Hid (∀ u : World, HasS u a1 l → Has u .i64 a2 p.length p → Calls Tryd.prog 31 #[.slice a1 l.length c1, .int .i64 k, .bool tt, .int .i64 v, .slice a2 p.length c2] u fun r w' => ∃ a1 c1 a2 c2, r = .returned (.agg #[.int .i64 (mkC l k tt v p), .bool (mkX l k tt v p).isSome, .slice a1 (clA (mkX l k tt v p)).length c1, .slice a2 (clB (mkX l k tt v p)).length c2]) ∧ Below u.heap.size u w') := fun u h1 h2 => (MS0 u h1 h2).mono fun r w' ⟨a1, c1, a2, c2, e, _, hb⟩ => ⟨a1, c1, a2, c2, e, hb⟩
  have KX : Hid (∀ x, mkX l k tt v p = some x → (clA (mkX l k tt v p)) = x.1 ∧ (clB (mkX l k tt v p)) = x.2) := fun x h => by rw [h]; exact ⟨rfl, rfl⟩
  have hff : Hid ((mkX l k tt v p).isSome = false → mkX l k tt v p = none) := fun h => by simpa using h
  have htt : Hid ((mkX l k tt v p).isSome = true → ∃ x, mkX l k tt v p = some x) := fun h => Option.isSome_iff_exists.1 h
  clear O2 OK MS0 hb1 hb2
  generalize (mkX l k tt v p).isSome = ff at *
  generalize clA (mkX l k tt v p) = ls at *
  generalize clB (mkX l k tt v p) = ms at *
  generalize mkX l k tt v p = X at *
  generalize mkC l k tt v p = cc at *
  obtain ⟨U, hU⟩ : ∃ U, U = u2.alloc (.cells #[.int .i64 cc, .bool ff, .slice b1 ls.length i1, .slice b2 ms.length i2] 47) := ⟨_, rfl⟩
  obtain ⟨V1, hV1⟩ : ∃ V, V = u2.heap.size := ⟨_, rfl⟩
  have SV1 : Blk U V1 #[.int .i64 cc, .bool ff, .slice b1 ls.length i1, .slice b2 ms.length i2] 47 := by rw [hU, hV1]; exact Blk.new _ _ _
  have bU : Below u2.heap.size u2 U := by rw [hU]; exact (Below.refl _ _).alloc (Nat.le_refl _) _
  have BU := W2.trans (bU.mono W2.size)
  replace HL := HL.below bU (Nat.le_refl _)
  replace HP := HP.below bU (Nat.le_refl _)
  replace H1 := H1.below bU (Nat.le_refl _)
  replace H2 := H2.below bU (Nat.le_refl _)
  clear bU W2
  go_wp2_with fail
  simp only [← hU, ← hV1]
  clear hU hV1
  refine (drawPutSlot_any _ a0 _ cap0 zs (FA.out _ BU).1 hsm).mono ?_
  rintro e u3 ⟨a4, c4, m, x, y, rfl, m13, xb, yb, HM, hb3⟩
  have B3 := BU.trans (hb3.mono BU.size)
  obtain ⟨U', hU⟩ : ∃ U, U = u3.alloc (.cells #[.int .i64 x, .int .i64 y] 50) := ⟨_, rfl⟩
  obtain ⟨V2, hV2⟩ : ∃ V, V = u3.heap.size := ⟨_, rfl⟩
  have SV2 : Blk U' V2 #[.int .i64 x, .int .i64 y] 50 := by rw [hU, hV2]; exact Blk.new _ _ _
  have bU : Below u3.heap.size u3 U' := by rw [hU]; exact (Below.refl _ _).alloc (Nat.le_refl _) _
  have bq : Below U.heap.size U U' := hb3.trans (bU.mono hb3.size)
  have BU' := B3.trans (bU.mono B3.size)
  replace SV1 := SV1.below bq SV1.lt
  replace HL := HL.below bq (Nat.le_refl _)
  replace HP := HP.below bq (Nat.le_refl _)
  replace H1 := H1.below bq (Nat.le_refl _)
  replace H2 := H2.below bq (Nat.le_refl _)
  replace HM := HM.below bU (Nat.le_refl _)
  have o0 : U'.cell? ⟨V2, 0, none⟩ = some (.int .i64 x) := (SV2.cell 0).trans rfl
  have o1 : U'.cell? ⟨V2, 1, none⟩ = some (.int .i64 y) := (SV2.cell 1).trans rfl
  have o2 := SV2.lt
  have xw : (Lit.int .i64 x).wf = true := WalkArith.wf_i64 (by omega)
  have yw : (Lit.int .i64 y).wf = true := WalkArith.wf_i64 (by omega)
  clear hb3 bU bq B3 BU
  go_wp2_with fail
  simp only [← hU, ← hV2]
  clear hU hV2
  refine (implPutSlot_any a4 c4 m x y _ HM (by omega) xw yw).mono ?_
  rintro r u4 ⟨a5, c5, rfl, O5, hb4⟩
  have B4 := BU'.trans (hb4.mono BU'.size)
  have wm := HasS.wf HM
  have H5 := OwnS.has O5 (puL_wf ⟨xw, yw⟩ wm)
  obtain ⟨Z, hZ⟩ : ∃ Z, Z = u4.alloc (.cells #[.int .i64 (puC m (x, y)), .slice a5 (puL m (x, y)).length c5] 54) := ⟨_, rfl⟩
  obtain ⟨V3, hV3⟩ : ∃ V, V = u4.heap.size := ⟨_, rfl⟩
  have SV3 : Blk Z V3 #[.int .i64 (puC m (x, y)), .slice a5 (puL m (x, y)).length c5] 54 := by rw [hZ, hV3]; exact Blk.new _ _ _
  have bU : Below u4.heap.size u4 Z := by rw [hZ]; exact (Below.refl _ _).alloc (Nat.le_refl _) _
  have bq : Below U'.heap.size U' Z := hb4.trans (bU.mono hb4.size)
  have BZ := B4.trans (bU.mono B4.size)
  replace SV1 := SV1.below bq SV1.lt
  replace SV2 := SV2.below bq SV2.lt
  replace HL := HL.below bq (Nat.le_refl _)
  replace HP := HP.below bq (Nat.le_refl _)
  replace H1 := H1.below bq (Nat.le_refl _)
  replace H2 := H2.below bq (Nat.le_refl _)
  replace HM := HM.below bq (Nat.le_refl _)
  replace H5 := H5.below bU (Nat.le_refl _)
  have l5 := puL_len m (x, y)
  clear hb4 bU bq B4 BU' O5 wm o0 o1 o2
  have PS : Hid (∀ u : World, Below Z.heap.size Z u → Calls Tryd.prog 30 #[.slice a4 m.length c4, .agg #[.int .i64 x, .int .i64 y]] u fun r w' => ∃ a' c', r = .returned (.agg #[.int .i64 (puC m (x, y)), .slice a' (puL m (x, y)).length c']) ∧ Below u.heap.size u w') := fun u h => (specPutSlot_any a4 c4 m x y u (HM.below h (Nat.le_refl _)) (by omega)).mono fun r w' ⟨a', c', e, _, hb⟩ => ⟨a', c', e, hb⟩
  have FI : Hid (∀ u : World, Below Z.heap.size Z u → Calls Tryd.prog 20 #[.slice a5 (puL m (x, y)).length c5] u fun r w' => r = .returned (.int .i64 (slF (puL m (x, y)))) ∧ Below u.heap.size u w') := fun u h => implSlotsFault_any a5 c5 _ u (H5.below h (Nat.le_refl _)) (by omega)
  have D5 : Hid (∀ u : World, Below Z.heap.size Z u → Calls Tryd.prog 22 #[.slice a5 (puL m (x, y)).length c5, .int .i64 x] u fun r w' => r = .returned (.agg #[.int .i64 (fdC (puL m (x, y)) x), .int .i64 (fdV (puL m (x, y)) x)]) ∧ Below u.heap.size u w') := fun u h => implFindSlot_any a5 c5 _ x u (H5.below h (Nat.le_refl _)) (by omega) xw
  have DI : Hid (∀ u : World, Below Z.heap.size Z u → Calls Tryd.prog 22 #[.slice a1 l.length c1, .int .i64 k] u fun r w' => r = .returned (.agg #[.int .i64 (fdC l k), .int .i64 (fdV l k)]) ∧ Below u.heap.size u w') := fun u h => implFindSlot_any a1 c1 l k u (HL.below h (Nat.le_refl _)) (by omega) (WalkArith.wf_i64 (by omega))
  have MS : Hid (∀ u : World, Below Z.heap.size Z u → Calls Tryd.prog 31 #[.slice a1 l.length c1, .int .i64 k, .bool tt, .int .i64 v, .slice a2 p.length c2] u fun r w' => ∃ a1 c1 a2 c2, r = .returned (.agg #[.int .i64 cc, .bool ff, .slice a1 ls.length c1, .slice a2 ms.length c2]) ∧ Below u.heap.size u w') := fun u h => MSH.out u (HL.below h (Nat.le_refl _)) (HP.below h (Nat.le_refl _))
  have PF : Hid (puC m (x, y) = 0 → slF (puL m (x, y)) = 0 ∧ fdC (puL m (x, y)) x = 0 ∧ fdV (puL m (x, y)) x = y) := fun h => put_found h
  have LCH : Hid (∀ u : World, Below Z.heap.size Z u → Has u .u8 b1 ls.length ls ∧ Has u .u8 b2 ms.length ms) := fun u h => ⟨H1.below h (Nat.le_refl _), H2.below h (Nat.le_refl _)⟩
  generalize slF (puL m (x, y)) = sf at *
  generalize fdC (puL m (x, y)) x = f1 at *
  generalize fdV (puL m (x, y)) x = f2 at *
  generalize (puL m (x, y)).length = pn at *
  generalize puC m (x, y) = pcc at *
  generalize fdC l k = fc at *
  generalize fdV l k = fv at *
  have SH1 : Hid (Blk Z V1 #[.int .i64 cc, .bool ff, .slice b1 ls.length i1, .slice b2 ms.length i2] 47) := SV1
  have BZH : Hid (Below w.heap.size w Z) := BZ
  have hf0 := fldM0
  have hf1 := fldM1
  have hf4 := fldM4
  have q1 : (pcc != pcc) = false := by simp
  have q2 : (y != y) = false := by simp
  have VL1 := SV1.lt
  have VL2 := SV2.lt
  have VL3 := SV3.lt
  have x0 : Z.cell? ⟨V2, 0, none⟩ = some (.int .i64 x) := (SV2.cell 0).trans rfl
  have x1 : Z.cell? ⟨V2, 1, none⟩ = some (.int .i64 y) := (SV2.cell 1).trans rfl
  have y0 : Z.cell? ⟨V3, 0, none⟩ = some (.int .i64 pcc) := (SV3.cell 0).trans rfl
  have y1 : Z.cell? ⟨V3, 1, none⟩ = some (.slice a5 pn c5) := (SV3.cell 1).trans rfl
  clear MSH HL HP H1 H2 HM H5 SV1 SV2 SV3 BZ l13 kb p6 cp m13 xb yb l5
  go_wp2_with fail
  simp only [← hZ, ← hV3]
  clear hZ hV3
  go_cut [75] (fun s75 wx => s75 = .bool false ∧ Below Z.heap.size Z wx)
  case first =>
    have OB : Hid (∀ wx : World, Below Z.heap.size Z wx → (wx.cell? ⟨V2, 0, none⟩ = some (.int .i64 x) ∧ wx.cell? ⟨V2, 1, none⟩ = some (.int .i64 y)) ∧ (wx.cell? ⟨V3, 0, none⟩ = some (.int .i64 pcc) ∧ wx.cell? ⟨V3, 1, none⟩ = some (.slice a5 pn c5))) := fun wx h => ⟨⟨(h.cell (p := ⟨V2, 0, none⟩) VL2).trans x0, (h.cell (p := ⟨V2, 1, none⟩) VL2).trans x1⟩, (h.cell (p := ⟨V3, 0, none⟩) VL3).trans y0, (h.cell (p := ⟨V3, 1, none⟩) VL3).trans y1⟩
    have DE : Below Z.heap.size Z Z.drew := (Below.refl _ _).drew
    clear x0 x1 y0 y1 LCH MS DI
    by_cases hpc : pcc = 0
    case pos =>
      obtain ⟨e1, e2, e3⟩ := PF.out hpc
      subst hpc e1 e2 e3
      have r0 : ∀ wx : World, Below Z.heap.size Z wx → wx.cell? ⟨V2, 0, none⟩ = some (.int .i64 x) := fun wx h => (OB.out _ h).1.1
      have r1 : ∀ wx : World, Below Z.heap.size Z wx → wx.cell? ⟨V2, 1, none⟩ = some (.int .i64 f2) := fun wx h => (OB.out _ h).1.2
      have r2 : ∀ wx : World, Below Z.heap.size Z wx → wx.cell? ⟨V3, 0, none⟩ = some (.int .i64 0) := fun wx h => (OB.out _ h).2.1
      have r3 : ∀ wx : World, Below Z.heap.size Z wx → wx.cell? ⟨V3, 1, none⟩ = some (.slice a5 pn c5) := fun wx h => (OB.out _ h).2.2
      go_region_held3 (fun wx => Below Z.heap.size Z wx)
        ((first | exact DE | exact D1 | assumption))
        ((first | (go_at_call 30; refine (PS.out _ (by assumption)).mono ?_; rintro _ ua ⟨j1, j2, rfl, hba⟩; have D1 : Below Z.heap.size Z ua := Below.trans (by assumption) (hba.mono (Below.size (by assumption)))) | (go_at_call 20; refine (FI.out _ (by assumption)).mono ?_; rintro _ ua ⟨rfl, hba⟩; have D1 : Below Z.heap.size Z ua := Below.trans (by assumption) (hba.mono (Below.size (by assumption)))) | (go_at_call 22; refine (D5.out _ (by assumption)).mono ?_; rintro _ ua ⟨rfl, hba⟩; have D1 : Below Z.heap.size Z ua := Below.trans (by assumption) (hba.mono (Below.size (by assumption)))) | fail))
      go_wp2_with fail
      go_meet
      exact ⟨rfl, D1⟩
    case neg =>
      have hpb : (pcc == 0) = false := by simpa using hpc
      clear hpc PF FI D5
      refine wp_region_noPanic ?_
      refine wp_region_held_drew (S := fun u => Below Z.heap.size Z u) (by kernel_rfl) DE (fun hs => ?_)
      refine take_at (i := 0) (d := some 38) (v := ?mv1) rfl rfl (by kernel_rfl) (by kernel_rfl) (by kernel_rfl) (fun _ _ _ h => h) (Or.inl ⟨by rfl, ?my1⟩) hs ?mg1
      case my1 => (intro z hSz; (obtain ⟨⟨e0, e1⟩, ⟨e2, e3⟩⟩ := OB.out _ hSz); go_simp; (try with_reducible rfl))
      try simp only [Act.put, List.setIfInBounds_toArray, List.set_cons_zero, List.set_cons_succ]
      refine take_at (i := 1) (d := some 39) (v := ?mv2) rfl rfl (by kernel_rfl) (by kernel_rfl) (by kernel_rfl) (fun _ _ _ h => h) (Or.inl ⟨by rfl, ?my2⟩) hs ?mg2
      case my2 => (intro z hSz; (obtain ⟨⟨e0, e1⟩, ⟨e2, e3⟩⟩ := OB.out _ hSz); go_simp; (try with_reducible rfl))
      try simp only [Act.put, List.setIfInBounds_toArray, List.set_cons_zero, List.set_cons_succ]
      refine take_at (i := 2) (d := some 40) (v := ?mv3) rfl rfl (by kernel_rfl) (by kernel_rfl) (by kernel_rfl) (fun _ _ _ h => h) (Or.inl ⟨by rfl, ?my3⟩) hs ?mg3
      case my3 => (intro z hSz; (obtain ⟨⟨e0, e1⟩, ⟨e2, e3⟩⟩ := OB.out _ hSz); go_simp; (try with_reducible rfl))
      try simp only [Act.put, List.setIfInBounds_toArray, List.set_cons_zero, List.set_cons_succ]
      refine take_at (i := 3) (d := some 41) (v := ?mv4) rfl rfl (by kernel_rfl) (by kernel_rfl) (by kernel_rfl) (fun _ _ _ h => h) (Or.inl ⟨by rfl, ?my4⟩) hs ?mg4
      case my4 => (intro z hSz; (obtain ⟨⟨e0, e1⟩, ⟨e2, e3⟩⟩ := OB.out _ hSz); go_simp; (try with_reducible rfl))
      try simp only [Act.put, List.setIfInBounds_toArray, List.set_cons_zero, List.set_cons_succ]
      refine wpAnyH_ready (rs := [4]) (by kernel_rfl) (by simp) ?_
      refine AllReadyH.cons rfl (fun K' hK' => ?_) AllReadyH.nil
      go_simp
      refine (PS.out _ hs).mono ?_
      rintro _ ua ⟨j1, j2, rfl, hba⟩
      refine hK'.out _ _ (hs.trans (hba.mono hs.size)) (fun hs => ?_)
      clear hK' K'
      try simp only [Act.put, List.setIfInBounds_toArray, List.set_cons_zero, List.set_cons_succ]
      refine take_at (i := 5) (d := some 43) (v := ?mv5) rfl rfl (by kernel_rfl) (by kernel_rfl) (by kernel_rfl) (fun _ _ _ h => h) (Or.inl ⟨by rfl, ?my5⟩) hs ?mg5
      case my5 => (intro z hSz; (obtain ⟨⟨e0, e1⟩, ⟨e2, e3⟩⟩ := OB.out _ hSz); go_simp; (try with_reducible rfl))
      try simp only [Act.put, List.setIfInBounds_toArray, List.set_cons_zero, List.set_cons_succ]
      refine take_at (i := 6) (d := some 44) (v := ?mv6) rfl rfl (by kernel_rfl) (by kernel_rfl) (by kernel_rfl) (fun _ _ _ h => h) (Or.inl ⟨by rfl, ?my6⟩) hs ?mg6
      case my6 => (intro z hSz; (obtain ⟨⟨e0, e1⟩, ⟨e2, e3⟩⟩ := OB.out _ hSz); go_simp; (try with_reducible rfl))
      try simp only [Act.put, List.setIfInBounds_toArray, List.set_cons_zero, List.set_cons_succ]
      refine take_at (i := 7) (d := some 45) (v := ?mv7) rfl rfl (by kernel_rfl) (by kernel_rfl) (by kernel_rfl) (fun _ _ _ h => h) (Or.inl ⟨by rfl, ?my7⟩) hs ?mg7
      case my7 => (intro z hSz; (obtain ⟨⟨e0, e1⟩, ⟨e2, e3⟩⟩ := OB.out _ hSz); go_simp; (try with_reducible rfl))
      try simp only [Act.put, List.setIfInBounds_toArray, List.set_cons_zero, List.set_cons_succ]
      refine take_at (i := 8) (d := some 46) (v := ?mv8) rfl rfl (by kernel_rfl) (by kernel_rfl) (by kernel_rfl) (fun _ _ _ h => h) (Or.inl ⟨by rfl, ?my8⟩) hs ?mg8
      case my8 => (intro z hSz; (obtain ⟨⟨e0, e1⟩, ⟨e2, e3⟩⟩ := OB.out _ hSz); go_simp; (try with_reducible rfl))
      try simp only [Act.put, List.setIfInBounds_toArray, List.set_cons_zero, List.set_cons_succ]
      refine take_at (i := 9) (d := some 47) (v := ?mv9) rfl rfl (by kernel_rfl) (by kernel_rfl) (by kernel_rfl) (fun _ _ _ h => h) (Or.inl ⟨by rfl, ?my9⟩) hs ?mg9
      case my9 => (intro z hSz; (obtain ⟨⟨e0, e1⟩, ⟨e2, e3⟩⟩ := OB.out _ hSz); go_simp; (try with_reducible rfl))
      try simp only [Act.put, List.setIfInBounds_toArray, List.set_cons_zero, List.set_cons_succ]
      refine take_at (i := 10) (d := some 48) (v := ?mv10) rfl rfl (by kernel_rfl) (by kernel_rfl) (by kernel_rfl) (fun _ _ _ h => h) (Or.inl ⟨by rfl, ?my10⟩) hs ?mg10
      case my10 => (intro z hSz; (obtain ⟨⟨e0, e1⟩, ⟨e2, e3⟩⟩ := OB.out _ hSz); go_simp; (try with_reducible rfl))
      try simp only [Act.put, List.setIfInBounds_toArray, List.set_cons_zero, List.set_cons_succ]
      refine take_at (i := 11) (d := some 49) (v := ?mv11) rfl rfl (by kernel_rfl) (by kernel_rfl) (by kernel_rfl) (fun _ _ _ h => h) (Or.inl ⟨by rfl, ?my11⟩) hs ?mg11
      case my11 => (intro z hSz; (obtain ⟨⟨e0, e1⟩, ⟨e2, e3⟩⟩ := OB.out _ hSz); go_simp; (try with_reducible rfl))
      try simp only [Act.put, List.setIfInBounds_toArray, List.set_cons_zero, List.set_cons_succ]
      refine take_at (i := 12) (d := some 50) (v := undef) rfl rfl (by kernel_rfl) (by kernel_rfl) (by kernel_rfl) (fun _ _ _ h => h) (Or.inr ⟨by rfl, rfl⟩) hs ?_
      try simp only [Act.put, List.setIfInBounds_toArray, List.set_cons_zero, List.set_cons_succ]
      refine take_at (i := 13) (d := some 51) (v := undef) rfl rfl (by kernel_rfl) (by kernel_rfl) (by kernel_rfl) (fun _ _ _ h => h) (Or.inr ⟨by rfl, rfl⟩) hs ?_
      try simp only [Act.put, List.setIfInBounds_toArray, List.set_cons_zero, List.set_cons_succ]
      refine take_at (i := 14) (d := some 52) (v := undef) rfl rfl (by kernel_rfl) (by kernel_rfl) (by kernel_rfl) (fun _ _ _ h => h) (Or.inr ⟨by rfl, rfl⟩) hs ?_
      try simp only [Act.put, List.setIfInBounds_toArray, List.set_cons_zero, List.set_cons_succ]
      refine take_at (i := 15) (d := some 53) (v := undef) rfl rfl (by kernel_rfl) (by kernel_rfl) (by kernel_rfl) (fun _ _ _ h => h) (Or.inr ⟨by rfl, rfl⟩) hs ?_
      try simp only [Act.put, List.setIfInBounds_toArray, List.set_cons_zero, List.set_cons_succ]
      refine take_at (i := 16) (d := some 54) (v := undef) rfl rfl (by kernel_rfl) (by kernel_rfl) (by kernel_rfl) (fun _ _ _ h => h) (Or.inr ⟨by rfl, rfl⟩) hs ?_
      try simp only [Act.put, List.setIfInBounds_toArray, List.set_cons_zero, List.set_cons_succ]
      refine take_at (i := 17) (d := some 55) (v := undef) rfl rfl (by kernel_rfl) (by kernel_rfl) (by kernel_rfl) (fun _ _ _ h => h) (Or.inr ⟨by rfl, rfl⟩) hs ?_
      try simp only [Act.put, List.setIfInBounds_toArray, List.set_cons_zero, List.set_cons_succ]
      refine take_at (i := 18) (d := some 56) (v := undef) rfl rfl (by kernel_rfl) (by kernel_rfl) (by kernel_rfl) (fun _ _ _ h => h) (Or.inr ⟨by rfl, rfl⟩) hs ?_
      try simp only [Act.put, List.setIfInBounds_toArray, List.set_cons_zero, List.set_cons_succ]
      refine take_at (i := 19) (d := some 57) (v := undef) rfl rfl (by kernel_rfl) (by kernel_rfl) (by kernel_rfl) (fun _ _ _ h => h) (Or.inr ⟨by rfl, rfl⟩) hs ?_
      try simp only [Act.put, List.setIfInBounds_toArray, List.set_cons_zero, List.set_cons_succ]
      refine take_at (i := 20) (d := some 58) (v := undef) rfl rfl (by kernel_rfl) (by kernel_rfl) (by kernel_rfl) (fun _ _ _ h => h) (Or.inr ⟨by rfl, rfl⟩) hs ?_
      try simp only [Act.put, List.setIfInBounds_toArray, List.set_cons_zero, List.set_cons_succ]
      refine take_at (i := 21) (d := some 59) (v := undef) rfl rfl (by kernel_rfl) (by kernel_rfl) (by kernel_rfl) (fun _ _ _ h => h) (Or.inr ⟨by rfl, rfl⟩) hs ?_
      try simp only [Act.put, List.setIfInBounds_toArray, List.set_cons_zero, List.set_cons_succ]
      refine take_at (i := 22) (d := some 60) (v := undef) rfl rfl (by kernel_rfl) (by kernel_rfl) (by kernel_rfl) (fun _ _ _ h => h) (Or.inr ⟨by rfl, rfl⟩) hs ?_
      try simp only [Act.put, List.setIfInBounds_toArray, List.set_cons_zero, List.set_cons_succ]
      refine take_at (i := 23) (d := some 61) (v := undef) rfl rfl (by kernel_rfl) (by kernel_rfl) (by kernel_rfl) (fun _ _ _ h => h) (Or.inr ⟨by rfl, rfl⟩) hs ?_
      try simp only [Act.put, List.setIfInBounds_toArray, List.set_cons_zero, List.set_cons_succ]
      refine take_at (i := 24) (d := some 62) (v := undef) rfl rfl (by kernel_rfl) (by kernel_rfl) (by kernel_rfl) (fun _ _ _ h => h) (Or.inr ⟨by rfl, rfl⟩) hs ?_
      try simp only [Act.put, List.setIfInBounds_toArray, List.set_cons_zero, List.set_cons_succ]
      refine take_at (i := 25) (d := some 63) (v := undef) rfl rfl (by kernel_rfl) (by kernel_rfl) (by kernel_rfl) (fun _ _ _ h => h) (Or.inr ⟨by rfl, rfl⟩) hs ?_
      try simp only [Act.put, List.setIfInBounds_toArray, List.set_cons_zero, List.set_cons_succ]
      refine take_at (i := 26) (d := some 64) (v := undef) rfl rfl (by kernel_rfl) (by kernel_rfl) (by kernel_rfl) (fun _ _ _ h => h) (Or.inr ⟨by rfl, rfl⟩) hs ?_
      try simp only [Act.put, List.setIfInBounds_toArray, List.set_cons_zero, List.set_cons_succ]
      refine take_at (i := 27) (d := some 65) (v := undef) rfl rfl (by kernel_rfl) (by kernel_rfl) (by kernel_rfl) (fun _ _ _ h => h) (Or.inr ⟨by rfl, rfl⟩) hs ?_
      try simp only [Act.put, List.setIfInBounds_toArray, List.set_cons_zero, List.set_cons_succ]
      refine take_at (i := 28) (d := some 66) (v := undef) rfl rfl (by kernel_rfl) (by kernel_rfl) (by kernel_rfl) (fun _ _ _ h => h) (Or.inr ⟨by rfl, rfl⟩) hs ?_
      try simp only [Act.put, List.setIfInBounds_toArray, List.set_cons_zero, List.set_cons_succ]
      refine take_at (i := 29) (d := some 67) (v := undef) rfl rfl (by kernel_rfl) (by kernel_rfl) (by kernel_rfl) (fun _ _ _ h => h) (Or.inr ⟨by rfl, rfl⟩) hs ?_
      try simp only [Act.put, List.setIfInBounds_toArray, List.set_cons_zero, List.set_cons_succ]
      refine take_at (i := 30) (d := some 68) (v := undef) rfl rfl (by kernel_rfl) (by kernel_rfl) (by kernel_rfl) (fun _ _ _ h => h) (Or.inr ⟨by rfl, rfl⟩) hs ?_
      try simp only [Act.put, List.setIfInBounds_toArray, List.set_cons_zero, List.set_cons_succ]
      refine take_at (i := 31) (d := some 69) (v := undef) rfl rfl (by kernel_rfl) (by kernel_rfl) (by kernel_rfl) (fun _ _ _ h => h) (Or.inr ⟨by rfl, rfl⟩) hs ?_
      try simp only [Act.put, List.setIfInBounds_toArray, List.set_cons_zero, List.set_cons_succ]
      refine take_at (i := 32) (d := some 70) (v := undef) rfl rfl (by kernel_rfl) (by kernel_rfl) (by kernel_rfl) (fun _ _ _ h => h) (Or.inr ⟨by rfl, rfl⟩) hs ?_
      try simp only [Act.put, List.setIfInBounds_toArray, List.set_cons_zero, List.set_cons_succ]
      refine take_at (i := 33) (d := some 71) (v := undef) rfl rfl (by kernel_rfl) (by kernel_rfl) (by kernel_rfl) (fun _ _ _ h => h) (Or.inr ⟨by rfl, rfl⟩) hs ?_
      try simp only [Act.put, List.setIfInBounds_toArray, List.set_cons_zero, List.set_cons_succ]
      refine take_at (i := 34) (d := some 72) (v := undef) rfl rfl (by kernel_rfl) (by kernel_rfl) (by kernel_rfl) (fun _ _ _ h => h) (Or.inr ⟨by rfl, rfl⟩) hs ?_
      try simp only [Act.put, List.setIfInBounds_toArray, List.set_cons_zero, List.set_cons_succ]
      refine take_at (i := 35) (d := some 73) (v := undef) rfl rfl (by kernel_rfl) (by kernel_rfl) (by kernel_rfl) (fun _ _ _ h => h) (Or.inr ⟨by rfl, rfl⟩) hs ?_
      try simp only [Act.put, List.setIfInBounds_toArray, List.set_cons_zero, List.set_cons_succ]
      refine take_at (i := 36) (d := some 74) (v := ?mv12) rfl rfl (by kernel_rfl) (by kernel_rfl) (by kernel_rfl) (fun _ _ _ h => h) (Or.inl ⟨by rfl, ?my12⟩) hs ?mg12
      case my12 => (intro z hSz; (obtain ⟨⟨e0, e1⟩, ⟨e2, e3⟩⟩ := OB.out _ hSz); go_simp; (try with_reducible rfl))
      try simp only [Act.put, List.setIfInBounds_toArray, List.set_cons_zero, List.set_cons_succ]
      refine take_at (i := 37) (d := some 75) (v := ?mv13) rfl rfl (by kernel_rfl) (by kernel_rfl) (by kernel_rfl) (fun _ _ _ h => h) (Or.inl ⟨by rfl, ?my13⟩) hs ?mg13
      case my13 => (intro z hSz; (obtain ⟨⟨e0, e1⟩, ⟨e2, e3⟩⟩ := OB.out _ hSz); go_simp; (try with_reducible rfl))
      try simp only [Act.put, List.setIfInBounds_toArray, List.set_cons_zero, List.set_cons_succ]
      refine wpAnyH_done (by kernel_rfl) (NoPanic.normal ?_) _
      go_wp2_with fail
      go_meet
      exact ⟨rfl, hs⟩
  case rest =>
    obtain ⟨rfl, hcb⟩ := hcut
    generalize wc = Y at *
    clear PS FI D5 PF q1 q2 x0 x1 y0 y1 VL2 VL3
    have BY : Below w.heap.size w Y := BZH.out.trans (hcb.mono BZH.out.size)
    have SY := SH1.out.below hcb VL1
    have m0 : Y.cell? ⟨V1, 0, none⟩ = some (.int .i64 cc) := (SY.cell 0).trans rfl
    have VY := SY.lt
    have YE : Hid (∀ u : World, Below Y.heap.size Y u → Below Z.heap.size Z u) := fun u hu => hcb.trans (hu.mono hcb.size)
    have WY : Hid (∀ u : World, Below Y.heap.size Y u → Below w.heap.size w u) := fun u hu => BY.trans (hu.mono BY.size)
    have SH2 : Hid (Blk Y V1 #[.int .i64 cc, .bool ff, .slice b1 ls.length i1, .slice b2 ms.length i2] 47) := SY
    clear BZH SH1 SY BY hcb VL1
    by_cases hc : cc = 0
    case neg =>
      have hcb : (cc != 0) = true := by simpa using hc
      have hcc : (cc == cc) = true := by simp
      have FQ := fldM3
      have d0 : ∀ wx : World, Below Y.heap.size Y wx → wx.cell? ⟨V1, 0, none⟩ = some (.int .i64 cc) := fun wx h => (h.cell (p := ⟨V1, 0, none⟩) VY).trans m0
      have DE : Below Y.heap.size Y Y.drew := (Below.refl _ _).drew
      clear TR FC LS KX hff htt DI LCH SH2 hc
      go_wp2_with fail
      go_region_held3 (fun wx => Below Y.heap.size Y wx)
        ((first | exact DE | exact D1 | assumption))
        ((first | (go_at_call 31; refine (MS.out _ (YE.out _ (by assumption))).mono ?_; rintro _ ua ⟨j1, j2, j3, j4, rfl, hba⟩; have D1 : Below Y.heap.size Y ua := Below.trans (by assumption) (hba.mono (Below.size (by assumption)))) | fail))
      go_wp2
      go_ret
      exact ⟨by first | rfl | simp, WY.out _ D1⟩
    case pos =>
      have hcz := hc
      subst hc
      have TR0 := TR.out rfl
      have FC0 := FC.out rfl
      have TRH : Hid (X = none → (tt = true ∧ fc = 0 ∧ fv = v) ∨ (tt = false ∧ fc = 4 ∧ fv = 0)) := TR0
      have FCH : Hid (fc = 0 ∨ fc = 4) := FC0
      clear TR FC TR0 FC0 MS hcz
      go_wp2_with fail
      refine (DI.out _ (YE.out _ (Below.refl _ _))).mono ?_
      rintro r u5 ⟨rfl, hb5⟩
      obtain ⟨T, hT⟩ : ∃ T, T = u5.alloc (.cells #[.int .i64 fc, .int .i64 fv] 34) := ⟨_, rfl⟩
      obtain ⟨V4, hV4⟩ : ∃ V, V = u5.heap.size := ⟨_, rfl⟩
      have SV4 : Blk T V4 #[.int .i64 fc, .int .i64 fv] 34 := by rw [hT, hV4]; exact Blk.new _ _ _
      have BT : Below Y.heap.size Y T := by rw [hT]; exact hb5.alloc hb5.size _
      have ST := SH2.out.below BT VY
      have n0 : T.cell? ⟨V4, 0, none⟩ = some (.int .i64 fc) := (SV4.cell 0).trans rfl
      have n1 : T.cell? ⟨V4, 1, none⟩ = some (.int .i64 fv) := (SV4.cell 1).trans rfl
      have g1 : T.cell? ⟨V1, 1, none⟩ = some (.bool ff) := (ST.cell 1).trans rfl
      have g2 : T.cell? ⟨V1, 2, none⟩ = some (.slice b1 ls.length i1) := (ST.cell 2).trans rfl
      have g3 : T.cell? ⟨V1, 3, none⟩ = some (.slice b2 ms.length i2) := (ST.cell 3).trans rfl
      have k1 := SV4.lt
      have k2 := ST.lt
      have W9 := WY.out _ BT
      have LC := LCH.out _ (YE.out _ BT)
      clear SV4 ST SH2 hb5 m0 VY DI WY YE LCH BT
      go_upto_region 12 with fail
      simp only [← hT, ← hV4]
      clear hT hV4
      cases ff with
      | false =>
        have hn := hff.out rfl
        clear hff htt LC LS KX
        rcases TRH.out hn with ⟨e1, e2, e3⟩ | ⟨e1, e2, e3⟩
        · subst e1 e2 e3
          have hv : (fv == fv) = true := by simp
          clear TRH FCH hn
          go_wp2
          go_ret
          exact ⟨rfl, W9⟩
        · subst e1 e2 e3
          clear TRH FCH hn
          go_wp2
          go_ret
          exact ⟨rfl, W9⟩
      | true =>
        obtain ⟨xx, hx⟩ := htt.out rfl
        have hcl := LS.out xx hx
        obtain ⟨j1, j2⟩ := KX.out xx hx
        subst j1 j2
        have FD : Hid (∀ u : World, Below T.heap.size T u → Calls Tryd.prog 32 #[.agg #[.bool true, .slice b1 xx.1.length i1, .slice b2 xx.2.length i2]] u fun r w' => r = .returned (.bool true) ∧ Below u.heap.size u w') := fun u hu => found_any hcl b1 b2 i1 i2 u (LC.1.below hu (Nat.le_refl _)) (LC.2.below hu (Nat.le_refl _))
        have FCC := FCH.out
        clear hcl hx LC hff htt LS KX TRH FCH
        cases tt with
        | true =>
          rcases FCC with e | e
          · subst e
            by_cases hv : fv = v
            · have hv' : (fv == v) = true := by simpa using hv
              clear hv
              go_wp2_with fail
              refine (FD.out _ (Below.refl _ _)).mono ?_
              rintro r u9 ⟨rfl, hb9⟩
              go_wp2
              go_ret
              exact ⟨rfl, W9.trans (hb9.mono W9.size)⟩
            · have hv' : (fv == v) = false := by simpa using hv
              clear hv
              go_wp2_with fail
              refine (FD.out _ (Below.refl _ _)).mono ?_
              rintro r u9 ⟨rfl, hb9⟩
              go_wp2
              go_ret
              exact ⟨rfl, W9.trans (hb9.mono W9.size)⟩
          · subst e
            go_wp2_with fail
            refine (FD.out _ (Below.refl _ _)).mono ?_
            rintro r u9 ⟨rfl, hb9⟩
            go_wp2
            go_ret
            exact ⟨rfl, W9.trans (hb9.mono W9.size)⟩
        | false =>
          rcases FCC with e | e
          · subst e
            go_wp2_with fail
            refine (FD.out _ (Below.refl _ _)).mono ?_
            rintro r u9 ⟨rfl, hb9⟩
            go_wp2
            go_ret
            exact ⟨rfl, W9.trans (hb9.mono W9.size)⟩
          · subst e
            go_wp2_with fail
            refine (FD.out _ (Below.refl _ _)).mono ?_
            rintro r u9 ⟨rfl, hb9⟩
            go_wp2
            go_ret
            exact ⟨rfl, W9.trans (hb9.mono W9.size)⟩

set_option maxRecDepth 100000 in
theorem fnMapTrue_lifted (os : Os) (started : os.Started) (H : Type) (enc : TypeId × Value → H) :
    ReturnsInHanded {} Tryd.checked os 4 .any (fun w args => (Rows.fnMapTrueSpec.pre enc Tryd.prog Tryd.f4 [] false w args ∧ laidMetH Tryd.prog [("loop.example/g00565/impl.pieceStarts", Rows.laid_loop_example_g00565_impl_pieceStarts)] w) ∧ sizedMet enc Tryd.prog Tryd.f4 (OpenSpec.ofChange Rows.fnMapTrueSpec) false w args) (Rows.fnMapTrueSpec.post enc Tryd.prog Tryd.f4 false true false false) := by
  refine returnsInHanded_of_change_and (C := Tryd.checked) (X := fun w _ => laidMetH Tryd.prog [("loop.example/g00565/impl.pieceStarts", Rows.laid_loop_example_g00565_impl_pieceStarts)] w) (fun _ _ _ hh h => h.of_heap hh) own started (by kernel_rfl) Tryd.func4
    (ChangeSpec.witness_shaped (enc := enc) (C := Tryd.checked) (os := os) (X := fun w _ => laidMetH Tryd.prog [("loop.example/g00565/impl.pieceStarts", Rows.laid_loop_example_g00565_impl_pieceStarts)] w) false (World.doorLaid Tryd.prog 400 os) #[.slice none 0 0] 8 rfl (World.shaped_of_RefB (by kernel_rfl) (by kernel_rfl)) (by kernel_rfl) (by kernel_rfl) (by kernel_rfl) (door_met os _)) ?_
  intro W base args ds gs before hval0 hW _ _ hL _
  have hval : ∀ (j : Nat) t v, Tryd.f4.params[j]? = some t → args[j]? = some v → Value.okWide Tryd.prog W .any base t v := hval0
  have hW' := hW
  obtain ⟨p, q, hA0, hV, rfl, hfz, hnd⟩ := hW
  have hA : DataW.TrodAll enc Tryd.prog W 0 (fun _ => true) true Tryd.f4.params.toList args.toList ds p := hA0
  rw [Tryd.params4] at hA hval
  obtain ⟨v0, vs0, d0, ds0, p0, q0, hargs, rfl, rfl, h0, r0⟩ := trodAll_cons hA
  obtain ⟨rfl, rfl, rfl⟩ := trodAll_nil r0
  obtain rfl : args = #[v0] := by cases args; simp_all
  obtain ⟨g, rfl⟩ : ∃ g, gs = [g] := by obtain ⟨_, _, _, _, d, _, e, _⟩ := trodVars_one hV; exact ⟨d, e⟩
  have g0 := h0
  have lt0 : ∀ x ∈ p0, x.block < W.heap.size := by obtain ⟨m, hm⟩ := g0; exact DataW.trod_lt m _ _ _ hm
  obtain ⟨a0, len0, cap0, rfl⟩ := okWide_slice Tryd.underlying22 (hval 0 22 v0 rfl rfl)
  obtain ⟨z0, w0⟩ : ∃ zs, IsRow .u8 W a0 len0 cap0 zs := by
    obtain ⟨fuel, hf⟩ := h0
    rcases open_ints Tryd.underlying22 Tryd.underlying5 (by kernel_rfl) hf with ⟨hcs, _⟩ | ⟨x, l, c, zs, hcs, _, hl, hm, hz, _, hcell, hwz⟩
    · simp [Value.cells] at hcs
      obtain ⟨rfl, rfl, rfl⟩ := hcs
      exact ⟨[], .inl ⟨rfl, rfl, rfl, rfl⟩⟩
    · simp [Value.cells] at hcs
      obtain ⟨rfl, rfl, rfl⟩ := hcs
      exact ⟨zs, .inr ⟨_, rfl, hl, hm, by simpa using hz, hcell, hwz⟩⟩
  clear hA0 hval0
  refine (fnMapTrue_walk W (tab_of_laid hL) a0 len0 cap0 z0 w0).mono fun e W' ⟨he, bel⟩ => ?_
  subst he
  exact ⟨_, rfl, _, _, _, [], _, _, hW', trodAll_mk1 (shut_bool Tryd.underlying4 _), (trodAll_cons_mk (Below.trod laidOut (by kernel_rfl) (of_decide_eq_true (by kernel_rfl)) g0 bel lt0) trodAll_mk0), Below.trodVars laidOut bel (by kernel_rfl) hV, bel.frame _, fun h => by cases h⟩

theorem fnMapTrue_row : Rows.FnMapTrueSaid :=
  OpenClaim.holds_of_wide 4 Tryd.f4 rfl rfl rfl rfl rfl rfl rfl ⟨rfl, rfl, rfl, rfl, rfl⟩ rfl rfl rfl rfl rfl (by kernel_rfl) Tryd.func4 (by kernel_rfl)
    (of_decide_eq_true (by kernel_rfl)) (by unfold Func.isWrapper; first | (rw [if_pos (by decide +kernel)]; kernel_rfl) | (rw [if_neg (by decide +kernel)]; exact ⟨rfl, rfl⟩))
    (fun os started H enc _ => fnMapTrue_lifted os started H enc)

theorem fnMapTrue_holds : Rows.FnMapTrueCardSaid :=
  Claim7.holds_tied_plain_at .later [] [.data] true Rows.fnMapTrueCard.stood.harness Rows.fnMapTrueCard.stood.looks
    fnMapTrue_row (fun _ h => by cases h) (by kernel_rfl) (fun _ h => by cases h) fnMapTrue_row_tie rfl ⟨rfl, rfl⟩ (by kernel_rfl) rfl
    (fun f fn hf hfn => by
      obtain rfl : f = 4 := Option.some.inj ((show Tryd.prog.funcNamed "loop.example/g00565/laws.FnMapTrue" = some 4 by kernel_rfl).symm.trans hf) |>.symm
      obtain rfl : fn = Tryd.f4 := (Option.some.inj (Tryd.func4.symm.trans hfn)).symm
      exact ⟨by kernel_rfl, fun j t ht => by
        rw [Tryd.params4] at ht
        have h3 : t = 22 := by
          match j, ht with
          | 0, ht => simp at ht; simp [← ht]
          | _ + 1, ht => simp at ht
        rcases h3 with rfl
        all_goals exact (show Tryd.prog.wantsStandIn _ = false by kernel_rfl)⟩)
    (by kernel_rfl)
#print axioms fnMapTrue_holds
end Go.Proofs.YtjjddjohckcmbaaDoor
