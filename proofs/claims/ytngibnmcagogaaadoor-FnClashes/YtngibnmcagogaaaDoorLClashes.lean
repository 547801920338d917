/- At every code the law FnClashes returns true: a clash is two pieces that are not the same, of one sum; the table that begins pieces starts as the program's text lays it. -/
import Derived.Test.YtngibnmcagogaaaDoorClashL
import Derived.Test.YtngibnmcagogaaaDoorMarkI
import Derived.Test.YtngibnmcagogaaaDoorBig
import Derived.Test.YtngibnmcagogaaaDoorKeep
import Derived.Deep.DeepCutAuto
import Derived.Deep.RegionHeld3
import Derived.Test.YtngibnmcagogaaaDoorMoves
import Derived.Test.YtngibnmcagogaaaDoorDoor
namespace Go.Proofs.YtngibnmcagogaaaDoor
open Go.ChangeShapes Go.WideShapes Go.ChangeAt Go.RowKit
set_option linter.unusedVariables false
set_option linter.unusedSimpArgs false

set_option maxRecDepth 100000 in
set_option maxHeartbeats 16000000 in
theorem fnClashes_walk (w : World) (hT : Tab w) (a0 : Option Addr) (len0 cap0 : Nat) (z0 : List Int) (w0 : IsRow .u8 w a0 len0 cap0 z0) :
    Calls Tryd.prog 3 #[.slice a0 len0 cap0] w fun e w' => e = .returned (.bool true) ∧ Below w.heap.size w w' := by
  have H0 := Has.of_row w0
  have hlen := H0.1
  generalize z0.take len0 = zs at H0 hlen
  subst hlen
  clear w0
  by_cases hbig : 1048576 < zs.length
  · go_enter Tryd.func3, Tryd.ntmps3
    go_wp2_with (go_at_call 11; refine (lwBig_yes _ _ _ _ hbig).mono ?_; rintro r u1 ⟨rfl, rfl⟩)
    go_ret
    exact ⟨rfl, Below.refl _ _⟩
  · have hsm : zs.length ≤ 1048576 := by omega
    go_enter Tryd.func3, Tryd.ntmps3
    have HC : Hid (HasIn w.heap.size w a0 zs) := ⟨H0.2.1, H0.2.2⟩
    have HT : Hid (Tab w) := hT
    clear hT
    go_wp2_with (first | (go_at_call 11; refine (lwBig_no _ _ _ _ hsm).mono ?_; rintro r wu0 ⟨rfl, hu0⟩; rw [hu0]; clear hu0))
    refine (drawIsClash_any _ a0 zs.length cap0 zs H0 hsm).mono ?_
    rintro r wu1 ⟨f, a1, a2, c1, c2, xs, ys, rfl, X, Y, hlx, hly, hb1⟩
    have s1 := hb1.size
    go_wp2_with fail
    refine (implIsClash_any f a1 a2 c1 c2 xs ys _ (X.alloc _) (Y.alloc _) (by omega) (by omega)).mono ?_
    rintro r wu2 ⟨rfl, hb2⟩
    have s2 := hb2.size
    simp at s2
    have C2 := (Box.new wu1 f a1 a2 xs.length c1 ys.length c2 25).below hb2 (by simp)
    have B2 : Below w.heap.size w wu2 := (hb1.alloc (by omega) (.cells #[.bool f, .slice a1 xs.length c1, .slice a2 ys.length c2] 25)).trans (hb2.mono (by simp; omega))
    have E2 : Below wu1.heap.size wu1 wu2 := ((Below.refl _ _).alloc (Nat.le_refl _) (.cells #[.bool f, .slice a1 xs.length c1, .slice a2 ys.length c2] 25)).trans (hb2.mono (by simp))
    clear hb2
    go_wp2_with fail
    refine (drawLeafBytes_any _ a0 zs.length cap0 zs ((HC.out.below B2).has (by omega)) hsm).mono ?_
    rintro r wu3 ⟨a3, c3, ds, rfl, D3, hld, hb3⟩
    have s3 := hb3.size
    have C3 := C2.below hb3 (by omega)
    have B3 : Below w.heap.size w wu3 := B2.trans (hb3.mono (by omega))
    have E3 := E2.trans (hb3.mono (by omega))
    clear hb3 C2 B2 E2
    have hcl := leafC_cases ds
    have W4 := leafB_wf D3.2.1
    have hL4 : (leafB ds).length ≤ 2000 := by unfold leafB; split <;> simp [leafL]; omega
    have LS : Hid (leafC ds = 0 → leafV ds = sumV (leafB ds)) := leaf_sum
    go_wp2_with fail
    refine (implLeafBytes_any a3 c3 ds _ (HT.out.below B3 (Nat.le_refl _)) D3).mono ?_
    rintro r wu4 ⟨b4, e4, rfl, O4, hb4⟩
    have s4 := hb4.size
    have C4 := C3.below hb4 (by omega)
    have D4 := D3.below hb4 (Nat.le_refl _)
    have L4 := has_of_own O4 W4
    have B4 : Below w.heap.size w wu4 := B3.trans (hb4.mono (by omega))
    have E4 := E3.trans (hb4.mono (by omega))
    clear hb4 C3 D3 B3 E3 O4
    go_wp2_with fail
    refine (drawNodeBytes_any _ a0 zs.length cap0 zs ((HC.out.below (B4.alloc (by omega) _)).has (by simp; omega)) hsm).mono ?_
    rintro r wu5 ⟨x, y, rfl, hb5⟩
    have s5 := hb5.size
    simp at s5
    have G5 : Below wu4.heap.size wu4 wu5 := ((Below.refl _ _).alloc (Nat.le_refl _) (.cells #[.int .i64 (leafC ds), .slice b4 (leafB ds).length e4] 30)).trans (hb5.mono (by simp))
    have V5 := (VarAt.new wu4 (leafC ds) b4 (leafB ds).length e4 30).below hb5 (by simp)
    have C5 := C4.below G5 (by omega)
    have D5 := D4.below G5 (Nat.le_refl _)
    have L5 := L4.below G5 (Nat.le_refl _)
    have B5 : Below w.heap.size w wu5 := B4.trans (G5.mono (by omega))
    have E5 := E4.trans (G5.mono (by omega))
    clear hb5 C4 D4 L4 B4 E4 G5
    have hcn := nodeC_cases x y
    have NS : Hid (nodeC x y = 0 → nodeV x y = sumV (nodeB x y) ∧ (nodeB x y).length = 5) := node_sum
    have LN : Hid (leafC ds = 0 → nodeC x y = 0 → decide (leafB ds = nodeB x y) = false) := leaf_node
    have hN5 : (nodeB x y).length ≤ 2000 := by unfold nodeB; split <;> simp [nodeL]
    go_wp2_with fail
    refine (implNodeBytes_any x y _ (HT.out.below B5 (Nat.le_refl _))).mono ?_
    rintro r wu6 ⟨b6, e6, rfl, O6, hb6⟩
    have s6 := hb6.size
    have N6 := has_of_own O6 (nodeB_wf x y)
    have V6 := V5.below hb6 (by omega)
    have C6 := C5.below hb6 (by omega)
    have D6 := D5.below hb6 (Nat.le_refl _)
    have L6 := L5.below hb6 (Nat.le_refl _)
    have B6 : Below w.heap.size w wu6 := B5.trans (hb6.mono (by omega))
    have E6 := E5.trans (hb6.mono (by omega))
    clear hb6 C5 D5 L5 B5 E5 O6 V5
    go_wp2_with fail
    refine (drawSlotSum_any _ a0 zs.length cap0 zs ((HC.out.below (B6.alloc (by omega) _)).has (by simp; omega)) hsm).mono ?_
    rintro r wu7 ⟨k, v, rfl, hb7⟩
    have s7 := hb7.size
    simp at s7
    have G7 : Below wu6.heap.size wu6 wu7 := ((Below.refl _ _).alloc (Nat.le_refl _) (.cells #[.int .i64 (nodeC x y), .slice b6 (nodeB x y).length e6] 30)).trans (hb7.mono (by simp))
    have M7 := (VarAt.new wu6 (nodeC x y) b6 (nodeB x y).length e6 30).below hb7 (by simp)
    have V7 := V6.below G7 (by omega)
    have C7 := C6.below G7 (by omega)
    have D7 := D6.below G7 (Nat.le_refl _)
    have L7 := L6.below G7 (Nat.le_refl _)
    have N7 := N6.below G7 (Nat.le_refl _)
    have B7 : Below w.heap.size w wu7 := B6.trans (G7.mono (by omega))
    have E7 := E6.trans (G7.mono (by omega))
    have X7 := X.below E7 (Nat.le_refl _)
    have Y7 := Y.below E7 (Nat.le_refl _)
    have T7 := HT.out.below B7 (Nat.le_refl _)
    clear hb7 C6 D6 L6 N6 B6 E6 V6 G7 E7 X Y HT HC H0 hb1
    have hp : wu1.heap.size < wu7.heap.size := by omega
    have hq : wu4.heap.size < wu7.heap.size := by omega
    have hr : wu6.heap.size < wu7.heap.size := by omega
    have hw7 : w.heap.size ≤ wu7.heap.size := by omega
    clear s1 s2 s3 s4 s5 s6 s7
    have KLB : Hid (_) := fun (z : World) (h : Has z .u8 a3 ds.length ds) => specLeafBytes_any a3 c3 ds z h
    have KLS : Hid (_) := fun (z : World) (t : Tab z) (h : Has z .u8 a3 ds.length ds) => implLeafSum_any a3 c3 ds z t h
    have KNB : Hid (_) := fun (z : World) => specNodeBytes_any x y z
    have KNS : Hid (_) := fun (z : World) (t : Tab z) => implNodeSum_any x y z t
    generalize leafC ds = lc at *
    generalize leafV ds = lv at *
    generalize nodeV x y = nv at *
    generalize nodeC x y = nc at *
    generalize leafB ds = lb at *
    generalize nodeB x y = nb at *
    generalize wu1.heap.size = p at *
    generalize wu4.heap.size = q at *
    generalize wu6.heap.size = r at *
    generalize wu7 = W at *
    have hnew : Nonempty (KeptW W) := ⟨⟨W, Below.refl _ _⟩⟩
    have SL := fun d : KeptW W => implSlotSum_any k v d.wd (T7.below d.hb (Nat.le_refl _))
    have SS := fun d : KeptW W => specSlotSum_any k v d.wd
    generalize slotC k v = sc at SL SS
    generalize slotV k v = sv at SL SS
    have SLH : Hid (_) := SL
    have SSH : Hid (_) := SS
    have SI := fun d : KeptW W => specIsClash_any f a1 a2 c1 c2 xs ys d.wd (X7.below d.hb (Nat.le_refl _)) (Y7.below d.hb (Nat.le_refl _)) (by omega) (by omega)
    have LW : ∀ d : KeptW W, Calls Tryd.prog 20 #[.slice a1 xs.length c1, .slice a2 ys.length c2] d.wd fun r w' => r = .returned (.bool (decide (xs = ys))) ∧ Below d.wd.heap.size d.wd w' := fun d => (lwBytes_any a1 a2 c1 c2 xs ys d.wd (X7.below d.hb (Nat.le_refl _)) (Y7.below d.hb (Nat.le_refl _))).mono (fun r w' ⟨h1, h2⟩ => ⟨h1, by rw [h2]; exact Below.refl _ _⟩)
    have S1 := fun d : KeptW W => implSumOf_any a1 c1 xs d.wd (X7.below d.hb (Nat.le_refl _)) (by omega)
    have S2 := fun d : KeptW W => implSumOf_any a2 c2 ys d.wd (Y7.below d.hb (Nat.le_refl _)) (by omega)
    have hCT := clash_true (f := f) (xs := xs) (ys := ys)
    have k0 := KeptW.cell C7.c0 hp
    have k1 := KeptW.cell C7.c1 hp
    have k2 := KeptW.cell C7.c2 hp
    have hsc : (sc != sc) = false := by simp
    have hsv : (sv != sv) = false := by simp
    have i0 := fldI0
    have i1 := fldI1
    clear C7 SL SS X7 Y7
    go_wp2_with fail
    go_cut [4, 88] (fun s4 s88 wx => s88 = .bool false ∧ Below W.heap.size W wx)
    case first =>
      generalize isClashB f xs ys = I at SI hCT ⊢
      cases I
      · have SIH : Hid (_) := SI
        clear SI LW S1 S2 hCT
        refine wp_region_kept (by kernel_rfl) (by kernel_rfl) ?_
        iterate 54 (go_big_quiet_step ((first | (go_at_call 19; first | exact KeptW.calls (SIH.out _)) | (go_at_call 22; first | exact KeptW.calls (SLH.out _)) | (go_at_call 23; first | exact KeptW.calls (SSH.out _)))))
        refine wpQuiet_nil ?_
        rintro _ ⟨d1, rfl⟩
        go_wp2_with fail
        go_meet
        exact ⟨rfl, d1.hb⟩
      · obtain ⟨h1, h2, h3⟩ := hCT rfl
        rw [h1] at LW
        rw [h3] at S1
        rw [← h2] at S2
        generalize sumV xs = V at S1 S2
        have hVV : (V != V) = false := by simp
        have SIH : Hid (_) := SI
        have LWH : Hid (_) := LW
        have S1H : Hid (_) := S1
        have S2H : Hid (_) := S2
        clear SI LW S1 S2 hCT h1 h2 h3
        refine wp_region_kept (by kernel_rfl) (by kernel_rfl) ?_
        iterate 54 (go_big_quiet_step ((first | (go_at_call 19; first | exact KeptW.calls (SIH.out _)) | (go_at_call 20; first | exact KeptW.calls (LWH.out _)) | (go_at_call_of 21 (Value.slice a1 xs.length c1); exact KeptW.calls (S1H.out _)) | (go_at_call_of 21 (Value.slice a2 ys.length c2); exact KeptW.calls (S2H.out _)) | (go_at_call 22; first | exact KeptW.calls (SLH.out _)) | (go_at_call 23; first | exact KeptW.calls (SSH.out _)))))
        refine wpQuiet_nil ?_
        rintro _ ⟨d1, rfl⟩
        go_wp2_with fail
        go_meet
        exact ⟨rfl, d1.hb⟩
    case rest =>
      obtain ⟨rfl, hcb⟩ := hcut
      generalize wc = Z at *
      have hzc := hcb.size
      have VW := V7.below hcb hq
      have MW := M7.below hcb hr
      have DW := D7.below hcb (Nat.le_refl _)
      have LW' := L7.below hcb (Nat.le_refl _)
      have NW := N7.below hcb (Nat.le_refl _)
      have TW := T7.below hcb (Nat.le_refl _)
      have BW := B7.trans (hcb.mono hw7)
      have hq' : q < Z.heap.size := by omega
      have hr' : r < Z.heap.size := by omega
      have hw' : w.heap.size ≤ Z.heap.size := by omega
      clear V7 M7 D7 L7 N7 T7 B7 hcb hq hr hw7 hp hnew SLH SSH SI LW S1 S2 hCT k0 k1 k2 hsc hsv i1
      obtain ⟨v0, v1⟩ := VW
      obtain ⟨m0, m1⟩ := MW
      have hnn : (nc != nc) = false := by simp
      have b0 := fldB0
      have i1 := fldI1
      have VV : Hid (VarAt Z q lc b4 lb.length e4) := ⟨v0, v1⟩
      have MM : Hid (VarAt Z r nc b6 nb.length e6) := ⟨m0, m1⟩
      have DH : Hid (Has Z .u8 a3 ds.length ds) := DW
      have LH : Hid (Has Z .u8 b4 lb.length lb) := LW'
      have NH : Hid (Has Z .u8 b6 nb.length nb) := NW
      have TH : Hid (Tab Z) := TW
      have BH : Hid (Below w.heap.size w Z) := BW
      have KSU : Hid (_) := fun (z : World) (h : Has z .u8 b4 lb.length lb) => implSumOf_any b4 e4 lb z h (by omega)
      clear DW LW' NW TW BW
      go_wp2_with fail
      go_cut [124] (fun s124 wx => s124 = .bool false ∧ Below Z.heap.size Z wx)
      case first =>
        rcases hcl with rfl | rfl
        · have hlv := LS.out rfl
          subst hlv
          generalize sumV lb = V at *
          have hVV : (V != V) = false := by simp
          have KS : ∀ wx : World, Below Z.heap.size Z wx → wx.cell? ⟨q, 0, none⟩ = some (.int .i64 0) ∧ wx.cell? ⟨q, 1, none⟩ = some (.slice b4 lb.length e4) ∧ wx.cell? ⟨r, 0, none⟩ = some (.int .i64 nc) ∧ Z.heap.size ≤ wx.heap.size ∧ Below Z.heap.size Z wx := fun wx h => ⟨(h.cell (p := ⟨q, 0, none⟩) hq').trans v0, (h.cell (p := ⟨q, 1, none⟩) hq').trans v1, (h.cell (p := ⟨r, 0, none⟩) hr').trans m0, h.size, h⟩
          have KT : ∀ wx wy : World, (wx.cell? ⟨q, 0, none⟩ = some (.int .i64 0) ∧ wx.cell? ⟨q, 1, none⟩ = some (.slice b4 lb.length e4) ∧ wx.cell? ⟨r, 0, none⟩ = some (.int .i64 nc) ∧ Z.heap.size ≤ wx.heap.size ∧ Below Z.heap.size Z wx) → Below wx.heap.size wx wy → wy.cell? ⟨q, 0, none⟩ = some (.int .i64 0) ∧ wy.cell? ⟨q, 1, none⟩ = some (.slice b4 lb.length e4) ∧ wy.cell? ⟨r, 0, none⟩ = some (.int .i64 nc) ∧ Z.heap.size ≤ wy.heap.size ∧ Below Z.heap.size Z wy := fun wx wy h k => KS wy (h.2.2.2.2.trans (k.mono h.2.2.2.1))
          have KD : ∀ wx : World, (wx.cell? ⟨q, 0, none⟩ = some (.int .i64 0) ∧ wx.cell? ⟨q, 1, none⟩ = some (.slice b4 lb.length e4) ∧ wx.cell? ⟨r, 0, none⟩ = some (.int .i64 nc) ∧ Z.heap.size ≤ wx.heap.size ∧ Below Z.heap.size Z wx) → Has wx .u8 a3 ds.length ds := fun wx h => DH.out.below h.2.2.2.2 (Nat.le_refl _)
          have KL : ∀ wx : World, (wx.cell? ⟨q, 0, none⟩ = some (.int .i64 0) ∧ wx.cell? ⟨q, 1, none⟩ = some (.slice b4 lb.length e4) ∧ wx.cell? ⟨r, 0, none⟩ = some (.int .i64 nc) ∧ Z.heap.size ≤ wx.heap.size ∧ Below Z.heap.size Z wx) → Has wx .u8 b4 lb.length lb := fun wx h => LH.out.below h.2.2.2.2 (Nat.le_refl _)
          have KB : ∀ wx : World, (wx.cell? ⟨q, 0, none⟩ = some (.int .i64 0) ∧ wx.cell? ⟨q, 1, none⟩ = some (.slice b4 lb.length e4) ∧ wx.cell? ⟨r, 0, none⟩ = some (.int .i64 nc) ∧ Z.heap.size ≤ wx.heap.size ∧ Below Z.heap.size Z wx) → Tab wx := fun wx h => TH.out.below h.2.2.2.2 (Nat.le_refl _)
          have KSH : Hid (_) := KS
          have KTH : Hid (_) := KT
          have KDH : Hid (_) := KD
          have KLH : Hid (_) := KL
          have KBH : Hid (_) := KB
          clear KS KT KD KL KB v0 v1 m0 m1
          go_region_held3 (fun wx => wx.cell? ⟨q, 0, none⟩ = some (.int .i64 0) ∧ wx.cell? ⟨q, 1, none⟩ = some (.slice b4 lb.length e4) ∧ wx.cell? ⟨r, 0, none⟩ = some (.int .i64 nc) ∧ Z.heap.size ≤ wx.heap.size ∧ Below Z.heap.size Z wx)
            ((first | assumption | (refine KSH.out _ ?_; exact (Below.refl _ _).drew)))
            (first | ((go_at_call 24; refine (KLB.out _ (KDH.out _ (by assumption))).mono ?_; rintro r wa ⟨aa, ca, rfl, hoa, hba⟩; have hka := KTH.out _ _ (by assumption) hba; clear hoa hba)) | ((go_at_call 26; refine (KNB.out _).mono ?_; rintro r we ⟨ae, ce, rfl, hoe, hbe⟩; have hke := KTH.out _ _ (by assumption) hbe; clear hoe hbe)) | ((go_at_call 25; refine (KLS.out _ (KBH.out _ (by assumption)) (KDH.out _ (by assumption))).mono ?_; rintro r wb ⟨rfl, hbb⟩; have hkb := KTH.out _ _ (by assumption) hbb; clear hbb)) | ((go_at_call 21; refine (KSU.out _ (KLH.out _ (by assumption))).mono ?_; rintro r wd ⟨rfl, hbd⟩; have hkd := KTH.out _ _ (by assumption) hbd; clear hbd)))
          all_goals (go_wp2_with fail; go_meet; exact ⟨rfl, hke.2.2.2.2⟩)
        · have KS : ∀ wx : World, Below Z.heap.size Z wx → wx.cell? ⟨q, 0, none⟩ = some (.int .i64 2) ∧ wx.cell? ⟨q, 1, none⟩ = some (.slice b4 lb.length e4) ∧ wx.cell? ⟨r, 0, none⟩ = some (.int .i64 nc) ∧ Z.heap.size ≤ wx.heap.size ∧ Below Z.heap.size Z wx := fun wx h => ⟨(h.cell (p := ⟨q, 0, none⟩) hq').trans v0, (h.cell (p := ⟨q, 1, none⟩) hq').trans v1, (h.cell (p := ⟨r, 0, none⟩) hr').trans m0, h.size, h⟩
          have KT : ∀ wx wy : World, (wx.cell? ⟨q, 0, none⟩ = some (.int .i64 2) ∧ wx.cell? ⟨q, 1, none⟩ = some (.slice b4 lb.length e4) ∧ wx.cell? ⟨r, 0, none⟩ = some (.int .i64 nc) ∧ Z.heap.size ≤ wx.heap.size ∧ Below Z.heap.size Z wx) → Below wx.heap.size wx wy → wy.cell? ⟨q, 0, none⟩ = some (.int .i64 2) ∧ wy.cell? ⟨q, 1, none⟩ = some (.slice b4 lb.length e4) ∧ wy.cell? ⟨r, 0, none⟩ = some (.int .i64 nc) ∧ Z.heap.size ≤ wy.heap.size ∧ Below Z.heap.size Z wy := fun wx wy h k => KS wy (h.2.2.2.2.trans (k.mono h.2.2.2.1))
          have KD : ∀ wx : World, (wx.cell? ⟨q, 0, none⟩ = some (.int .i64 2) ∧ wx.cell? ⟨q, 1, none⟩ = some (.slice b4 lb.length e4) ∧ wx.cell? ⟨r, 0, none⟩ = some (.int .i64 nc) ∧ Z.heap.size ≤ wx.heap.size ∧ Below Z.heap.size Z wx) → Has wx .u8 a3 ds.length ds := fun wx h => DH.out.below h.2.2.2.2 (Nat.le_refl _)
          have KSH : Hid (_) := KS
          have KTH : Hid (_) := KT
          have KDH : Hid (_) := KD
          clear KS KT KD v0 v1 m0 m1
          refine wp_region_noPanic ?_
          refine wp_region_held_drew (S := fun wx => wx.cell? ⟨q, 0, none⟩ = some (.int .i64 2) ∧ wx.cell? ⟨q, 1, none⟩ = some (.slice b4 lb.length e4) ∧ wx.cell? ⟨r, 0, none⟩ = some (.int .i64 nc) ∧ Z.heap.size ≤ wx.heap.size ∧ Below Z.heap.size Z wx) (by kernel_rfl) (KSH.out _ (Below.refl _ _).drew) (fun hHeld => ?_)
          refine take_at (i := 0) (d := some 89) (v := ?mv0) rfl rfl (by kernel_rfl) (by kernel_rfl) (by kernel_rfl) (fun _ _ _ h => h) (Or.inl ⟨by rfl, ?my0⟩) (by assumption) ?mg0
          case my0 => (intro z hSz; (try dsimp only at hSz); go_simp; (try with_reducible rfl))
          try simp only [Act.put, List.setIfInBounds_toArray, List.set_cons_zero, List.set_cons_succ]
          refine take_at (i := 1) (d := some 90) (v := ?mv1) rfl rfl (by kernel_rfl) (by kernel_rfl) (by kernel_rfl) (fun _ _ _ h => h) (Or.inl ⟨by rfl, ?my1⟩) (by assumption) ?mg1
          case my1 => (intro z hSz; (try dsimp only at hSz); go_simp; (try with_reducible rfl))
          try simp only [Act.put, List.setIfInBounds_toArray, List.set_cons_zero, List.set_cons_succ]
          refine take_at (i := 2) (d := some 91) (v := ?mv2) rfl rfl (by kernel_rfl) (by kernel_rfl) (by kernel_rfl) (fun _ _ _ h => h) (Or.inl ⟨by rfl, ?my2⟩) (by assumption) ?mg2
          case my2 => (intro z hSz; (try dsimp only at hSz); go_simp; (try with_reducible rfl))
          try simp only [Act.put, List.setIfInBounds_toArray, List.set_cons_zero, List.set_cons_succ]
          refine wpAnyH_ready (rs := [3]) (by kernel_rfl) (by simp) ?_
          refine AllReadyH.cons rfl (fun K hK => ?_) AllReadyH.nil
          go_simp
          (go_at_call 24; refine (KLB.out _ (KDH.out _ (by assumption))).mono ?_; rintro r wa ⟨aa, ca, rfl, hoa, hba⟩; have hka := KTH.out _ _ (by assumption) hba; clear hoa hba hHeld)
          refine hK.out _ _ hka (fun _ => ?_)
          clear hK K
          try simp only [Act.put, List.setIfInBounds_toArray, List.set_cons_zero, List.set_cons_succ]
          refine take_at (i := 4) (d := some 93) (v := ?mv4) rfl rfl (by kernel_rfl) (by kernel_rfl) (by kernel_rfl) (fun _ _ _ h => h) (Or.inl ⟨by rfl, ?my4⟩) (by assumption) ?mg4
          case my4 => (intro z hSz; (try dsimp only at hSz); go_simp; (try with_reducible rfl))
          try simp only [Act.put, List.setIfInBounds_toArray, List.set_cons_zero, List.set_cons_succ]
          refine take_at (i := 5) (d := some 94) (v := ?mv5) rfl rfl (by kernel_rfl) (by kernel_rfl) (by kernel_rfl) (fun _ _ _ h => h) (Or.inl ⟨by rfl, ?my5⟩) (by assumption) ?mg5
          case my5 => (intro z hSz; (try dsimp only at hSz); go_simp; (try with_reducible rfl))
          try simp only [Act.put, List.setIfInBounds_toArray, List.set_cons_zero, List.set_cons_succ]
          refine take_at (i := 6) (d := some 95) (v := ?mv6) rfl rfl (by kernel_rfl) (by kernel_rfl) (by kernel_rfl) (fun _ _ _ h => h) (Or.inl ⟨by rfl, ?my6⟩) (by assumption) ?mg6
          case my6 => (intro z hSz; (try dsimp only at hSz); go_simp; (try with_reducible rfl))
          try simp only [Act.put, List.setIfInBounds_toArray, List.set_cons_zero, List.set_cons_succ]
          refine take_at (i := 7) (d := some 96) (v := ?mv7) rfl rfl (by kernel_rfl) (by kernel_rfl) (by kernel_rfl) (fun _ _ _ h => h) (Or.inl ⟨by rfl, ?my7⟩) (by assumption) ?mg7
          case my7 => (intro z hSz; (try dsimp only at hSz); go_simp; (try with_reducible rfl))
          try simp only [Act.put, List.setIfInBounds_toArray, List.set_cons_zero, List.set_cons_succ]
          refine take_at (i := 8) (d := some 97) (v := ?mv8) rfl rfl (by kernel_rfl) (by kernel_rfl) (by kernel_rfl) (fun _ _ _ h => h) (Or.inl ⟨by rfl, ?my8⟩) (by assumption) ?mg8
          case my8 => (intro z hSz; (try dsimp only at hSz); go_simp; (try with_reducible rfl))
          try simp only [Act.put, List.setIfInBounds_toArray, List.set_cons_zero, List.set_cons_succ]
          refine take_at (i := 9) (d := some 98) (v := ?mv9) rfl rfl (by kernel_rfl) (by kernel_rfl) (by kernel_rfl) (fun _ _ _ h => h) (Or.inl ⟨by rfl, ?my9⟩) (by assumption) ?mg9
          case my9 => (intro z hSz; (try dsimp only at hSz); go_simp; (try with_reducible rfl))
          try simp only [Act.put, List.setIfInBounds_toArray, List.set_cons_zero, List.set_cons_succ]
          refine take_at (i := 10) (d := some 99) (v := ?mv10) rfl rfl (by kernel_rfl) (by kernel_rfl) (by kernel_rfl) (fun _ _ _ h => h) (Or.inl ⟨by rfl, ?my10⟩) (by assumption) ?mg10
          case my10 => (intro z hSz; (try dsimp only at hSz); go_simp; (try with_reducible rfl))
          try simp only [Act.put, List.setIfInBounds_toArray, List.set_cons_zero, List.set_cons_succ]
          refine take_at (i := 11) (d := some 100) (v := undef) rfl rfl (by kernel_rfl) (by kernel_rfl) (by kernel_rfl) (fun _ _ _ h => h) (Or.inr ⟨by rfl, rfl⟩) (by assumption) ?_
          try simp only [Act.put, List.setIfInBounds_toArray, List.set_cons_zero, List.set_cons_succ]
          refine take_at (i := 12) (d := some 101) (v := undef) rfl rfl (by kernel_rfl) (by kernel_rfl) (by kernel_rfl) (fun _ _ _ h => h) (Or.inr ⟨by rfl, rfl⟩) (by assumption) ?_
          try simp only [Act.put, List.setIfInBounds_toArray, List.set_cons_zero, List.set_cons_succ]
          refine take_at (i := 13) (d := some 102) (v := undef) rfl rfl (by kernel_rfl) (by kernel_rfl) (by kernel_rfl) (fun _ _ _ h => h) (Or.inr ⟨by rfl, rfl⟩) (by assumption) ?_
          try simp only [Act.put, List.setIfInBounds_toArray, List.set_cons_zero, List.set_cons_succ]
          refine take_at (i := 14) (d := some 103) (v := undef) rfl rfl (by kernel_rfl) (by kernel_rfl) (by kernel_rfl) (fun _ _ _ h => h) (Or.inr ⟨by rfl, rfl⟩) (by assumption) ?_
          try simp only [Act.put, List.setIfInBounds_toArray, List.set_cons_zero, List.set_cons_succ]
          refine take_at (i := 15) (d := some 104) (v := undef) rfl rfl (by kernel_rfl) (by kernel_rfl) (by kernel_rfl) (fun _ _ _ h => h) (Or.inr ⟨by rfl, rfl⟩) (by assumption) ?_
          try simp only [Act.put, List.setIfInBounds_toArray, List.set_cons_zero, List.set_cons_succ]
          refine take_at (i := 16) (d := some 105) (v := undef) rfl rfl (by kernel_rfl) (by kernel_rfl) (by kernel_rfl) (fun _ _ _ h => h) (Or.inr ⟨by rfl, rfl⟩) (by assumption) ?_
          try simp only [Act.put, List.setIfInBounds_toArray, List.set_cons_zero, List.set_cons_succ]
          refine take_at (i := 17) (d := some 106) (v := undef) rfl rfl (by kernel_rfl) (by kernel_rfl) (by kernel_rfl) (fun _ _ _ h => h) (Or.inr ⟨by rfl, rfl⟩) (by assumption) ?_
          try simp only [Act.put, List.setIfInBounds_toArray, List.set_cons_zero, List.set_cons_succ]
          refine take_at (i := 18) (d := some 107) (v := undef) rfl rfl (by kernel_rfl) (by kernel_rfl) (by kernel_rfl) (fun _ _ _ h => h) (Or.inr ⟨by rfl, rfl⟩) (by assumption) ?_
          try simp only [Act.put, List.setIfInBounds_toArray, List.set_cons_zero, List.set_cons_succ]
          refine take_at (i := 19) (d := some 108) (v := undef) rfl rfl (by kernel_rfl) (by kernel_rfl) (by kernel_rfl) (fun _ _ _ h => h) (Or.inr ⟨by rfl, rfl⟩) (by assumption) ?_
          try simp only [Act.put, List.setIfInBounds_toArray, List.set_cons_zero, List.set_cons_succ]
          refine take_at (i := 20) (d := some 109) (v := undef) rfl rfl (by kernel_rfl) (by kernel_rfl) (by kernel_rfl) (fun _ _ _ h => h) (Or.inr ⟨by rfl, rfl⟩) (by assumption) ?_
          try simp only [Act.put, List.setIfInBounds_toArray, List.set_cons_zero, List.set_cons_succ]
          refine take_at (i := 21) (d := some 110) (v := undef) rfl rfl (by kernel_rfl) (by kernel_rfl) (by kernel_rfl) (fun _ _ _ h => h) (Or.inr ⟨by rfl, rfl⟩) (by assumption) ?_
          try simp only [Act.put, List.setIfInBounds_toArray, List.set_cons_zero, List.set_cons_succ]
          refine take_at (i := 22) (d := some 111) (v := undef) rfl rfl (by kernel_rfl) (by kernel_rfl) (by kernel_rfl) (fun _ _ _ h => h) (Or.inr ⟨by rfl, rfl⟩) (by assumption) ?_
          try simp only [Act.put, List.setIfInBounds_toArray, List.set_cons_zero, List.set_cons_succ]
          refine take_at (i := 23) (d := some 112) (v := undef) rfl rfl (by kernel_rfl) (by kernel_rfl) (by kernel_rfl) (fun _ _ _ h => h) (Or.inr ⟨by rfl, rfl⟩) (by assumption) ?_
          try simp only [Act.put, List.setIfInBounds_toArray, List.set_cons_zero, List.set_cons_succ]
          refine take_at (i := 24) (d := some 113) (v := undef) rfl rfl (by kernel_rfl) (by kernel_rfl) (by kernel_rfl) (fun _ _ _ h => h) (Or.inr ⟨by rfl, rfl⟩) (by assumption) ?_
          try simp only [Act.put, List.setIfInBounds_toArray, List.set_cons_zero, List.set_cons_succ]
          refine take_at (i := 25) (d := some 114) (v := ?mv25) rfl rfl (by kernel_rfl) (by kernel_rfl) (by kernel_rfl) (fun _ _ _ h => h) (Or.inl ⟨by rfl, ?my25⟩) (by assumption) ?mg25
          case my25 => (intro z hSz; (try dsimp only at hSz); go_simp; (try with_reducible rfl))
          try simp only [Act.put, List.setIfInBounds_toArray, List.set_cons_zero, List.set_cons_succ]
          refine take_at (i := 26) (d := some 115) (v := ?mv26) rfl rfl (by kernel_rfl) (by kernel_rfl) (by kernel_rfl) (fun _ _ _ h => h) (Or.inl ⟨by rfl, ?my26⟩) (by assumption) ?mg26
          case my26 => (intro z hSz; (try dsimp only at hSz); go_simp; (try with_reducible rfl))
          try simp only [Act.put, List.setIfInBounds_toArray, List.set_cons_zero, List.set_cons_succ]
          refine take_at (i := 27) (d := some 116) (v := ?mv27) rfl rfl (by kernel_rfl) (by kernel_rfl) (by kernel_rfl) (fun _ _ _ h => h) (Or.inl ⟨by rfl, ?my27⟩) (by assumption) ?mg27
          case my27 => (intro z hSz; (try dsimp only at hSz); go_simp; (try with_reducible rfl))
          try simp only [Act.put, List.setIfInBounds_toArray, List.set_cons_zero, List.set_cons_succ]
          refine take_at (i := 28) (d := some 117) (v := ?mv28) rfl rfl (by kernel_rfl) (by kernel_rfl) (by kernel_rfl) (fun _ _ _ h => h) (Or.inl ⟨by rfl, ?my28⟩) (by assumption) ?mg28
          case my28 => (intro z hSz; (try dsimp only at hSz); go_simp; (try with_reducible rfl))
          try simp only [Act.put, List.setIfInBounds_toArray, List.set_cons_zero, List.set_cons_succ]
          refine take_at (i := 29) (d := some 118) (v := ?mv29) rfl rfl (by kernel_rfl) (by kernel_rfl) (by kernel_rfl) (fun _ _ _ h => h) (Or.inl ⟨by rfl, ?my29⟩) (by assumption) ?mg29
          case my29 => (intro z hSz; (try dsimp only at hSz); go_simp; (try with_reducible rfl))
          try simp only [Act.put, List.setIfInBounds_toArray, List.set_cons_zero, List.set_cons_succ]
          refine take_at (i := 30) (d := some 119) (v := ?mv30) rfl rfl (by kernel_rfl) (by kernel_rfl) (by kernel_rfl) (fun _ _ _ h => h) (Or.inl ⟨by rfl, ?my30⟩) (by assumption) ?mg30
          case my30 => (intro z hSz; (try dsimp only at hSz); go_simp; (try with_reducible rfl))
          try simp only [Act.put, List.setIfInBounds_toArray, List.set_cons_zero, List.set_cons_succ]
          refine take_at (i := 31) (d := some 120) (v := ?mv31) rfl rfl (by kernel_rfl) (by kernel_rfl) (by kernel_rfl) (fun _ _ _ h => h) (Or.inl ⟨by rfl, ?my31⟩) (by assumption) ?mg31
          case my31 => (intro z hSz; (try dsimp only at hSz); go_simp; (try with_reducible rfl))
          try simp only [Act.put, List.setIfInBounds_toArray, List.set_cons_zero, List.set_cons_succ]
          refine wpAnyH_ready (rs := [32]) (by kernel_rfl) (by simp) ?_
          refine AllReadyH.cons rfl (fun K hK => ?_) AllReadyH.nil
          go_simp
          (go_at_call 26; refine (KNB.out _).mono ?_; rintro r we ⟨ae, ce, rfl, hoe, hbe⟩; have hke := KTH.out _ _ (by assumption) hbe; clear hoe hbe hka)
          refine hK.out _ _ hke (fun _ => ?_)
          clear hK K
          try simp only [Act.put, List.setIfInBounds_toArray, List.set_cons_zero, List.set_cons_succ]
          refine take_at (i := 33) (d := some 122) (v := ?mv33) rfl rfl (by kernel_rfl) (by kernel_rfl) (by kernel_rfl) (fun _ _ _ h => h) (Or.inl ⟨by rfl, ?my33⟩) (by assumption) ?mg33
          case my33 => (intro z hSz; (try dsimp only at hSz); go_simp; (try with_reducible rfl))
          try simp only [Act.put, List.setIfInBounds_toArray, List.set_cons_zero, List.set_cons_succ]
          refine take_at (i := 34) (d := some 123) (v := ?mv34) rfl rfl (by kernel_rfl) (by kernel_rfl) (by kernel_rfl) (fun _ _ _ h => h) (Or.inl ⟨by rfl, ?my34⟩) (by assumption) ?mg34
          case my34 => (intro z hSz; (try dsimp only at hSz); go_simp; (try with_reducible rfl))
          try simp only [Act.put, List.setIfInBounds_toArray, List.set_cons_zero, List.set_cons_succ]
          refine take_at (i := 35) (d := some 124) (v := ?mv35) rfl rfl (by kernel_rfl) (by kernel_rfl) (by kernel_rfl) (fun _ _ _ h => h) (Or.inl ⟨by rfl, ?my35⟩) (by assumption) ?mg35
          case my35 => (intro z hSz; (try dsimp only at hSz); go_simp; (try with_reducible rfl))
          try simp only [Act.put, List.setIfInBounds_toArray, List.set_cons_zero, List.set_cons_succ]
          refine wpAnyH_done (by kernel_rfl) ?_ _
          refine NoPanic.normal ?_
          go_wp2_with fail
          go_meet
          exact ⟨rfl, hke.2.2.2.2⟩
      case rest =>
        obtain ⟨rfl, hcb⟩ := hcut
        have hzd := hcb.size
        obtain ⟨x0, x1⟩ := VV.out.below hcb hq'
        obtain ⟨y0, y1⟩ := MM.out.below hcb hr'
        have LF := LH.out.below hcb (Nat.le_refl _)
        have NF := NH.out.below hcb (Nat.le_refl _)
        have TF := TH.out.below hcb (Nat.le_refl _)
        have BF := BH.out.trans (hcb.mono hw')
        have hq2 : q < wc.heap.size := by omega
        have hr2 : r < wc.heap.size := by omega
        have hw2 : w.heap.size ≤ wc.heap.size := by omega
        have hnew : Nonempty (KeptW wc) := ⟨⟨wc, Below.refl _ _⟩⟩
        have KNd := fun d : KeptW wc => KNS.out d.wd (TF.below d.hb (Nat.le_refl _))
        have KSd := fun d : KeptW wc => implSumOf_any b6 e6 nb d.wd (NF.below d.hb (Nat.le_refl _)) (by omega)
        have KWd : ∀ d : KeptW wc, Calls Tryd.prog 20 #[.slice b4 lb.length e4, .slice b6 nb.length e6] d.wd fun r w' => r = .returned (.bool (decide (lb = nb))) ∧ Below d.wd.heap.size d.wd w' := fun d => (lwBytes_any b4 b6 e4 e6 lb nb d.wd (LF.below d.hb (Nat.le_refl _)) (NF.below d.hb (Nat.le_refl _))).mono (fun r w' ⟨h1, h2⟩ => ⟨h1, by rw [h2]; exact Below.refl _ _⟩)
        have BFH : Hid (_) := BF
        clear hcb hzd VV MM LH NH TH BH LF NF TF BF v0 v1 m0 m1 hq' hr' hw' hnn KSU KLB KLS KNB KNS
        rcases hcn with rfl | rfl
        · obtain ⟨hnv, hn5⟩ := NS.out rfl
          subst hnv
          generalize sumV nb = V at KNd KSd
          have hVV : (V == V) = true := by simp
          have hl5 : ((nb.length : Int) == 5) = true := by rw [hn5]; rfl
          have k0 := KeptW.cell x0 hq2
          have k1 := KeptW.cell x1 hq2
          have k2 := KeptW.cell y0 hr2
          have k3 := KeptW.cell y1 hr2
          rcases hcl with rfl | rfl
          · rw [LN.out rfl rfl] at KWd
            have KNH : Hid (_) := KNd
            have KSH : Hid (_) := KSd
            have KWH : Hid (_) := KWd
            clear KNd KSd KWd hn5
            go_wp2_with fail
            refine wp_region_kept (by kernel_rfl) (by kernel_rfl) ?_
            iterate 29 (go_big_quiet_step ((first | (go_at_call 27; first | exact KeptW.calls (KNH.out _)) | (go_at_call 21; first | exact KeptW.calls (KSH.out _)) | (go_at_call 20; first | exact KeptW.calls (KWH.out _)))))
            refine wpQuiet_nil ?_
            rintro _ ⟨d2, rfl⟩
            go_wp2
            go_ret
            exact ⟨rfl, d2.ofBelow BFH.out hw2⟩
          · have KNH : Hid (_) := KNd
            have KSH : Hid (_) := KSd
            clear KNd KSd KWd hn5
            go_wp2_with fail
            refine wp_region_kept (by kernel_rfl) (by kernel_rfl) ?_
            iterate 29 (go_big_quiet_step ((first | (go_at_call 27; first | exact KeptW.calls (KNH.out _)) | (go_at_call 21; first | exact KeptW.calls (KSH.out _)))))
            refine wpQuiet_nil ?_
            rintro _ ⟨d2, rfl⟩
            go_wp2
            go_ret
            exact ⟨rfl, d2.ofBelow BFH.out hw2⟩
        · have k2 := KeptW.cell y0 hr2
          have KNH : Hid (_) := KNd
          clear KNd KSd KWd
          go_wp2_with fail
          refine wp_region_kept (by kernel_rfl) (by kernel_rfl) ?_
          iterate 8 (go_big_quiet_step ((first | (go_at_call 27; first | exact KeptW.calls (KNH.out _)))))
          refine wpQuiet_nil ?_
          rintro _ ⟨d2, rfl⟩
          go_wp2
          go_ret
          exact ⟨rfl, d2.ofBelow BFH.out hw2⟩

set_option maxRecDepth 100000 in
theorem fnClashes_lifted (os : Os) (started : os.Started) (H : Type) (enc : TypeId × Value → H) :
    ReturnsInHanded {} Tryd.checked os 3 .any (fun w args => (Rows.fnClashesSpec.pre enc Tryd.prog Tryd.f3 [] false w args ∧ laidMetH Tryd.prog [("loop.example/g00565/impl.pieceStarts", Rows.laid_loop_example_g00565_impl_pieceStarts)] w) ∧ sizedMet enc Tryd.prog Tryd.f3 (OpenSpec.ofChange Rows.fnClashesSpec) false w args) (Rows.fnClashesSpec.post enc Tryd.prog Tryd.f3 false true false false) := by
  refine returnsInHanded_of_change_and (C := Tryd.checked) (X := fun w _ => laidMetH Tryd.prog [("loop.example/g00565/impl.pieceStarts", Rows.laid_loop_example_g00565_impl_pieceStarts)] w) (fun _ _ _ hh h => h.of_heap hh) own started (by kernel_rfl) Tryd.func3
    (ChangeSpec.witness_shaped (enc := enc) (C := Tryd.checked) (os := os) (X := fun w _ => laidMetH Tryd.prog [("loop.example/g00565/impl.pieceStarts", Rows.laid_loop_example_g00565_impl_pieceStarts)] w) false (World.doorLaid Tryd.prog 400 os) #[.slice none 0 0] 8 rfl (World.shaped_of_RefB (by kernel_rfl) (by kernel_rfl)) (by kernel_rfl) (by kernel_rfl) (by kernel_rfl) (door_met os _)) ?_
  intro W base args ds gs before hval0 hW _ _ hL _
  have hval : ∀ (j : Nat) t v, Tryd.f3.params[j]? = some t → args[j]? = some v → Value.okWide Tryd.prog W .any base t v := hval0
  have hW' := hW
  obtain ⟨p, q, hA0, hV, rfl, hfz, hnd⟩ := hW
  have hA : DataW.TrodAll enc Tryd.prog W 0 (fun _ => true) true Tryd.f3.params.toList args.toList ds p := hA0
  rw [Tryd.params3] at hA hval
  obtain ⟨v0, vs0, d0, ds0, p0, q0, hargs, rfl, rfl, h0, r0⟩ := trodAll_cons hA
  obtain ⟨rfl, rfl, rfl⟩ := trodAll_nil r0
  obtain rfl : args = #[v0] := by cases args; simp_all
  obtain ⟨g, rfl⟩ : ∃ g, gs = [g] := by obtain ⟨_, _, _, _, d, _, e, _⟩ := trodVars_one hV; exact ⟨d, e⟩
  have g0 := h0
  have lt0 : ∀ x ∈ p0, x.block < W.heap.size := by obtain ⟨m, hm⟩ := g0; exact DataW.trod_lt m _ _ _ hm
  obtain ⟨a0, len0, cap0, rfl⟩ := okWide_slice Tryd.underlying22 (hval 0 22 v0 rfl rfl)
  obtain ⟨z0, w0⟩ : ∃ zs, IsRow .u8 W a0 len0 cap0 zs := by
    obtain ⟨fuel, hf⟩ := h0
    rcases open_ints Tryd.underlying22 Tryd.underlying5 (by kernel_rfl) hf with ⟨hcs, _⟩ | ⟨x, l, c, zs, hcs, _, hl, hm, hz, _, hcell, hwz⟩
    · simp [Value.cells] at hcs
      obtain ⟨rfl, rfl, rfl⟩ := hcs
      exact ⟨[], .inl ⟨rfl, rfl, rfl, rfl⟩⟩
    · simp [Value.cells] at hcs
      obtain ⟨rfl, rfl, rfl⟩ := hcs
      exact ⟨zs, .inr ⟨_, rfl, hl, hm, by simpa using hz, hcell, hwz⟩⟩
  clear hA0 hval0
  refine (fnClashes_walk W (tab_of_laid hL) a0 len0 cap0 z0 w0).mono fun e W' ⟨he, bel⟩ => ?_
  subst he
  exact ⟨_, rfl, _, _, _, [], _, _, hW', trodAll_mk1 (shut_bool Tryd.underlying4 _), (trodAll_cons_mk (Below.trod laidOut (by kernel_rfl) (of_decide_eq_true (by kernel_rfl)) g0 bel lt0) trodAll_mk0), Below.trodVars laidOut bel (by kernel_rfl) hV, bel.frame _, fun h => by cases h⟩

theorem fnClashes_row : Rows.FnClashesSaid :=
  OpenClaim.holds_of_wide 3 Tryd.f3 rfl rfl rfl rfl rfl rfl rfl ⟨rfl, rfl, rfl, rfl, rfl⟩ rfl rfl rfl rfl rfl (by kernel_rfl) Tryd.func3 (by kernel_rfl)
    (of_decide_eq_true (by kernel_rfl)) (by unfold Func.isWrapper; first | (rw [if_pos (by decide +kernel)]; kernel_rfl) | (rw [if_neg (by decide +kernel)]; exact ⟨rfl, rfl⟩))
    (fun os started H enc _ => fnClashes_lifted os started H enc)

theorem fnClashes_holds : Rows.FnClashesCardSaid :=
  Claim7.holds_tied_plain_at .later [] [.data] true Rows.fnClashesCard.stood.harness Rows.fnClashesCard.stood.looks
    fnClashes_row (fun _ h => by cases h) (by kernel_rfl) (fun _ h => by cases h) fnClashes_row_tie rfl ⟨rfl, rfl⟩ (by kernel_rfl) rfl
    (fun f fn hf hfn => by
      obtain rfl : f = 3 := Option.some.inj ((show Tryd.prog.funcNamed "loop.example/g00565/laws.FnClashes" = some 3 by kernel_rfl).symm.trans hf) |>.symm
      obtain rfl : fn = Tryd.f3 := (Option.some.inj (Tryd.func3.symm.trans hfn)).symm
      exact ⟨by kernel_rfl, fun j t ht => by
        rw [Tryd.params3] at ht
        have h3 : t = 22 := by
          match j, ht with
          | 0, ht => simp at ht; simp [← ht]
          | _ + 1, ht => simp at ht
        rcases h3 with rfl
        all_goals exact (show Tryd.prog.wantsStandIn _ = false by kernel_rfl)⟩)
    (by kernel_rfl)
#print axioms fnClashes_holds
end Go.Proofs.YtngibnmcagogaaaDoor
