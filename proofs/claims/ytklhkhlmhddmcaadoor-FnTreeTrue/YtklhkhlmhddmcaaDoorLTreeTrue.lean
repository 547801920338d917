/- At every code the law on pieces of one root holds: such lists of pieces are alike, or there are two pieces of one sum; the table that begins pieces starts as the program's text lays it. -/
import Derived.Test.YtklhkhlmhddmcaaDoorIPkA
import Derived.Test.YtklhkhlmhddmcaaDoorITreeC
import Derived.Test.YtklhkhlmhddmcaaDoorTrT
import Derived.Test.YtklhkhlmhddmcaaDoorDraw6E
import Derived.Test.YtklhkhlmhddmcaaDoorNumsG
import Derived.Test.YtklhkhlmhddmcaaDoorBig
import Derived.Test.YtklhkhlmhddmcaaDoorMoves
import Derived.Deep.DeepCutAuto
import Derived.Test.YtklhkhlmhddmcaaDoorDoor
namespace Go.Proofs.YtklhkhlmhddmcaaDoor
open Go.ChangeShapes Go.WideShapes Go.ChangeAt Go.RowKit
set_option linter.unusedVariables false
set_option linter.unusedSimpArgs false

set_option maxRecDepth 100000 in
set_option maxHeartbeats 16000000 in
theorem fnTreeTrue_walk (w : World) (hT : Tab w) (a0 : Option Addr) (len0 cap0 : Nat) (z0 : List Int) (w0 : IsRow .u8 w a0 len0 cap0 z0) :
    Calls Tryd.prog 5 #[.slice a0 len0 cap0] w fun e w' => e = .returned (.bool true) ∧ Below w.heap.size w w' := by
  have A0 := Has.of_row w0
  have hlen := A0.1
  generalize z0.take len0 = zs at A0 hlen
  subst hlen
  clear w0
  by_cases hbig : 1048576 < zs.length
  case pos =>
    go_enter Tryd.func5, Tryd.ntmps5
    go_wp2_with fail
    refine (lwBig_yes _ a0 _ cap0 hbig).mono ?_
    rintro r u ⟨rfl, rfl⟩
    go_wp2
    go_ret
    exact ⟨rfl, Below.refl _ _⟩
  have hsm : zs.length ≤ 1048576 := by omega
  have HT : Hid (Tab w) := hT
  clear hT hbig
  go_enter Tryd.func5, Tryd.ntmps5
  go_wp2_with fail
  refine (lwBig_no _ a0 _ cap0 hsm).mono ?_
  rintro r u ⟨rfl, hu⟩
  have hu2 := hu.symm
  subst hu2
  clear hu
  go_wp2_with fail
  refine (drawPieceClash_any _ a0 _ cap0 zs A0 hsm).mono ?_
  rintro e u1 ⟨a1, c1, rs, a2, c2, qs, rfl, lr, lq, sr, sq, R1, Q1, hb1⟩
  have SR : Hid (∀ r ∈ rs, r.zs.length ≤ 1048576) := fun r hr => by have := sr r hr; omega
  have SQ : Hid (∀ r ∈ qs, r.zs.length ≤ 1048576) := fun r hr => by have := sq r hr; omega
  have LS : Hid (∀ x, pkX rs qs = some x → isCl x) := pkX_some rs qs (fun r hr => (R1.2 r hr).1.2.1) (fun r hr => (Q1.2 r hr).1.2.1)
  have LT : Hid (pkC rs qs = 0 → rs.length = qs.length ∧ (pkX rs qs = none → rs.map Pc.zs = qs.map Pc.zs)) := fun h => ⟨(pkC_zero h).2.2.2, fun k => pk_true h k⟩
  clear sr sq
  have SP : Hid (∀ u : World, Below u1.heap.size u1 u → Calls Tryd.prog 33 #[.slice a1 rs.length c1, .slice a2 qs.length c2] u fun r w' => ∃ a1 c1 a2 c2, r = .returned (.agg #[.int .i64 (pkC rs qs), .bool (pkX rs qs).isSome, .slice a1 (clA (pkX rs qs)).length c1, .slice a2 (clB (pkX rs qs)).length c2]) ∧ Below u.heap.size u w') := by
    intro u hu
    refine (specPieceClash_any a1 a2 c1 c2 rs qs u (R1.below hu (Nat.le_refl _)) (Q1.below hu (Nat.le_refl _)) (by omega) (by omega) SR.out SQ.out).mono ?_
    rintro r w' ⟨a1, c1, a2, c2, rfl, _, hb⟩
    exact ⟨a1, c1, a2, c2, rfl, hb⟩
  go_wp2_with fail
  refine (implPieceClash_any a1 a2 c1 c2 rs qs _ (HT.out.below hb1 (Nat.le_refl _)) R1 Q1 (by omega) (by omega) SR.out SQ.out).mono ?_
  rintro r u2 ⟨b1, i1, b2, i2, rfl, O2, hb2⟩
  have W2 := hb1.trans (hb2.mono hb1.size)
  have OK := cl_ok LS.out
  have H1 := has_of_own O2.one OK.2.2.1
  have H2 := has_of_own O2.two OK.2.2.2
  clear O2 OK
  have KX : Hid (∀ x, pkX rs qs = some x → (clA (pkX rs qs)) = x.1 ∧ (clB (pkX rs qs)) = x.2) := fun x h => by rw [h]; exact ⟨rfl, rfl⟩
  have hff : Hid ((pkX rs qs).isSome = false → pkX rs qs = none) := fun h => by simpa using h
  have htt : Hid ((pkX rs qs).isSome = true → ∃ x, pkX rs qs = some x) := fun h => Option.isSome_iff_exists.1 h
  generalize (pkX rs qs).isSome = ff at *
  generalize clA (pkX rs qs) = ls at *
  generalize clB (pkX rs qs) = ms at *
  generalize pkX rs qs = X at *
  generalize pkC rs qs = cc at *
  have BV : Below u1.heap.size u1 (u2.alloc (.cells #[.int .i64 cc, .bool ff, .slice b1 ls.length i1, .slice b2 ms.length i2] 31)) := hb2.alloc hb2.size _
  have WV : Below w.heap.size w (u2.alloc (.cells #[.int .i64 cc, .bool ff, .slice b1 ls.length i1, .slice b2 ms.length i2] 31)) := W2.alloc W2.size _
  have HV1 := H1.alloc (.cells #[.int .i64 cc, .bool ff, .slice b1 ls.length i1, .slice b2 ms.length i2] 31)
  have HV2 := H2.alloc (.cells #[.int .i64 cc, .bool ff, .slice b1 ls.length i1, .slice b2 ms.length i2] 31)
  clear hb2 H1 H2
  go_wp2_with fail
  refine (drawTreeClash_any _ a0 _ cap0 zs (A0.below WV (Nat.le_refl _)) hsm).mono ?_
  rintro e u3 ⟨a3, c3, xs, a4, c4, ys, rfl, lx, ly, ⟨ex, fx⟩, ⟨ey, fy⟩, X3, Y3, hb3⟩
  have W3 := WV.trans (hb3.mono WV.size)
  have TSX : Hid (∀ x, tkX xs ys = some x → isCl x) := tkX_some xs ys
  have STC0 : Hid (∀ u : World, Below u3.heap.size u3 u → Calls Tryd.prog 32 #[.slice a3 xs.length c3, .slice a4 ys.length c4] u fun r w' => ∃ a1 c1 a2 c2, r = .returned (.agg #[.int .i64 (tkC xs ys), .bool (tkX xs ys).isSome, .slice a1 (clA (tkX xs ys)).length c1, .slice a2 (clB (tkX xs ys)).length c2]) ∧ Below u.heap.size u w') := by
    intro u hu
    refine (specTreeClash_any a3 a4 c3 c4 xs ys u (X3.below hu (Nat.le_refl _)) (Y3.below hu (Nat.le_refl _)) (by omega) (by omega) ex fx ey fy).mono ?_
    rintro r w' ⟨a1, c1, a2, c2, rfl, _, hb⟩
    exact ⟨a1, c1, a2, c2, rfl, hb⟩
  have NM0 : Hid (∀ u : World, Below u3.heap.size u3 u → Calls Tryd.prog 17 #[.slice a3 xs.length c3, .slice a4 ys.length c4] u fun r w' => r = .returned (.bool (decide (xs = ys))) ∧ Below u.heap.size u w') := fun u hu => numsG_any a3 a4 c3 c4 xs ys u (X3.below hu (Nat.le_refl _)) (Y3.below hu (Nat.le_refl _)) (by omega)
  go_wp2_with fail
  refine (implTreeClash_any a3 a4 c3 c4 xs ys _ (HT.out.below W3 (Nat.le_refl _)) X3 Y3 (by omega) (by omega) ex fx ey fy).mono ?_
  rintro r u4 ⟨d1, e1, d2, e2, rfl, O4, hb4⟩
  have OK := cl_ok TSX.out
  have H1 := has_of_own O4.one OK.2.2.1
  have H2 := has_of_own O4.two OK.2.2.2
  have X4 := hb3.trans (hb4.mono hb3.size)
  have Y4 := BV.trans (X4.mono BV.size)
  have W4 := W3.trans (hb4.mono W3.size)
  have TT : Hid (tkC xs ys = 0 → xs ≠ ys → ∃ x, tkX xs ys = some x) := by
    intro h hne
    obtain ⟨_, _, g1, g2, g3⟩ := tkC_zero h
    cases hx : tkX xs ys with
    | some x => exact ⟨x, rfl⟩
    | none =>
      unfold tkX at hx
      rw [if_pos h] at hx
      exact absurd (trC_true _ xs ys (Nat.le_refl _) g2 g1 g3 hx) hne
  have FO : Hid (∀ x, tkX xs ys = some x → (tkX xs ys).isSome = true ∧ ∀ u : World, Below u4.heap.size u4 u → Calls Tryd.prog 24 #[.agg #[.bool (tkX xs ys).isSome, .slice d1 (clA (tkX xs ys)).length e1, .slice d2 (clB (tkX xs ys)).length e2]] u fun r w' => r = .returned (.bool true) ∧ Below u.heap.size u w') := by
    intro x hx
    have hcl := TSX.out x hx
    rw [hx] at H1 H2 ⊢
    exact ⟨rfl, fun u hu => found_any hcl d1 d2 e1 e2 u (H1.below hu (Nat.le_refl _)) (H2.below hu (Nat.le_refl _))⟩
  clear O4 OK H1 H2 hb3 BV WV W2 W3 TSX X3 Y3
  generalize (tkX xs ys).isSome = tf at *
  generalize clA (tkX xs ys) = ks at *
  generalize clB (tkX xs ys) = ns at *
  generalize tkX xs ys = TX at *
  generalize tkC xs ys = tc at *
  have B4 : Below u4.heap.size u4 (u4.alloc (.cells #[.int .i64 tc, .bool tf, .slice d1 ks.length e1, .slice d2 ns.length e2] 31)) := (Below.refl _ _).alloc (Nat.le_refl _) _
  have hq : u4.heap.size < (u4.alloc (.cells #[.int .i64 tc, .bool tf, .slice d1 ks.length e1, .slice d2 ns.length e2] 31)).heap.size := by simp
  have t0 : ∀ wx : World, Below (u4.alloc (.cells #[.int .i64 tc, .bool tf, .slice d1 ks.length e1, .slice d2 ns.length e2] 31)).heap.size (u4.alloc (.cells #[.int .i64 tc, .bool tf, .slice d1 ks.length e1, .slice d2 ns.length e2] 31)) wx → (wx.cell? ⟨u4.heap.size, 0, none⟩ = some (.int .i64 tc) ∧ wx.cell? ⟨u4.heap.size, 1, none⟩ = some (.bool tf) ∧ wx.cell? ⟨u4.heap.size, 2, none⟩ = some (.slice d1 ks.length e1) ∧ wx.cell? ⟨u4.heap.size, 3, none⟩ = some (.slice d2 ns.length e2)) := fun wx h => (var4 h).1
  have XE := X4.alloc X4.size (.cells #[.int .i64 tc, .bool tf, .slice d1 ks.length e1, .slice d2 ns.length e2] 31)
  have YE := Y4.alloc Y4.size (.cells #[.int .i64 tc, .bool tf, .slice d1 ks.length e1, .slice d2 ns.length e2] 31)
  have WE := W4.alloc W4.size (.cells #[.int .i64 tc, .bool tf, .slice d1 ks.length e1, .slice d2 ns.length e2] 31)
  have U3 := hb4.alloc hb4.size (.cells #[.int .i64 tc, .bool tf, .slice d1 ks.length e1, .slice d2 ns.length e2] 31)
  obtain ⟨E, hE⟩ : ∃ E, E = u4.alloc (.cells #[.int .i64 tc, .bool tf, .slice d1 ks.length e1, .slice d2 ns.length e2] 31) := ⟨_, rfl⟩
  obtain ⟨q, hQ⟩ : ∃ q, q = u4.heap.size := ⟨_, rfl⟩
  have t0H : Hid (∀ wx : World, Below E.heap.size E wx → (wx.cell? ⟨q, 0, none⟩ = some (.int .i64 tc) ∧ wx.cell? ⟨q, 1, none⟩ = some (.bool tf) ∧ wx.cell? ⟨q, 2, none⟩ = some (.slice d1 ks.length e1) ∧ wx.cell? ⟨q, 3, none⟩ = some (.slice d2 ns.length e2))) := by rw [hE, hQ]; exact t0
  rw [← hE] at XE YE WE U3 B4
  have STC : Hid (∀ u : World, Below E.heap.size E u → Calls Tryd.prog 32 #[.slice a3 xs.length c3, .slice a4 ys.length c4] u fun r w' => ∃ a1 c1 a2 c2, r = .returned (.agg #[.int .i64 tc, .bool tf, .slice a1 ks.length c1, .slice a2 ns.length c2]) ∧ Below u.heap.size u w') := fun u hu => STC0.out u (U3.trans (hu.mono U3.size))
  have NM : Hid (∀ u : World, Below E.heap.size E u → Calls Tryd.prog 17 #[.slice a3 xs.length c3, .slice a4 ys.length c4] u fun r w' => r = .returned (.bool (decide (xs = ys))) ∧ Below u.heap.size u w') := fun u hu => NM0.out u (U3.trans (hu.mono U3.size))
  have FOE : Hid (∀ x, TX = some x → tf = true ∧ ∀ u : World, Below E.heap.size E u → Calls Tryd.prog 24 #[.agg #[.bool tf, .slice d1 ks.length e1, .slice d2 ns.length e2]] u fun r w' => r = .returned (.bool true) ∧ Below u.heap.size u w') := fun x hx => ⟨(FO.out x hx).1, fun u hu => (FO.out x hx).2 u (B4.trans (hu.mono B4.size))⟩
  have FDX : Hid (∀ x, X = some x → ∀ u : World, Below E.heap.size E u → Calls Tryd.prog 24 #[.agg #[.bool true, .slice b1 x.1.length i1, .slice b2 x.2.length i2]] u fun r w' => r = .returned (.bool true) ∧ Below u.heap.size u w') := by
    intro x hx u hu
    obtain ⟨k1, k2⟩ := KX.out x hx
    have hcl := LS.out x hx
    have g1 := HV1.below (XE.trans (hu.mono XE.size)) (Nat.le_refl _)
    have g2 := HV2.below (XE.trans (hu.mono XE.size)) (Nat.le_refl _)
    rw [k1] at g1
    rw [k2] at g2
    exact found_any hcl b1 b2 i1 i2 u g1 g2
  have XEH : Hid (_) := XE
  have YEH : Hid (_) := YE
  have WEH : Hid (_) := WE
  have R1H : Hid (_) := R1
  have Q1H : Hid (_) := Q1
  have htc : (tc != tc) = false := by simp
  have FQ := fldQ0
  clear t0 hq STC0 NM0 FO X4 Y4 W4 XE YE WE U3 B4 hb4 R1 Q1 HV1 HV2 lx ly ex fx ey fy A0 hsm
  go_wp2_with fail
  simp only [← hE, ← hQ]
  clear hE hQ
  go_cut [52] (fun s52 wx => s52 = .bool false ∧ Below E.heap.size E wx)
  case first =>
    have KS : ∀ wx : World, Below E.heap.size E wx → wx.cell? ⟨q, 0, none⟩ = some (.int .i64 tc) ∧ Below E.heap.size E wx := fun wx h => ⟨(t0H.out wx h).1, h⟩
    have KB : ∀ wx : World, (wx.cell? ⟨q, 0, none⟩ = some (.int .i64 tc) ∧ Below E.heap.size E wx) → Below E.heap.size E wx := fun wx h => h.2
    have KT : ∀ wx wy : World, (wx.cell? ⟨q, 0, none⟩ = some (.int .i64 tc) ∧ Below E.heap.size E wx) → Below wx.heap.size wx wy → (wy.cell? ⟨q, 0, none⟩ = some (.int .i64 tc) ∧ Below E.heap.size E wy) := fun wx wy h hb => ⟨(t0H.out wy (h.2.trans (hb.mono h.2.size))).1, h.2.trans (hb.mono h.2.size)⟩
    have KSH : Hid (_) := KS
    have KSB : Hid (_) := KB
    have KTH : Hid (_) := KT
    clear KS KB KT
    by_cases ht : tc = 0
    · have htb : (tc == 0) = true := by simpa using ht
      by_cases hxy : xs = ys
      · have NMH : Hid (∀ u : World, Below E.heap.size E u → Calls Tryd.prog 17 #[.slice a3 xs.length c3, .slice a4 ys.length c4] u fun r w' => r = .returned (.bool true) ∧ Below u.heap.size u w') := fun u hu => by have := NM.out u hu; rw [decide_eq_true hxy] at this; exact this
        clear hxy ht
        refine wp_region_noPanic ?_
        refine wp_region_held_drew (S := fun wx => wx.cell? ⟨q, 0, none⟩ = some (.int .i64 tc) ∧ Below E.heap.size E wx) (by kernel_rfl) (KSH.out _ (Below.refl _ _).drew) (fun hHeld => ?_)
        refine take_at (i := 0) (d := some 29) (v := ?mv0) rfl rfl (by kernel_rfl) (by kernel_rfl) (by kernel_rfl) (fun _ _ _ h => h) (Or.inl ⟨by rfl, ?my0⟩) (by assumption) ?mg0
        case my0 => (intro z hSz; (try dsimp only at hSz); go_simp; (try with_reducible rfl))
        try simp only [Act.put, List.setIfInBounds_toArray, List.set_cons_zero, List.set_cons_succ]
        refine take_at (i := 1) (d := some 30) (v := ?mv1) rfl rfl (by kernel_rfl) (by kernel_rfl) (by kernel_rfl) (fun _ _ _ h => h) (Or.inl ⟨by rfl, ?my1⟩) (by assumption) ?mg1
        case my1 => (intro z hSz; (try dsimp only at hSz); go_simp; (try with_reducible rfl))
        try simp only [Act.put, List.setIfInBounds_toArray, List.set_cons_zero, List.set_cons_succ]
        refine take_at (i := 2) (d := some 31) (v := ?mv2) rfl rfl (by kernel_rfl) (by kernel_rfl) (by kernel_rfl) (fun _ _ _ h => h) (Or.inl ⟨by rfl, ?my2⟩) (by assumption) ?mg2
        case my2 => (intro z hSz; (try dsimp only at hSz); go_simp; (try with_reducible rfl))
        try simp only [Act.put, List.setIfInBounds_toArray, List.set_cons_zero, List.set_cons_succ]
        refine take_at (i := 3) (d := some 32) (v := ?mv3) rfl rfl (by kernel_rfl) (by kernel_rfl) (by kernel_rfl) (fun _ _ _ h => h) (Or.inl ⟨by rfl, ?my3⟩) (by assumption) ?mg3
        case my3 => (intro z hSz; (try dsimp only at hSz); go_simp; (try with_reducible rfl))
        try simp only [Act.put, List.setIfInBounds_toArray, List.set_cons_zero, List.set_cons_succ]
        refine wpAnyH_ready (rs := [4]) (by kernel_rfl) (by simp) ?_
        refine AllReadyH.cons rfl (fun K hK => ?_) AllReadyH.nil
        go_simp
        (go_at_call 32; refine (STC.out _ (KSB.out _ (by assumption))).mono ?_; rintro r ua ⟨j1, j2, j3, j4, rfl, hba⟩; have hka := KTH.out _ _ (by assumption) hba; clear hba hHeld)
        refine hK.out _ _ hka (fun _ => ?_)
        clear hK K
        try simp only [Act.put, List.setIfInBounds_toArray, List.set_cons_zero, List.set_cons_succ]
        refine take_at (i := 5) (d := some 34) (v := ?mv5) rfl rfl (by kernel_rfl) (by kernel_rfl) (by kernel_rfl) (fun _ _ _ h => h) (Or.inl ⟨by rfl, ?my5⟩) (by assumption) ?mg5
        case my5 => (intro z hSz; (try dsimp only at hSz); go_simp; (try with_reducible rfl))
        try simp only [Act.put, List.setIfInBounds_toArray, List.set_cons_zero, List.set_cons_succ]
        refine take_at (i := 6) (d := some 35) (v := ?mv6) rfl rfl (by kernel_rfl) (by kernel_rfl) (by kernel_rfl) (fun _ _ _ h => h) (Or.inl ⟨by rfl, ?my6⟩) (by assumption) ?mg6
        case my6 => (intro z hSz; (try dsimp only at hSz); go_simp; (try with_reducible rfl))
        try simp only [Act.put, List.setIfInBounds_toArray, List.set_cons_zero, List.set_cons_succ]
        refine take_at (i := 7) (d := some 36) (v := ?mv7) rfl rfl (by kernel_rfl) (by kernel_rfl) (by kernel_rfl) (fun _ _ _ h => h) (Or.inl ⟨by rfl, ?my7⟩) (by assumption) ?mg7
        case my7 => (intro z hSz; (try dsimp only at hSz); go_simp; (try with_reducible rfl))
        try simp only [Act.put, List.setIfInBounds_toArray, List.set_cons_zero, List.set_cons_succ]
        refine take_at (i := 8) (d := some 37) (v := ?mv8) rfl rfl (by kernel_rfl) (by kernel_rfl) (by kernel_rfl) (fun _ _ _ h => h) (Or.inl ⟨by rfl, ?my8⟩) (by assumption) ?mg8
        case my8 => (intro z hSz; (try dsimp only at hSz); go_simp; (try with_reducible rfl))
        try simp only [Act.put, List.setIfInBounds_toArray, List.set_cons_zero, List.set_cons_succ]
        refine take_at (i := 9) (d := some 38) (v := ?mv9) rfl rfl (by kernel_rfl) (by kernel_rfl) (by kernel_rfl) (fun _ _ _ h => h) (Or.inl ⟨by rfl, ?my9⟩) (by assumption) ?mg9
        case my9 => (intro z hSz; (try dsimp only at hSz); go_simp; (try with_reducible rfl))
        try simp only [Act.put, List.setIfInBounds_toArray, List.set_cons_zero, List.set_cons_succ]
        refine take_at (i := 10) (d := some 39) (v := ?mv10) rfl rfl (by kernel_rfl) (by kernel_rfl) (by kernel_rfl) (fun _ _ _ h => h) (Or.inl ⟨by rfl, ?my10⟩) (by assumption) ?mg10
        case my10 => (intro z hSz; (try dsimp only at hSz); go_simp; (try with_reducible rfl))
        try simp only [Act.put, List.setIfInBounds_toArray, List.set_cons_zero, List.set_cons_succ]
        refine take_at (i := 11) (d := some 40) (v := ?mv11) rfl rfl (by kernel_rfl) (by kernel_rfl) (by kernel_rfl) (fun _ _ _ h => h) (Or.inl ⟨by rfl, ?my11⟩) (by assumption) ?mg11
        case my11 => (intro z hSz; (try dsimp only at hSz); go_simp; (try with_reducible rfl))
        try simp only [Act.put, List.setIfInBounds_toArray, List.set_cons_zero, List.set_cons_succ]
        refine take_at (i := 12) (d := some 41) (v := ?mv12) rfl rfl (by kernel_rfl) (by kernel_rfl) (by kernel_rfl) (fun _ _ _ h => h) (Or.inl ⟨by rfl, ?my12⟩) (by assumption) ?mg12
        case my12 => (intro z hSz; (try dsimp only at hSz); go_simp; (try with_reducible rfl))
        try simp only [Act.put, List.setIfInBounds_toArray, List.set_cons_zero, List.set_cons_succ]
        refine take_at (i := 13) (d := some 42) (v := ?mv13) rfl rfl (by kernel_rfl) (by kernel_rfl) (by kernel_rfl) (fun _ _ _ h => h) (Or.inl ⟨by rfl, ?my13⟩) (by assumption) ?mg13
        case my13 => (intro z hSz; (try dsimp only at hSz); go_simp; (try with_reducible rfl))
        try simp only [Act.put, List.setIfInBounds_toArray, List.set_cons_zero, List.set_cons_succ]
        refine wpAnyH_ready (rs := [14]) (by kernel_rfl) (by simp) ?_
        refine AllReadyH.cons rfl (fun K hK => ?_) AllReadyH.nil
        go_simp
        (go_at_call 17; refine (NMH.out _ (KSB.out _ (by assumption))).mono ?_; rintro r ub ⟨rfl, hbb⟩; have hkb := KTH.out _ _ (by assumption) hbb; clear hbb hka)
        refine hK.out _ _ hkb (fun _ => ?_)
        clear hK K
        try simp only [Act.put, List.setIfInBounds_toArray, List.set_cons_zero, List.set_cons_succ]
        refine take_at (i := 15) (d := some 44) (v := ?mv15) rfl rfl (by kernel_rfl) (by kernel_rfl) (by kernel_rfl) (fun _ _ _ h => h) (Or.inl ⟨by rfl, ?my15⟩) (by assumption) ?mg15
        case my15 => (intro z hSz; (try dsimp only at hSz); go_simp; (try with_reducible rfl))
        try simp only [Act.put, List.setIfInBounds_toArray, List.set_cons_zero, List.set_cons_succ]
        refine take_at (i := 16) (d := some 45) (v := ?mv16) rfl rfl (by kernel_rfl) (by kernel_rfl) (by kernel_rfl) (fun _ _ _ h => h) (Or.inl ⟨by rfl, ?my16⟩) (by assumption) ?mg16
        case my16 => (intro z hSz; (try dsimp only at hSz); go_simp; (try with_reducible rfl))
        try simp only [Act.put, List.setIfInBounds_toArray, List.set_cons_zero, List.set_cons_succ]
        refine take_at (i := 17) (d := some 46) (v := ?mv17) rfl rfl (by kernel_rfl) (by kernel_rfl) (by kernel_rfl) (fun _ _ _ h => h) (Or.inl ⟨by rfl, ?my17⟩) (by assumption) ?mg17
        case my17 => (intro z hSz; (try dsimp only at hSz); go_simp; (try with_reducible rfl))
        try simp only [Act.put, List.setIfInBounds_toArray, List.set_cons_zero, List.set_cons_succ]
        refine take_at (i := 18) (d := some 47) (v := undef) rfl rfl (by kernel_rfl) (by kernel_rfl) (by kernel_rfl) (fun _ _ _ h => h) (Or.inr ⟨by rfl, rfl⟩) (by assumption) ?_
        try simp only [Act.put, List.setIfInBounds_toArray, List.set_cons_zero, List.set_cons_succ]
        refine take_at (i := 19) (d := some 48) (v := undef) rfl rfl (by kernel_rfl) (by kernel_rfl) (by kernel_rfl) (fun _ _ _ h => h) (Or.inr ⟨by rfl, rfl⟩) (by assumption) ?_
        try simp only [Act.put, List.setIfInBounds_toArray, List.set_cons_zero, List.set_cons_succ]
        refine take_at (i := 20) (d := some 49) (v := undef) rfl rfl (by kernel_rfl) (by kernel_rfl) (by kernel_rfl) (fun _ _ _ h => h) (Or.inr ⟨by rfl, rfl⟩) (by assumption) ?_
        try simp only [Act.put, List.setIfInBounds_toArray, List.set_cons_zero, List.set_cons_succ]
        refine take_at (i := 21) (d := some 50) (v := undef) rfl rfl (by kernel_rfl) (by kernel_rfl) (by kernel_rfl) (fun _ _ _ h => h) (Or.inr ⟨by rfl, rfl⟩) (by assumption) ?_
        try simp only [Act.put, List.setIfInBounds_toArray, List.set_cons_zero, List.set_cons_succ]
        refine take_at (i := 22) (d := some 51) (v := ?mv22) rfl rfl (by kernel_rfl) (by kernel_rfl) (by kernel_rfl) (fun _ _ _ h => h) (Or.inl ⟨by rfl, ?my22⟩) (by assumption) ?mg22
        case my22 => (intro z hSz; (try dsimp only at hSz); go_simp; (try with_reducible rfl))
        try simp only [Act.put, List.setIfInBounds_toArray, List.set_cons_zero, List.set_cons_succ]
        refine take_at (i := 23) (d := some 52) (v := ?mv23) rfl rfl (by kernel_rfl) (by kernel_rfl) (by kernel_rfl) (fun _ _ _ h => h) (Or.inl ⟨by rfl, ?my23⟩) (by assumption) ?mg23
        case my23 => (intro z hSz; (try dsimp only at hSz); go_simp; (try with_reducible rfl))
        try simp only [Act.put, List.setIfInBounds_toArray, List.set_cons_zero, List.set_cons_succ]
        refine wpAnyH_done (by kernel_rfl) ?_ _
        refine NoPanic.normal ?_
        go_wp2_with fail
        go_meet
        exact ⟨rfl, hkb.2⟩
      · obtain ⟨x, hx⟩ := TT.out ht hxy
        obtain ⟨rfl, hfo⟩ := FOE.out x hx
        have FOH : Hid (_) := hfo
        have NMH : Hid (∀ u : World, Below E.heap.size E u → Calls Tryd.prog 17 #[.slice a3 xs.length c3, .slice a4 ys.length c4] u fun r w' => r = .returned (.bool false) ∧ Below u.heap.size u w') := fun u hu => by have := NM.out u hu; rw [decide_eq_false hxy] at this; exact this
        have k0 : ∀ wx : World, Below E.heap.size E wx → wx.cell? ⟨q, 0, none⟩ = some (.int .i64 tc) := fun wx h => (t0H.out wx h).1
        have k1 : ∀ wx : World, Below E.heap.size E wx → wx.cell? ⟨q, 1, none⟩ = some (.bool true) := fun wx h => (t0H.out wx h).2.1
        have k2 : ∀ wx : World, Below E.heap.size E wx → wx.cell? ⟨q, 2, none⟩ = some (.slice d1 ks.length e1) := fun wx h => (t0H.out wx h).2.2.1
        have k3 : ∀ wx : World, Below E.heap.size E wx → wx.cell? ⟨q, 3, none⟩ = some (.slice d2 ns.length e2) := fun wx h => (t0H.out wx h).2.2.2
        have DE : Below E.heap.size E E.drew := (Below.refl _ _).drew
        clear hxy ht hx hfo
        go_region_held3 (fun wx => Below E.heap.size E wx)
          ((first | exact DE | exact D1 | assumption))
          ((first | (go_at_call 32; refine (STC.out _ (by assumption)).mono ?_; rintro _ ua ⟨j1, j2, j3, j4, rfl, hba⟩; have D1 : Below E.heap.size E ua := Below.trans (by assumption) (hba.mono (Below.size (by assumption)))) | (go_at_call 17; refine (NMH.out _ (by assumption)).mono ?_; rintro _ ua ⟨rfl, hba⟩; have D1 : Below E.heap.size E ua := Below.trans (by assumption) (hba.mono (Below.size (by assumption)))) | (go_at_call 24; refine (FOH.out _ (by assumption)).mono ?_; rintro _ ua ⟨rfl, hba⟩; have D1 : Below E.heap.size E ua := Below.trans (by assumption) (hba.mono (Below.size (by assumption)))) | fail))
        all_goals (go_wp2_with fail; go_meet; exact ⟨rfl, D1⟩)
    · have htb : (tc == 0) = false := by simpa using ht
      clear ht
      refine wp_region_noPanic ?_
      refine wp_region_held_drew (S := fun wx => wx.cell? ⟨q, 0, none⟩ = some (.int .i64 tc) ∧ Below E.heap.size E wx) (by kernel_rfl) (KSH.out _ (Below.refl _ _).drew) (fun hHeld => ?_)
      refine take_at (i := 0) (d := some 29) (v := ?mvb0) rfl rfl (by kernel_rfl) (by kernel_rfl) (by kernel_rfl) (fun _ _ _ h => h) (Or.inl ⟨by rfl, ?myb0⟩) (by assumption) ?mgb0
      case myb0 => (intro z hSz; (try dsimp only at hSz); go_simp; (try with_reducible rfl))
      try simp only [Act.put, List.setIfInBounds_toArray, List.set_cons_zero, List.set_cons_succ]
      refine take_at (i := 1) (d := some 30) (v := ?mvb1) rfl rfl (by kernel_rfl) (by kernel_rfl) (by kernel_rfl) (fun _ _ _ h => h) (Or.inl ⟨by rfl, ?myb1⟩) (by assumption) ?mgb1
      case myb1 => (intro z hSz; (try dsimp only at hSz); go_simp; (try with_reducible rfl))
      try simp only [Act.put, List.setIfInBounds_toArray, List.set_cons_zero, List.set_cons_succ]
      refine take_at (i := 2) (d := some 31) (v := ?mvb2) rfl rfl (by kernel_rfl) (by kernel_rfl) (by kernel_rfl) (fun _ _ _ h => h) (Or.inl ⟨by rfl, ?myb2⟩) (by assumption) ?mgb2
      case myb2 => (intro z hSz; (try dsimp only at hSz); go_simp; (try with_reducible rfl))
      try simp only [Act.put, List.setIfInBounds_toArray, List.set_cons_zero, List.set_cons_succ]
      refine take_at (i := 3) (d := some 32) (v := ?mvb3) rfl rfl (by kernel_rfl) (by kernel_rfl) (by kernel_rfl) (fun _ _ _ h => h) (Or.inl ⟨by rfl, ?myb3⟩) (by assumption) ?mgb3
      case myb3 => (intro z hSz; (try dsimp only at hSz); go_simp; (try with_reducible rfl))
      try simp only [Act.put, List.setIfInBounds_toArray, List.set_cons_zero, List.set_cons_succ]
      refine wpAnyH_ready (rs := [4]) (by kernel_rfl) (by simp) ?_
      refine AllReadyH.cons rfl (fun K hK => ?_) AllReadyH.nil
      go_simp
      (go_at_call 32; refine (STC.out _ (KSB.out _ (by assumption))).mono ?_; rintro r ua ⟨j1, j2, j3, j4, rfl, hba⟩; have hka := KTH.out _ _ (by assumption) hba; clear hba hHeld)
      refine hK.out _ _ hka (fun _ => ?_)
      clear hK K
      try simp only [Act.put, List.setIfInBounds_toArray, List.set_cons_zero, List.set_cons_succ]
      refine take_at (i := 5) (d := some 34) (v := ?mvb5) rfl rfl (by kernel_rfl) (by kernel_rfl) (by kernel_rfl) (fun _ _ _ h => h) (Or.inl ⟨by rfl, ?myb5⟩) (by assumption) ?mgb5
      case myb5 => (intro z hSz; (try dsimp only at hSz); go_simp; (try with_reducible rfl))
      try simp only [Act.put, List.setIfInBounds_toArray, List.set_cons_zero, List.set_cons_succ]
      refine take_at (i := 6) (d := some 35) (v := ?mvb6) rfl rfl (by kernel_rfl) (by kernel_rfl) (by kernel_rfl) (fun _ _ _ h => h) (Or.inl ⟨by rfl, ?myb6⟩) (by assumption) ?mgb6
      case myb6 => (intro z hSz; (try dsimp only at hSz); go_simp; (try with_reducible rfl))
      try simp only [Act.put, List.setIfInBounds_toArray, List.set_cons_zero, List.set_cons_succ]
      refine take_at (i := 7) (d := some 36) (v := ?mvb7) rfl rfl (by kernel_rfl) (by kernel_rfl) (by kernel_rfl) (fun _ _ _ h => h) (Or.inl ⟨by rfl, ?myb7⟩) (by assumption) ?mgb7
      case myb7 => (intro z hSz; (try dsimp only at hSz); go_simp; (try with_reducible rfl))
      try simp only [Act.put, List.setIfInBounds_toArray, List.set_cons_zero, List.set_cons_succ]
      refine take_at (i := 8) (d := some 37) (v := ?mvb8) rfl rfl (by kernel_rfl) (by kernel_rfl) (by kernel_rfl) (fun _ _ _ h => h) (Or.inl ⟨by rfl, ?myb8⟩) (by assumption) ?mgb8
      case myb8 => (intro z hSz; (try dsimp only at hSz); go_simp; (try with_reducible rfl))
      try simp only [Act.put, List.setIfInBounds_toArray, List.set_cons_zero, List.set_cons_succ]
      refine take_at (i := 9) (d := some 38) (v := ?mvb9) rfl rfl (by kernel_rfl) (by kernel_rfl) (by kernel_rfl) (fun _ _ _ h => h) (Or.inl ⟨by rfl, ?myb9⟩) (by assumption) ?mgb9
      case myb9 => (intro z hSz; (try dsimp only at hSz); go_simp; (try with_reducible rfl))
      try simp only [Act.put, List.setIfInBounds_toArray, List.set_cons_zero, List.set_cons_succ]
      refine take_at (i := 10) (d := some 39) (v := ?mvb10) rfl rfl (by kernel_rfl) (by kernel_rfl) (by kernel_rfl) (fun _ _ _ h => h) (Or.inl ⟨by rfl, ?myb10⟩) (by assumption) ?mgb10
      case myb10 => (intro z hSz; (try dsimp only at hSz); go_simp; (try with_reducible rfl))
      try simp only [Act.put, List.setIfInBounds_toArray, List.set_cons_zero, List.set_cons_succ]
      refine take_at (i := 11) (d := some 40) (v := ?mvb11) rfl rfl (by kernel_rfl) (by kernel_rfl) (by kernel_rfl) (fun _ _ _ h => h) (Or.inl ⟨by rfl, ?myb11⟩) (by assumption) ?mgb11
      case myb11 => (intro z hSz; (try dsimp only at hSz); go_simp; (try with_reducible rfl))
      try simp only [Act.put, List.setIfInBounds_toArray, List.set_cons_zero, List.set_cons_succ]
      refine take_at (i := 12) (d := some 41) (v := undef) rfl rfl (by kernel_rfl) (by kernel_rfl) (by kernel_rfl) (fun _ _ _ h => h) (Or.inr ⟨by rfl, rfl⟩) (by assumption) ?_
      try simp only [Act.put, List.setIfInBounds_toArray, List.set_cons_zero, List.set_cons_succ]
      refine take_at (i := 13) (d := some 42) (v := undef) rfl rfl (by kernel_rfl) (by kernel_rfl) (by kernel_rfl) (fun _ _ _ h => h) (Or.inr ⟨by rfl, rfl⟩) (by assumption) ?_
      try simp only [Act.put, List.setIfInBounds_toArray, List.set_cons_zero, List.set_cons_succ]
      refine take_at (i := 14) (d := some 43) (v := undef) rfl rfl (by kernel_rfl) (by kernel_rfl) (by kernel_rfl) (fun _ _ _ h => h) (Or.inr ⟨by rfl, rfl⟩) (by assumption) ?_
      try simp only [Act.put, List.setIfInBounds_toArray, List.set_cons_zero, List.set_cons_succ]
      refine take_at (i := 15) (d := some 44) (v := undef) rfl rfl (by kernel_rfl) (by kernel_rfl) (by kernel_rfl) (fun _ _ _ h => h) (Or.inr ⟨by rfl, rfl⟩) (by assumption) ?_
      try simp only [Act.put, List.setIfInBounds_toArray, List.set_cons_zero, List.set_cons_succ]
      refine take_at (i := 16) (d := some 45) (v := ?mvb16) rfl rfl (by kernel_rfl) (by kernel_rfl) (by kernel_rfl) (fun _ _ _ h => h) (Or.inl ⟨by rfl, ?myb16⟩) (by assumption) ?mgb16
      case myb16 => (intro z hSz; (try dsimp only at hSz); go_simp; (try with_reducible rfl))
      try simp only [Act.put, List.setIfInBounds_toArray, List.set_cons_zero, List.set_cons_succ]
      refine take_at (i := 17) (d := some 46) (v := ?mvb17) rfl rfl (by kernel_rfl) (by kernel_rfl) (by kernel_rfl) (fun _ _ _ h => h) (Or.inl ⟨by rfl, ?myb17⟩) (by assumption) ?mgb17
      case myb17 => (intro z hSz; (try dsimp only at hSz); go_simp; (try with_reducible rfl))
      try simp only [Act.put, List.setIfInBounds_toArray, List.set_cons_zero, List.set_cons_succ]
      refine take_at (i := 18) (d := some 47) (v := undef) rfl rfl (by kernel_rfl) (by kernel_rfl) (by kernel_rfl) (fun _ _ _ h => h) (Or.inr ⟨by rfl, rfl⟩) (by assumption) ?_
      try simp only [Act.put, List.setIfInBounds_toArray, List.set_cons_zero, List.set_cons_succ]
      refine take_at (i := 19) (d := some 48) (v := undef) rfl rfl (by kernel_rfl) (by kernel_rfl) (by kernel_rfl) (fun _ _ _ h => h) (Or.inr ⟨by rfl, rfl⟩) (by assumption) ?_
      try simp only [Act.put, List.setIfInBounds_toArray, List.set_cons_zero, List.set_cons_succ]
      refine take_at (i := 20) (d := some 49) (v := undef) rfl rfl (by kernel_rfl) (by kernel_rfl) (by kernel_rfl) (fun _ _ _ h => h) (Or.inr ⟨by rfl, rfl⟩) (by assumption) ?_
      try simp only [Act.put, List.setIfInBounds_toArray, List.set_cons_zero, List.set_cons_succ]
      refine take_at (i := 21) (d := some 50) (v := undef) rfl rfl (by kernel_rfl) (by kernel_rfl) (by kernel_rfl) (fun _ _ _ h => h) (Or.inr ⟨by rfl, rfl⟩) (by assumption) ?_
      try simp only [Act.put, List.setIfInBounds_toArray, List.set_cons_zero, List.set_cons_succ]
      refine take_at (i := 22) (d := some 51) (v := ?mvb22) rfl rfl (by kernel_rfl) (by kernel_rfl) (by kernel_rfl) (fun _ _ _ h => h) (Or.inl ⟨by rfl, ?myb22⟩) (by assumption) ?mgb22
      case myb22 => (intro z hSz; (try dsimp only at hSz); go_simp; (try with_reducible rfl))
      try simp only [Act.put, List.setIfInBounds_toArray, List.set_cons_zero, List.set_cons_succ]
      refine take_at (i := 23) (d := some 52) (v := ?mvb23) rfl rfl (by kernel_rfl) (by kernel_rfl) (by kernel_rfl) (fun _ _ _ h => h) (Or.inl ⟨by rfl, ?myb23⟩) (by assumption) ?mgb23
      case myb23 => (intro z hSz; (try dsimp only at hSz); go_simp; (try with_reducible rfl))
      try simp only [Act.put, List.setIfInBounds_toArray, List.set_cons_zero, List.set_cons_succ]
      refine wpAnyH_done (by kernel_rfl) ?_ _
      refine NoPanic.normal ?_
      go_wp2_with fail
      go_meet
      exact ⟨rfl, hka.2⟩
  case rest =>
    obtain ⟨rfl, hcb⟩ := hcut
    have c0 : ∀ wx : World, Below E.heap.size E wx → (wx.cell? ⟨u2.heap.size, 0, none⟩ = some (.int .i64 cc) ∧ wx.cell? ⟨u2.heap.size, 1, none⟩ = some (.bool ff) ∧ wx.cell? ⟨u2.heap.size, 2, none⟩ = some (.slice b1 ls.length i1) ∧ wx.cell? ⟨u2.heap.size, 3, none⟩ = some (.slice b2 ms.length i2)) := fun wx h => (var4 (XEH.out.trans (h.mono XEH.out.size))).1
    have C0 : Hid (_) := c0
    have FIN : Hid (∀ u : World, Below E.heap.size E u → Below w.heap.size w u) := fun u hu => WEH.out.trans (hu.mono WEH.out.size)
    have v0 := (C0.out _ hcb).1
    clear c0 t0H STC NM FOE TT htc
    by_cases hcode : cc = 0
    · have cb : (cc != 0) = false := by simpa using hcode
      have LL := LT.out hcode
      have HLen : Hid (rs.length = qs.length) := LL.1
      have HMap : Hid (X = none → rs.map Pc.zs = qs.map Pc.zs) := LL.2
      have hll : ((rs.length : Int) != (rs.length : Int)) = false := by simp
      have LW : Hid (∀ (u : World) (k : Nat) (h1 : k < rs.length) (h2 : k < qs.length), Below E.heap.size E u → Calls Tryd.prog 23 #[.slice rs[k].ad rs[k].zs.length rs[k].cap, .slice qs[k].ad qs[k].zs.length qs[k].cap] u fun r w' => r = .returned (.bool (decide (rs[k].zs = qs[k].zs))) ∧ w' = u) := by
        intro u k h1 h2 hu
        have hb := YEH.out.trans (hu.mono YEH.out.size)
        exact lwBytesP_any _ _ _ _ _ _ u (Has.below (R1H.out.2 _ (List.getElem_mem h1)).1 hb (Nat.le_refl _)) (Has.below (Q1H.out.2 _ (List.getElem_mem h2)).1 hb (Nat.le_refl _))
      have RC : Hid (∀ (u : World), Below E.heap.size E u → HasP u a1 rs ∧ HasP u a2 qs) := fun u hu => ⟨HasP.below R1H.out (YEH.out.trans (hu.mono YEH.out.size)) (Nat.le_refl _), HasP.below Q1H.out (YEH.out.trans (hu.mono YEH.out.size)) (Nat.le_refl _)⟩
      clear LL hcode SP
      rw [← HLen.out]
      go_wp2
      go_loopw [9, 10] (fun s i wr => ∃ (k : Nat) (sb : Bool), k ≤ rs.length ∧ i = .int .i64 k ∧ s = .bool sb ∧ (rs.map Pc.zs = qs.map Pc.zs → sb = true) ∧ Below E.heap.size E wr) (fun _ i _ => rs.length - (intOf i).toNat)
      case atStart => exact ⟨0, true, Nat.zero_le _, rfl, rfl, fun _ => rfl, by first | exact hcb | exact below_drewN hcb _⟩
      case round =>
        obtain ⟨k, sb, hk, rfl, rfl, hsb, hB⟩ := hrel
        have SBH : Hid (_) := hsb
        clear hsb v0 hcb
        by_cases hlt : k < rs.length
        · have hlt' : (k : Int) < (rs.length : Int) := by omega
          have hl2 : k < qs.length := by have := HLen.out; omega
          obtain ⟨P1, P2⟩ := RC.out _ hB
          obtain ⟨g1, o1, hx1, _, hc1⟩ : ∃ b off, a1 = some ⟨b, off, none⟩ ∧ b < wr.heap.size ∧ ∀ i (h : i < rs.length), wr.cell? ⟨b, off + i, none⟩ = some (.slice rs[i].ad rs[i].zs.length rs[i].cap) := by
            rcases P1.1 with c | h
            · omega
            · exact h
          obtain ⟨g2, o2, hx2, _, hc2⟩ : ∃ b off, a2 = some ⟨b, off, none⟩ ∧ b < wr.heap.size ∧ ∀ i (h : i < qs.length), wr.cell? ⟨b, off + i, none⟩ = some (.slice qs[i].ad qs[i].zs.length qs[i].cap) := by
            rcases P2.1 with c | h
            · omega
            · exact h
          subst hx1 hx2
          have y1 := hc1 k hlt
          have y2 := hc2 k hl2
          have LB := fun (u : World) (hu : Below E.heap.size E u) => LW.out u k hlt hl2 hu
          have ZZ : Hid (rs.map Pc.zs = qs.map Pc.zs → decide (rs[k].zs = qs[k].zs) = true) := by
            intro h
            apply decide_eq_true
            have h2 := congrArg (fun l => l[k]?) h
            simpa [hlt, hl2] using h2
          clear hc1 hc2 P1 P2
          generalize rs[k] = r1 at *
          generalize qs[k] = r2 at *
          generalize decide (r1.zs = r2.zs) = db at *
          have LBH : Hid (_) := LB
          clear LB
          cases sb with
          | false =>
            go_wp2
            go_quiet (fail)
            go_wp2
            go_roundw
            case rel => exact ⟨k + 1, false, by omega, by go_num, rfl, SBH.out, by first | exact hB | exact below_drewN hB _⟩
            case measure => simp [intOf]; omega
          | true =>
            go_wp2
            go_quiet ((go_at_call 23; exact Calls.quiet_of_same (LBH.out _ (below_drewN hB _))))
            go_wp2
            go_roundw
            case rel => exact ⟨k + 1, db, by omega, by go_num, rfl, ZZ.out, by first | exact hB | exact below_drewN hB _⟩
            case measure => simp [intOf]; omega
        · have hlt' : ¬ (k : Int) < (rs.length : Int) := by omega
          obtain ⟨w0, w1, w2, w3⟩ := C0.out _ hB
          cases ff with
          | false =>
            have hs := SBH.out (HMap.out (hff.out rfl))
            subst hs
            go_wp2_with fail
            go_ret
            exact ⟨rfl, FIN.out _ (by first | exact hB | exact below_drewN hB _)⟩
          | true =>
            obtain ⟨x, hx⟩ := htt.out rfl
            have hcl := LS.out x hx
            obtain ⟨k1, k2⟩ := KX.out x hx
            subst k1 k2
            have FD : Hid (_) := FDX.out x hx
            clear hcl hx FDX
            cases sb with
            | false =>
              go_wp2_with fail
              refine (FD.out _ (by first | exact hB | exact below_drewN hB _)).mono ?_
              rintro r u15 ⟨rfl, hb15⟩
              go_wp2
              go_ret
              exact ⟨rfl, FIN.out _ (hB.trans (hb15.mono hB.size))⟩
            | true =>
              go_wp2_with fail
              refine (FD.out _ (by first | exact hB | exact below_drewN hB _)).mono ?_
              rintro r u15 ⟨rfl, hb15⟩
              go_wp2
              go_ret
              exact ⟨rfl, FIN.out _ (hB.trans (hb15.mono hB.size))⟩
    · have cb : (cc != 0) = true := by simpa using hcode
      have hcc : (cc == cc) = true := by simp
      have k0 : ∀ wx : World, Below E.heap.size E wx → wx.cell? ⟨u2.heap.size, 0, none⟩ = some (.int .i64 cc) := fun wx h => (C0.out wx h).1
      have SPE : Hid (∀ u : World, Below E.heap.size E u → Calls Tryd.prog 33 #[.slice a1 rs.length c1, .slice a2 qs.length c2] u fun r w' => ∃ a1 c1 a2 c2, r = .returned (.agg #[.int .i64 cc, .bool ff, .slice a1 ls.length c1, .slice a2 ms.length c2]) ∧ Below u.heap.size u w') := fun u hu => SP.out u (YEH.out.trans (hu.mono YEH.out.size))
      have DE := hcb.drew
      clear hcode SP LT LS KX hff htt
      go_wp2_with fail
      clear v0
      go_region_held3 (fun wx => Below E.heap.size E wx)
        ((first | exact DE | exact D1 | assumption))
        ((first | (go_at_call 33; refine (SPE.out _ (by assumption)).mono ?_; rintro _ ua ⟨j1, j2, j3, j4, rfl, hba⟩; have D1 : Below E.heap.size E ua := Below.trans (by assumption) (hba.mono (Below.size (by assumption)))) | fail))
      go_wp2
      go_ret
      exact ⟨by first | rfl | simp, FIN.out _ D1⟩

set_option maxRecDepth 100000 in
theorem fnTreeTrue_lifted (os : Os) (started : os.Started) (H : Type) (enc : TypeId × Value → H) :
    ReturnsInHanded {} Tryd.checked os 5 .any (fun w args => (Rows.fnTreeTrueSpec.pre enc Tryd.prog Tryd.f5 [] false w args ∧ laidMetH Tryd.prog [("loop.example/g00565/impl.pieceStarts", Rows.laid_loop_example_g00565_impl_pieceStarts)] w) ∧ sizedMet enc Tryd.prog Tryd.f5 (OpenSpec.ofChange Rows.fnTreeTrueSpec) false w args) (Rows.fnTreeTrueSpec.post enc Tryd.prog Tryd.f5 false true false false) := by
  refine returnsInHanded_of_change_and (C := Tryd.checked) (X := fun w _ => laidMetH Tryd.prog [("loop.example/g00565/impl.pieceStarts", Rows.laid_loop_example_g00565_impl_pieceStarts)] w) (fun _ _ _ hh h => h.of_heap hh) own started (by kernel_rfl) Tryd.func5
    (ChangeSpec.witness_shaped (enc := enc) (C := Tryd.checked) (os := os) (X := fun w _ => laidMetH Tryd.prog [("loop.example/g00565/impl.pieceStarts", Rows.laid_loop_example_g00565_impl_pieceStarts)] w) false (World.doorLaid Tryd.prog 400 os) #[.slice none 0 0] 8 rfl (World.shaped_of_RefB (by kernel_rfl) (by kernel_rfl)) (by kernel_rfl) (by kernel_rfl) (by kernel_rfl) (door_met os _)) ?_
  intro W base args ds gs before hval0 hW _ _ hL _
  have hval : ∀ (j : Nat) t v, Tryd.f5.params[j]? = some t → args[j]? = some v → Value.okWide Tryd.prog W .any base t v := hval0
  have hW' := hW
  obtain ⟨p, q, hA0, hV, rfl, hfz, hnd⟩ := hW
  have hA : DataW.TrodAll enc Tryd.prog W 0 (fun _ => true) true Tryd.f5.params.toList args.toList ds p := hA0
  rw [Tryd.params5] at hA hval
  obtain ⟨v0, vs0, d0, ds0, p0, q0, hargs, rfl, rfl, h0, r0⟩ := trodAll_cons hA
  obtain ⟨rfl, rfl, rfl⟩ := trodAll_nil r0
  obtain rfl : args = #[v0] := by cases args; simp_all
  obtain ⟨g, rfl⟩ : ∃ g, gs = [g] := by obtain ⟨_, _, _, _, d, _, e, _⟩ := trodVars_one hV; exact ⟨d, e⟩
  have g0 := h0
  have lt0 : ∀ x ∈ p0, x.block < W.heap.size := by obtain ⟨m, hm⟩ := g0; exact DataW.trod_lt m _ _ _ hm
  obtain ⟨a0, len0, cap0, rfl⟩ := okWide_slice Tryd.underlying22 (hval 0 22 v0 rfl rfl)
  obtain ⟨z0, w0⟩ : ∃ zs, IsRow .u8 W a0 len0 cap0 zs := by
    obtain ⟨fuel, hf⟩ := h0
    rcases open_ints Tryd.underlying22 Tryd.underlying5 (by kernel_rfl) hf with ⟨hcs, _⟩ | ⟨x, l, c, zs, hcs, _, hl, hm, hz, _, hcell, hwz⟩
    · simp [Value.cells] at hcs
      obtain ⟨rfl, rfl, rfl⟩ := hcs
      exact ⟨[], .inl ⟨rfl, rfl, rfl, rfl⟩⟩
    · simp [Value.cells] at hcs
      obtain ⟨rfl, rfl, rfl⟩ := hcs
      exact ⟨zs, .inr ⟨_, rfl, hl, hm, by simpa using hz, hcell, hwz⟩⟩
  clear hA0 hval0
  refine (fnTreeTrue_walk W (tab_of_laid hL) a0 len0 cap0 z0 w0).mono fun e W' ⟨he, bel⟩ => ?_
  subst he
  exact ⟨_, rfl, _, _, _, [], _, _, hW', trodAll_mk1 (shut_bool Tryd.underlying4 _), (trodAll_cons_mk (Below.trod laidOut (by kernel_rfl) (of_decide_eq_true (by kernel_rfl)) g0 bel lt0) trodAll_mk0), Below.trodVars laidOut bel (by kernel_rfl) hV, bel.frame _, fun h => by cases h⟩

theorem fnTreeTrue_row : Rows.FnTreeTrueSaid :=
  OpenClaim.holds_of_wide 5 Tryd.f5 rfl rfl rfl rfl rfl rfl rfl ⟨rfl, rfl, rfl, rfl, rfl⟩ rfl rfl rfl rfl rfl (by kernel_rfl) Tryd.func5 (by kernel_rfl)
    (of_decide_eq_true (by kernel_rfl)) (by unfold Func.isWrapper; first | (rw [if_pos (by decide +kernel)]; kernel_rfl) | (rw [if_neg (by decide +kernel)]; exact ⟨rfl, rfl⟩))
    (fun os started H enc _ => fnTreeTrue_lifted os started H enc)

theorem fnTreeTrue_holds : Rows.FnTreeTrueCardSaid :=
  Claim7.holds_tied_plain_at .later [] [.data] true Rows.fnTreeTrueCard.stood.harness Rows.fnTreeTrueCard.stood.looks
    fnTreeTrue_row (fun _ h => by cases h) (by kernel_rfl) (fun _ h => by cases h) fnTreeTrue_row_tie rfl ⟨rfl, rfl⟩ (by kernel_rfl) rfl
    (fun f fn hf hfn => by
      obtain rfl : f = 5 := Option.some.inj ((show Tryd.prog.funcNamed "loop.example/g00565/laws.FnTreeTrue" = some 5 by kernel_rfl).symm.trans hf) |>.symm
      obtain rfl : fn = Tryd.f5 := (Option.some.inj (Tryd.func5.symm.trans hfn)).symm
      exact ⟨by kernel_rfl, fun j t ht => by
        rw [Tryd.params5] at ht
        have h3 : t = 22 := by
          match j, ht with
          | 0, ht => simp at ht; simp [← ht]
          | _ + 1, ht => simp at ht
        rcases h3 with rfl
        all_goals exact (show Tryd.prog.wantsStandIn _ = false by kernel_rfl)⟩)
    (by kernel_rfl)
#print axioms fnTreeTrue_holds
end Go.Proofs.YtklhkhlmhddmcaaDoor
