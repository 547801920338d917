/- Contracts: the model's draw of a bent signature. -/
import Derived.Test.YtncckpdglimdoaaDoorKyW
import Derived.Test.YtncckpdglimdoaaDoorKySg
import Derived.Test.YtncckpdglimdoaaDoorMoves
import Derived.Test.YtncckpdglimdoaaDoorRegB
import Derived.Test.YtncckpdglimdoaaDoorKyE
namespace Go.Proofs.YtncckpdglimdoaaDoor
open Go.ChangeShapes Go.WideShapes Go.ChangeAt Go.RowKit
set_option maxRecDepth 100000
set_option linter.unusedVariables false
set_option linter.unusedSimpArgs false

theorem al_o {s : Nat} {X Y : World} (h : Only s X Y) : ∃ Z, Z = Y := ⟨_, rfl⟩
theorem SBX {W : World} {p : Nat} {cs : Array Value} {T : Nat} (h : Blk W p cs T) : Below 0 W W := Below.refl _ _
theorem blk_nums {u : World} {g : Nat} {ys : List Int} {T : Nat} {cs : Array Value} (h : Blk u g cs T) (hc : cs = (ys.map (Value.int .i64)).toArray) : ∀ i, i < ys.length → u.cell? ⟨g, i, none⟩ = some (.int .i64 (ys.getD i 0)) := by
  intro i hi
  subst hc
  rw [h.cell i]
  simp [hi]

set_option maxHeartbeats 4000000 in
theorem l8Bent_any (w : World) (B s : Nat) (a : Option Addr) (len cap : Nat) (zs : List Int) (t : Nat) (h : SrcAt w B s a len cap zs t) (ht : t ≤ 100000) :
    Calls Tryd.prog 83 #[.pointer (some ⟨s, 0, none⟩)] w fun e w' => ∃ (i : Int) (a1 : Option Addr) (c1 : Nat) (sh : List Int) (a2 : Option Addr) (c2 : Nat) (ot : List Int) (x : Int) (t' : Nat), e = .returned (.tuple #[.agg #[.int .i64 i, .slice a1 sh.length c1, .slice a2 ot.length c2], .int .i64 x]) ∧ sh.length ≤ 16 ∧ ot.length ≤ 16 ∧ (∀ y, a1 = some y → w.heap.size ≤ y.block) ∧ (∀ y, a2 = some y → w.heap.size ≤ y.block) ∧ Has w' .i64 a1 sh.length sh ∧ Has w' .i64 a2 ot.length ot ∧ SrcAt w' B s a len cap zs t' ∧ t' ≤ t + 10 ∧ Only s w w' := by
  have hlt := h.lt
  obtain ⟨V0, hV0⟩ : ∃ V0, V0 = w.heap.size := ⟨_, rfl⟩
  obtain ⟨E, hE⟩ : ∃ E, E = w.alloc (.cells #[.int .i64 0, .slice none 0 0, .slice none 0 0] 28) := ⟨_, rfl⟩
  have RE : Blk E V0 #[.int .i64 0, .slice none 0 0, .slice none 0 0] 28 := by rw [hE, hV0]; exact Blk.new _ _ _
  have zE : E.heap.size = V0 + 1 := by rw [hE, hV0]; simp
  have SE : SrcAt E B s a len cap zs t := by rw [hE]; exact h.alloc _
  have NE : Only s w E := by rw [hE]; exact (Only.refl _ _).alloc _
  have hsV : s < V0 := by omega
  have vw : w.heap.size ≤ V0 := by omega
  have vw2 : V0 ≤ w.heap.size := by omega
  clear h
  go_enter Tryd.func83, Tryd.ntmps83
  go_wp2_with fail
  simp only [← hV0, ← hE]
  clear hE hV0
  refine (next_wide _ B s a len cap zs _ 65521 SE (by omega) (by omega) (by omega)).mono ?_
  rintro e u1 ⟨x, rfl, x0, x1, S1, Y1⟩
  go_wp2_with fail
  refine (next_any _ B s a len cap zs _ 4 S1 (by omega) (by omega) (by omega)).mono ?_
  rintro e u2 ⟨p, rfl, p0, p1, S2, Y2⟩
  go_wp2_with fail
  refine (next_any _ B s a len cap zs _ 5 S2 (by omega) (by omega) (by omega)).mono ?_
  rintro e u3 ⟨i, rfl, i0, i1, S3, Y3⟩
  have Y13 := (Y1.trans Y2).trans Y3
  have N3 := NE.trans Y13
  have R3 : Blk u3 V0 #[.int .i64 0, .slice none 0 0, .slice none 0 0] 28 := RE.fr (M := fun k => s = k) (.of_grown Y13.grown (fun k e => by simpa using e)) (by omega)
  clear S1 S2 Y1 Y2 Y3 SE RE NE Y13
  have z3 := R3.lt
  go_wp2_with fail
  refine (l8Sign_any p i x _ (by omega) (by omega) (by omega)).mono ?_
  rintro e u4 ⟨a1, c1, a2, c2, rfl, O1, O2, ap, hb4⟩
  have l1_ : (shW p i x (List.range 16)).length = 16 := by rw [shW_len]; simp
  have l2_ : (otW p i x (List.range 16)).length = 16 := by rw [otW_len]; simp
  have w1 := allS_wf (shW_all p i x (List.range 16))
  have w2 := allS_wf (otW_all p i x (List.range 16))
  generalize shW p i x (List.range 16) = sh at *
  generalize otW p i x (List.range 16) = ot at *
  have L1 : Hid (sh.length = 16) := l1_
  have L2 : Hid (ot.length = 16) := l2_
  clear l1_ l2_
  obtain ⟨g1, rfl, gl1, k1⟩ := ownN_at O1 (by have := L1.out; omega)
  obtain ⟨g2, rfl, gl2, k2⟩ := ownN_at O2 (by have := L2.out; omega)
  have ap' : g1 ≠ g2 := ap _ _ rfl rfl
  have cap1 := own_caps8 O1
  have cap2 := own_caps8 O2
  have R4 := R3.below hb4 R3.lt
  have S4 := S3.below' hb4 (by omega)
  have N4 := N3.then_below (hb4.mono (by omega))
  have z4 := hb4.size
  clear R3 S3 N3 hb4 ap
  obtain ⟨F, hF⟩ : ∃ F, F = u4.alloc (.cells #[.int .i64 i, .slice (some ⟨g1, 0, none⟩) sh.length c1, .slice (some ⟨g2, 0, none⟩) ot.length c2] 28) := ⟨_, rfl⟩
  obtain ⟨V, hV⟩ : ∃ V, V = u4.heap.size := ⟨_, rfl⟩
  have bF : Below u4.heap.size u4 F := by rw [hF]; exact (Below.refl _ _).alloc (Nat.le_refl _) _
  have SF : Blk F V #[.int .i64 i, .slice (some ⟨g1, 0, none⟩) sh.length c1, .slice (some ⟨g2, 0, none⟩) ot.length c2] 28 := by rw [hF, hV]; exact Blk.new _ _ _
  have RF := R4.below bF R4.lt
  have O1F := own_below O1 bF
  have O2F := own_below O2 bF
  have SrF := S4.below bF
  have NF := N4.then_below (bF.mono (by omega))
  have hVW : V0 ≠ V := by omega
  have hVV : V ≠ V0 := by omega
  have v1 : g1 ≠ V := by omega
  have v2 : g2 ≠ V := by omega
  have v3 : g1 ≠ V0 := by omega
  have v4 : g2 ≠ V0 := by omega
  have hsV2 : V ≠ s := by omega
  have hg1 : g1 ≠ s := by omega
  have hg2 : g2 ≠ s := by omega
  have vb : w.heap.size ≤ V := by omega
  have vg1 : w.heap.size ≤ g1 := by omega
  have vg2 : w.heap.size ≤ g2 := by omega
  have zF : V < F.heap.size := SF.lt
  clear R4 O1 O2 S4 N4 bF
  go_wp2_with fail
  simp only [← hV, ← hF]
  clear hF hV
  refine (next_any _ B s a len cap zs _ 12 SrF (by omega) (by omega) (by omega)).mono ?_
  rintro e u5 ⟨q, rfl, q0, q1, S5, Y5⟩
  have f5 : Fr (fun k => s = k) F u5 := .of_grown Y5.grown (fun k e => by simpa using e)
  have SV := SF.fr f5 (fun e => hsV2 e.symm)
  have RV := RF.fr f5 (by omega)
  have P1 := own_only O1F Y5 (by omega)
  have P2 := own_only O2F Y5 (by omega)
  have N5 := NF.trans Y5
  have z5 := Y5.size
  have H1 := has_of_own P1 w1
  have H2 := has_of_own P2 w2
  have hle : V0 ≤ V := by omega
  clear f5 SF RF O1F O2F SrF NF Y5
  by_cases d0 : q = 0
  · have d0b : (q == 0) = true := by simpa using d0
    clear d0
    have PH : Hid (∀ i, i < ([1, 8, -1] : List Int).length → (u5.alloc (.cells #[.int .i64 1, .int .i64 8, .int .i64 (-1)] 2)).cell? ⟨u5.heap.size, i, none⟩ = some (.int .i64 (([1, 8, -1] : List Int).getD i 0))) := cells_lit u5 [1, 8, -1] 2 _ rfl
    go_wp2_with fail
    refine (pick_any _ B s a len cap zs _ (S5.alloc _) (by omega) u5.heap.size [1, 8, -1] 3 rfl (by simp) (by omega) (by omega) (by omega) 3 PH.out).mono ?_
    rintro e u6 ⟨y, rfl, hp, S6, Y6⟩
    have bl := (Below.refl u5.heap.size u5).alloc (Nat.le_refl _) (.cells #[.int .i64 1, .int .i64 8, .int .i64 (-1)] 2)
    have f6 : Fr (fun k => s = k) u5 u6 := (Fr.of_below bl (Nat.le_refl _)).trans (.of_grown (w := u5.alloc (.cells #[.int .i64 1, .int .i64 8, .int .i64 (-1)] 2)) Y6.grown (fun k e => by simpa using e)) (fun k _ e => e)
    replace SV := SV.fr f6 (fun e => hsV2 e.symm)
    replace RV := RV.fr f6 (by omega)
    have Q1 := own_only (own_below P1 bl) Y6 (by omega)
    have Q2 := own_only (own_below P2 bl) Y6 (by omega)
    have N6 := (N5.alloc (.cells #[.int .i64 1, .int .i64 8, .int .i64 (-1)] 2)).trans Y6
    have z6 : u5.heap.size < u6.heap.size := by have := Y6.size; simp at this; omega
    have h1 := has_of_own Q1 w1
    have h2 := has_of_own Q2 w2
    clear H1 H2 P1 P2 S5 Y6 f6 N5 PH bl
    have m0 : u6.cell? ⟨V, 0, none⟩ = some (.int .i64 i) := (SV.cell 0).trans rfl
    have m1 : u6.cell? ⟨V, 1, none⟩ = some (.slice (some ⟨g1, 0, none⟩) sh.length c1) := (SV.cell 1).trans rfl
    have m2 : u6.cell? ⟨V, 2, none⟩ = some (.slice (some ⟨g2, 0, none⟩) ot.length c2) := (SV.cell 2).trans rfl
    have r0 : u6.cell? ⟨V0, 0, none⟩ = some (.int .i64 0) := (RV.cell 0).trans rfl
    have r1 : u6.cell? ⟨V0, 1, none⟩ = some (.slice none 0 0) := (RV.cell 1).trans rfl
    have r2 : u6.cell? ⟨V0, 2, none⟩ = some (.slice none 0 0) := (RV.cell 2).trans rfl
    have f0 := SV.frozen 0
    have f2 := SV.frozen 2
    have e0 := RV.frozen 0
    have e1 := RV.frozen 1
    have e2 := RV.frozen 2
    have H1' : Hid (Has u6 .i64 (some ⟨g1, 0, none⟩) sh.length sh) := h1
    have H2' : Hid (Has u6 .i64 (some ⟨g2, 0, none⟩) ot.length ot) := h2
    clear Q1 Q2 SV RV h1 h2 hp
    go_wp2
    obtain ⟨tq, htq, SQ⟩ : ∃ t', t' ≤ t + 10 ∧ SrcAt u6 B s a len cap zs t' := ⟨_, by omega, S6⟩
    refine bodyPost_ret (v := .tuple #[.agg #[.int .i64 y, .slice (some ⟨g1, 0, none⟩) sh.length (c1), .slice (some ⟨g2, 0, none⟩) ot.length (c2)], .int .i64 x]) (by simp [results, Tryd.results83, go_sem, r0, r1, r2, hVV, hVW]) rfl ⟨y, some ⟨g1, 0, none⟩, c1, sh, some ⟨g2, 0, none⟩, c2, ot, x, tq, ?_, ?_, ?_, ?_, ?_, ?_, ?_, ?_, htq, ?_⟩
    · rfl
    · exact Nat.le_of_eq L1.out
    · exact Nat.le_of_eq L2.out
    · exact fun y hy => by cases hy; exact vg1
    · exact fun y hy => by cases hy; exact vg2
    · exact Has.setCellK (Has.setCellK (Has.setCellK (Has.setCellK (H1'.out) (Ne.symm v1) _) (Ne.symm v3) _) (Ne.symm v3) _) (Ne.symm v3) _
    · exact Has.setCellK (Has.setCellK (Has.setCellK (Has.setCellK (H2'.out) (Ne.symm v2) _) (Ne.symm v4) _) (Ne.symm v4) _) (Ne.symm v4) _
    · exact SQ.below' (N := V0) (((((Below.refl V0 u6).setCell (p := ⟨V, 0, none⟩) hle _).setCell (Nat.le_refl _) _).setCell (Nat.le_refl _) _).setCell (Nat.le_refl _) _) hsV
    · exact (((N6.storeNew vb _).storeNew vw _).storeNew vw _).storeNew vw _
  · have d0b : (q == 0) = false := by simpa using d0
    clear d0
    by_cases d1 : q = 1
    · have d1b : (q == 1) = true := by simpa using d1
      clear d1
      have FF : Only s u5 u5.drew := Only.of_below (Below.refl _ _).drew
      have SS := S5.below ((Below.refl _ _).drew)
      rw [L1.out] at SV
      rw [L2.out] at SV
      clear H1 H2
      go_wp2_with fail
      refine wp_region_noPanic ?_
      refine wp_region_held_drew (S := fun u => Blk u V #[.int .i64 i, .slice (some ⟨g1, 0, none⟩) 16 c1, .slice (some ⟨g2, 0, none⟩) 16 c2] 28) (by kernel_rfl) (SV.below (Below.refl _ _).drew SV.lt) (fun hs => ?_)
      obtain ⟨XD, hXD⟩ : ∃ Z, Z = u5.drew := ⟨_, rfl⟩
      rw [← hXD] at hs FF SS
      simp only [← hXD]
      have hSV0 : True := trivial
      clear hXD
      refine take_at (i := 0) (d := some 24) (v := ?mv1) rfl rfl (by kernel_rfl) (by kernel_rfl) (by kernel_rfl) (fun _ _ _ h => h) (Or.inl ⟨by rfl, ?my1⟩) hs ?mg1
      case my1 => (intro z hSz; (have o1 := hSz.cell 1; simp at o1); go_simp; (try with_reducible rfl))
      try simp only [Act.put, List.setIfInBounds_toArray, List.set_cons_zero, List.set_cons_succ]
      refine take_at (i := 1) (d := some 25) (v := ?mv2) rfl rfl (by kernel_rfl) (by kernel_rfl) (by kernel_rfl) (fun _ _ _ h => h) (Or.inl ⟨by rfl, ?my2⟩) hs ?mg2
      case my2 => (intro z hSz; (have o1 := hSz.cell 1; simp at o1); go_simp; (try with_reducible rfl))
      try simp only [Act.put, List.setIfInBounds_toArray, List.set_cons_zero, List.set_cons_succ]
      refine take_at (i := 2) (d := some 26) (v := ?mv3) rfl rfl (by kernel_rfl) (by kernel_rfl) (by kernel_rfl) (fun _ _ _ h => h) (Or.inl ⟨by rfl, ?my3⟩) hs ?mg3
      case my3 => (intro z hSz; (have o1 := hSz.cell 1; simp at o1); go_simp; (try with_reducible rfl))
      try simp only [Act.put, List.setIfInBounds_toArray, List.set_cons_zero, List.set_cons_succ]
      refine take_at (i := 4) (d := some 28) (v := ?mv4) rfl rfl (by kernel_rfl) (by kernel_rfl) (by kernel_rfl) (fun _ _ _ h => h) (Or.inl ⟨by rfl, ?my4⟩) hs ?mg4
      case my4 => (intro z hSz; (have o1 := hSz.cell 1; simp at o1); go_simp; (try with_reducible rfl))
      try simp only [Act.put, List.setIfInBounds_toArray, List.set_cons_zero, List.set_cons_succ]
      refine wpAnyH_ready (rs := [3, 5]) (by kernel_rfl) (by simp) ?_
      refine AllReadyH.cons rfl (fun K' hK' => ?_) (AllReadyH.cons rfl (fun K' hK' => ?_) AllReadyH.nil)
      · go_simp
        refine (next_any _ B s a len cap zs _ 16 SS (by omega) (by omega) (by omega)).mono ?_
        rintro _ ua ⟨j, rfl, j0, j1, SA, Ya⟩
        refine hK'.out _ _ (hs.fr (M := fun k => s = k) (.of_grown Ya.grown (fun k e => by simpa using e)) (fun e => hsV2 e.symm)) (fun hs => ?_)
        clear hK' K'
        try simp only [Act.put, List.setIfInBounds_toArray, List.set_cons_zero, List.set_cons_succ]
        obtain ⟨n, rfl⟩ := Int.eq_ofNat_of_zero_le j0
        have hn : n < 16 := by omega
        (try replace PB := PB.fr (M := fun k => s = k) (.of_grown Ya.grown (fun k e => by simpa using e)) (fun e => gs e.symm))
        replace FF := FF.trans Ya
        clear SS
        have SS := SA
        clear SA Ya
        refine wpAnyH_ready (rs := [5]) (by kernel_rfl) (by simp) ?_
        refine AllReadyH.cons rfl (fun K' hK' => ?_) AllReadyH.nil
        have nG := FF.size
        go_simp
        refine hK'.out _ _ (hs.below ((Below.refl _ _).alloc (Nat.le_refl _) _) hs.lt) (fun hs => ?_)
        clear hK' K'
        try simp only [Act.put, List.setIfInBounds_toArray, List.set_cons_zero, List.set_cons_succ]
        have PB := al_blk (SBX hs)
        replace FF := FF.alloc (.cells #[.int .i64 5, .int .i64 65521] 2)
        replace SS := SS.alloc (.cells #[.int .i64 5, .int .i64 65521] 2)
        obtain ⟨A6, h6⟩ := al_o FF
        rw [← h6] at hs PB FF SS
        simp only [← h6]
        clear h6
        obtain ⟨G, hG⟩ := al_b PB
        rw [← hG] at PB nG
        simp only [← hG]
        clear hG
        have gs : G ≠ s := by omega
        refine wpAnyH_ready (rs := [6]) (by kernel_rfl) (by simp) ?_
        refine AllReadyH.cons rfl (fun K' hK' => ?_) AllReadyH.nil
        go_simp
        refine (pick_any _ B s a len cap zs _ SS (by omega) G [5, 65521] 2 rfl PB.lt gs (by omega) (by omega) 2 (blk_nums PB rfl)).mono ?_
        rintro _ uc ⟨y, rfl, hp, SA, Ya⟩
        refine hK'.out _ _ (hs.fr (M := fun k => s = k) (.of_grown Ya.grown (fun k e => by simpa using e)) (fun e => hsV2 e.symm)) (fun hs => ?_)
        clear hK' K'
        try simp only [Act.put, List.setIfInBounds_toArray, List.set_cons_zero, List.set_cons_succ]
        replace FF := FF.trans Ya
        clear SS
        have SS := SA
        clear SA Ya
        have hp' : 5 ≤ y ∧ y ≤ 65521 := by simp at hp; omega
        have Q1 := own_only P1 FF (by omega)
        have Q2 := own_only P2 FF (by omega)
        obtain ⟨cc, ff⟩ := ownN_cell Q1 n (by have := L1.out; omega)
        generalize sh[n]'(by have := L1.out; omega) = yn at cc
        refine wpAnyH_ready (rs := [7]) (by kernel_rfl) (by simp) ?_
        refine AllReadyH.cons rfl (fun K' hK' => ?_) AllReadyH.nil
        go_simp
        refine hK'.out _ _ hs (fun hs => ?_)
        clear hK' K'
        try simp only [Act.put, List.setIfInBounds_toArray, List.set_cons_zero, List.set_cons_succ]
        refine wpAnyH_ready (rs := [8]) (by kernel_rfl) (by simp) ?_
        refine AllReadyH.cons rfl (fun K' hK' => ?_) AllReadyH.nil
        go_simp
        refine hK'.out _ _ (hs.fr (M := fun q => q = g1) (Fr.setCell (Fr.refl _ _) ⟨g1, n, none⟩ (.int .i64 y) rfl) (show V ≠ g1 from Ne.symm v1)) (fun hs => ?_)
        clear hK' K'
        try simp only [Act.put, List.setIfInBounds_toArray, List.set_cons_zero, List.set_cons_succ]
        refine wpAnyH_done (by kernel_rfl) (NoPanic.normal ?_) _
        obtain ⟨tq, htq, SQ0⟩ : ∃ t', t' ≤ t + 10 ∧ SrcAt uc B s a len cap zs t' := ⟨_, by omega, SS⟩
        have RW0 := RV.fr (M := fun k => s = k) (.of_grown FF.grown (fun k e => by simpa using e)) (by omega)
        have RW := RW0.fr (M := fun q => q = g1) (Fr.setCell (Fr.refl _ _) ⟨g1, n, none⟩ (.int .i64 y) rfl) (show V0 ≠ g1 by omega)
        have O7 := ownN_set Q1 n y
        have h1 := has_of_own O7 (wf_set w1 n (WalkArith.wf_i64 (by omega)))
        have h2 := Has.setCellK (has_of_own Q2 w2) ap' (b := g1) (p := n) (.int .i64 y)
        have N6 := (N5.trans FF).storeNew (b := g1) (o := n) (by omega) (.int .i64 y)
        obtain ⟨X, hX⟩ := al_w (SBX hs)
        rw [← hX] at hs RW h1 h2 N6
        simp only [← hX]
        have SQ : SrcAt X B s a len cap zs tq := by rw [hX]; exact SQ0.below' (N := V0) ((Below.refl _ _).setCell (p := ⟨g1, n, none⟩) (show V0 ≤ g1 by omega) _) hsV
        have lx : (sh.set n y).length = 16 := by simp; exact L1.out
        have LX : Hid ((sh.set n y).length = 16) := lx
        have SV2 := hs
        have m0 : X.cell? ⟨V, 0, none⟩ = some (.int .i64 i) := (SV2.cell 0).trans rfl
        have m1 : X.cell? ⟨V, 1, none⟩ = some (.slice (some ⟨g1, 0, none⟩) 16 c1) := (SV2.cell 1).trans rfl
        have m2 : X.cell? ⟨V, 2, none⟩ = some (.slice (some ⟨g2, 0, none⟩) 16 c2) := (SV2.cell 2).trans rfl
        have r0 : X.cell? ⟨V0, 0, none⟩ = some (.int .i64 0) := (RW.cell 0).trans rfl
        have r1 : X.cell? ⟨V0, 1, none⟩ = some (.slice none 0 0) := (RW.cell 1).trans rfl
        have r2 : X.cell? ⟨V0, 2, none⟩ = some (.slice none 0 0) := (RW.cell 2).trans rfl
        have e0 := RW.frozen 0
        have e1 := RW.frozen 1
        have e2 := RW.frozen 2
        have H1' : Hid (Has X .i64 (some ⟨g1, 0, none⟩) (sh.set n y).length (sh.set n y)) := h1
        have H2' : Hid (Has X .i64 (some ⟨g2, 0, none⟩) ot.length ot) := h2
        clear Q1 Q2 SV RV RW RW0 SV2 hs h1 h2 O7 hX lx cc ff PB P1 P2 hSV0
        go_wp2_with fail
        refine bodyPost_ret (v := .tuple #[.agg #[.int .i64 i, .slice (some ⟨g1, 0, none⟩) 16 c1, .slice (some ⟨g2, 0, none⟩) 16 c2], .int .i64 x]) (by simp [results, Tryd.results83, go_sem, r0, r1, r2, hVV, hVW]) rfl ⟨i, some ⟨g1, 0, none⟩, c1, sh.set n y, some ⟨g2, 0, none⟩, c2, ot, x, tq, ?_, ?_, ?_, ?_, ?_, ?_, ?_, ?_, htq, ?_⟩
        · rw [LX.out, L2.out]
        · exact Nat.le_of_eq LX.out
        · exact Nat.le_of_eq L2.out
        · exact fun y hy => by cases hy; exact vg1
        · exact fun y hy => by cases hy; exact vg2
        · exact Has.setCellK (Has.setCellK (Has.setCellK (H1'.out) (Ne.symm v3) _) (Ne.symm v3) _) (Ne.symm v3) _
        · exact Has.setCellK (Has.setCellK (Has.setCellK (H2'.out) (Ne.symm v4) _) (Ne.symm v4) _) (Ne.symm v4) _
        · exact SQ.below' (N := V0) ((((Below.refl V0 X).setCell (Nat.le_refl _) _).setCell (Nat.le_refl _) _).setCell (Nat.le_refl _) _) hsV
        · exact ((N6.storeNew vw _).storeNew vw _).storeNew vw _
      · have nG := FF.size
        go_simp
        refine hK'.out _ _ (hs.below ((Below.refl _ _).alloc (Nat.le_refl _) _) hs.lt) (fun hs => ?_)
        clear hK' K'
        try simp only [Act.put, List.setIfInBounds_toArray, List.set_cons_zero, List.set_cons_succ]
        have PB := al_blk (SBX hs)
        replace FF := FF.alloc (.cells #[.int .i64 5, .int .i64 65521] 2)
        replace SS := SS.alloc (.cells #[.int .i64 5, .int .i64 65521] 2)
        obtain ⟨A6, h6⟩ := al_o FF
        rw [← h6] at hs PB FF SS
        simp only [← h6]
        clear h6
        obtain ⟨G, hG⟩ := al_b PB
        rw [← hG] at PB nG
        simp only [← hG]
        clear hG
        have gs : G ≠ s := by omega
        refine wpAnyH_ready (rs := [3]) (by kernel_rfl) (by simp) ?_
        refine AllReadyH.cons rfl (fun K' hK' => ?_) AllReadyH.nil
        go_simp
        refine (next_any _ B s a len cap zs _ 16 SS (by omega) (by omega) (by omega)).mono ?_
        rintro _ ua ⟨j, rfl, j0, j1, SA, Ya⟩
        refine hK'.out _ _ (hs.fr (M := fun k => s = k) (.of_grown Ya.grown (fun k e => by simpa using e)) (fun e => hsV2 e.symm)) (fun hs => ?_)
        clear hK' K'
        try simp only [Act.put, List.setIfInBounds_toArray, List.set_cons_zero, List.set_cons_succ]
        obtain ⟨n, rfl⟩ := Int.eq_ofNat_of_zero_le j0
        have hn : n < 16 := by omega
        (try replace PB := PB.fr (M := fun k => s = k) (.of_grown Ya.grown (fun k e => by simpa using e)) (fun e => gs e.symm))
        replace FF := FF.trans Ya
        clear SS
        have SS := SA
        clear SA Ya
        refine wpAnyH_ready (rs := [6]) (by kernel_rfl) (by simp) ?_
        refine AllReadyH.cons rfl (fun K' hK' => ?_) AllReadyH.nil
        go_simp
        refine (pick_any _ B s a len cap zs _ SS (by omega) G [5, 65521] 2 rfl PB.lt gs (by omega) (by omega) 2 (blk_nums PB rfl)).mono ?_
        rintro _ uc ⟨y, rfl, hp, SA, Ya⟩
        refine hK'.out _ _ (hs.fr (M := fun k => s = k) (.of_grown Ya.grown (fun k e => by simpa using e)) (fun e => hsV2 e.symm)) (fun hs => ?_)
        clear hK' K'
        try simp only [Act.put, List.setIfInBounds_toArray, List.set_cons_zero, List.set_cons_succ]
        replace FF := FF.trans Ya
        clear SS
        have SS := SA
        clear SA Ya
        have hp' : 5 ≤ y ∧ y ≤ 65521 := by simp at hp; omega
        have Q1 := own_only P1 FF (by omega)
        have Q2 := own_only P2 FF (by omega)
        obtain ⟨cc, ff⟩ := ownN_cell Q1 n (by have := L1.out; omega)
        generalize sh[n]'(by have := L1.out; omega) = yn at cc
        refine wpAnyH_ready (rs := [7]) (by kernel_rfl) (by simp) ?_
        refine AllReadyH.cons rfl (fun K' hK' => ?_) AllReadyH.nil
        go_simp
        refine hK'.out _ _ hs (fun hs => ?_)
        clear hK' K'
        try simp only [Act.put, List.setIfInBounds_toArray, List.set_cons_zero, List.set_cons_succ]
        refine wpAnyH_ready (rs := [8]) (by kernel_rfl) (by simp) ?_
        refine AllReadyH.cons rfl (fun K' hK' => ?_) AllReadyH.nil
        go_simp
        refine hK'.out _ _ (hs.fr (M := fun q => q = g1) (Fr.setCell (Fr.refl _ _) ⟨g1, n, none⟩ (.int .i64 y) rfl) (show V ≠ g1 from Ne.symm v1)) (fun hs => ?_)
        clear hK' K'
        try simp only [Act.put, List.setIfInBounds_toArray, List.set_cons_zero, List.set_cons_succ]
        refine wpAnyH_done (by kernel_rfl) (NoPanic.normal ?_) _
        obtain ⟨tq, htq, SQ0⟩ : ∃ t', t' ≤ t + 10 ∧ SrcAt uc B s a len cap zs t' := ⟨_, by omega, SS⟩
        have RW0 := RV.fr (M := fun k => s = k) (.of_grown FF.grown (fun k e => by simpa using e)) (by omega)
        have RW := RW0.fr (M := fun q => q = g1) (Fr.setCell (Fr.refl _ _) ⟨g1, n, none⟩ (.int .i64 y) rfl) (show V0 ≠ g1 by omega)
        have O7 := ownN_set Q1 n y
        have h1 := has_of_own O7 (wf_set w1 n (WalkArith.wf_i64 (by omega)))
        have h2 := Has.setCellK (has_of_own Q2 w2) ap' (b := g1) (p := n) (.int .i64 y)
        have N6 := (N5.trans FF).storeNew (b := g1) (o := n) (by omega) (.int .i64 y)
        obtain ⟨X, hX⟩ := al_w (SBX hs)
        rw [← hX] at hs RW h1 h2 N6
        simp only [← hX]
        have SQ : SrcAt X B s a len cap zs tq := by rw [hX]; exact SQ0.below' (N := V0) ((Below.refl _ _).setCell (p := ⟨g1, n, none⟩) (show V0 ≤ g1 by omega) _) hsV
        have lx : (sh.set n y).length = 16 := by simp; exact L1.out
        have LX : Hid ((sh.set n y).length = 16) := lx
        have SV2 := hs
        have m0 : X.cell? ⟨V, 0, none⟩ = some (.int .i64 i) := (SV2.cell 0).trans rfl
        have m1 : X.cell? ⟨V, 1, none⟩ = some (.slice (some ⟨g1, 0, none⟩) 16 c1) := (SV2.cell 1).trans rfl
        have m2 : X.cell? ⟨V, 2, none⟩ = some (.slice (some ⟨g2, 0, none⟩) 16 c2) := (SV2.cell 2).trans rfl
        have r0 : X.cell? ⟨V0, 0, none⟩ = some (.int .i64 0) := (RW.cell 0).trans rfl
        have r1 : X.cell? ⟨V0, 1, none⟩ = some (.slice none 0 0) := (RW.cell 1).trans rfl
        have r2 : X.cell? ⟨V0, 2, none⟩ = some (.slice none 0 0) := (RW.cell 2).trans rfl
        have e0 := RW.frozen 0
        have e1 := RW.frozen 1
        have e2 := RW.frozen 2
        have H1' : Hid (Has X .i64 (some ⟨g1, 0, none⟩) (sh.set n y).length (sh.set n y)) := h1
        have H2' : Hid (Has X .i64 (some ⟨g2, 0, none⟩) ot.length ot) := h2
        clear Q1 Q2 SV RV RW RW0 SV2 hs h1 h2 O7 hX lx cc ff PB P1 P2 hSV0
        go_wp2_with fail
        refine bodyPost_ret (v := .tuple #[.agg #[.int .i64 i, .slice (some ⟨g1, 0, none⟩) 16 c1, .slice (some ⟨g2, 0, none⟩) 16 c2], .int .i64 x]) (by simp [results, Tryd.results83, go_sem, r0, r1, r2, hVV, hVW]) rfl ⟨i, some ⟨g1, 0, none⟩, c1, sh.set n y, some ⟨g2, 0, none⟩, c2, ot, x, tq, ?_, ?_, ?_, ?_, ?_, ?_, ?_, ?_, htq, ?_⟩
        · rw [LX.out, L2.out]
        · exact Nat.le_of_eq LX.out
        · exact Nat.le_of_eq L2.out
        · exact fun y hy => by cases hy; exact vg1
        · exact fun y hy => by cases hy; exact vg2
        · exact Has.setCellK (Has.setCellK (Has.setCellK (H1'.out) (Ne.symm v3) _) (Ne.symm v3) _) (Ne.symm v3) _
        · exact Has.setCellK (Has.setCellK (Has.setCellK (H2'.out) (Ne.symm v4) _) (Ne.symm v4) _) (Ne.symm v4) _
        · exact SQ.below' (N := V0) ((((Below.refl V0 X).setCell (Nat.le_refl _) _).setCell (Nat.le_refl _) _).setCell (Nat.le_refl _) _) hsV
        · exact ((N6.storeNew vw _).storeNew vw _).storeNew vw _
    · have d1b : (q == 1) = false := by simpa using d1
      clear d1
      by_cases d2 : q = 2
      · have d2b : (q == 2) = true := by simpa using d2
        clear d2
        have m0 : u5.cell? ⟨V, 0, none⟩ = some (.int .i64 i) := (SV.cell 0).trans rfl
        have m1 : u5.cell? ⟨V, 1, none⟩ = some (.slice (some ⟨g1, 0, none⟩) sh.length c1) := (SV.cell 1).trans rfl
        have m2 : u5.cell? ⟨V, 2, none⟩ = some (.slice (some ⟨g2, 0, none⟩) ot.length c2) := (SV.cell 2).trans rfl
        have r0 : u5.cell? ⟨V0, 0, none⟩ = some (.int .i64 0) := (RV.cell 0).trans rfl
        have r1 : u5.cell? ⟨V0, 1, none⟩ = some (.slice none 0 0) := (RV.cell 1).trans rfl
        have r2 : u5.cell? ⟨V0, 2, none⟩ = some (.slice none 0 0) := (RV.cell 2).trans rfl
        have f0 := SV.frozen 0
        have f2 := SV.frozen 2
        have e0 := RV.frozen 0
        have e1 := RV.frozen 1
        have e2 := RV.frozen 2
        have hr := has_rest H2 1 (by have := L2.out; omega)
        have H1' : Hid (Has u5 .i64 (some ⟨g1, 0, none⟩) sh.length sh) := H1
        have hr' : Has u5 .i64 (some ⟨g2, 1, none⟩) (ot.drop 1).length (ot.drop 1) := by simpa using hr
        have H2' : Hid (Has u5 .i64 (some ⟨g2, 1, none⟩) (ot.drop 1).length (ot.drop 1)) := hr'
        have lD : (ot.drop 1).length = 15 := by have := L2.out; simp; omega
        have LD : Hid ((ot.drop 1).length = 15) := lD
        have hc1 : 16 ≤ c2 := by have := L2.out; omega
        rw [L2.out] at m2
        clear P1 P2 SV RV H1 H2 hr hr' lD cap1 cap2
        go_wp2
        obtain ⟨tq, htq, SQ⟩ : ∃ t', t' ≤ t + 10 ∧ SrcAt u5 B s a len cap zs t' := ⟨_, by omega, S5⟩
        refine bodyPost_ret (v := .tuple #[.agg #[.int .i64 i, .slice (some ⟨g1, 0, none⟩) sh.length (c1), .slice (some ⟨g2, 1, none⟩) 15 (c2 - 1)], .int .i64 x]) (by simp [results, Tryd.results83, go_sem, r0, r1, r2, hVV, hVW]) rfl ⟨i, some ⟨g1, 0, none⟩, c1, sh, some ⟨g2, 1, none⟩, c2 - 1, ot.drop 1, x, tq, ?_, ?_, ?_, ?_, ?_, ?_, ?_, ?_, htq, ?_⟩
        · rw [LD.out]
        · exact Nat.le_of_eq L1.out
        · rw [LD.out]; decide
        · exact fun y hy => by cases hy; exact vg1
        · exact fun y hy => by cases hy; exact vg2
        · exact Has.setCellK (Has.setCellK (Has.setCellK (Has.setCellK (H1'.out) (Ne.symm v1) _) (Ne.symm v3) _) (Ne.symm v3) _) (Ne.symm v3) _
        · exact Has.setCellK (Has.setCellK (Has.setCellK (Has.setCellK (H2'.out) (Ne.symm v2) _) (Ne.symm v4) _) (Ne.symm v4) _) (Ne.symm v4) _
        · exact SQ.below' (N := V0) (((((Below.refl V0 u5).setCell (p := ⟨V, 2, none⟩) hle _).setCell (Nat.le_refl _) _).setCell (Nat.le_refl _) _).setCell (Nat.le_refl _) _) hsV
        · exact (((N5.storeNew vb _).storeNew vw _).storeNew vw _).storeNew vw _
      · have d2b : (q == 2) = false := by simpa using d2
        clear d2
        by_cases d3 : q = 3
        · have d3b : (q == 3) = true := by simpa using d3
          clear d3
          obtain ⟨xx, hxx⟩ : ∃ v, bits .xor .i64 x 1 = v := ⟨_, rfl⟩
          have PH : Hid (∀ i, i < ([xx, -1] : List Int).length → (u5.alloc (.cells #[.int .i64 xx, .int .i64 (-1)] 2)).cell? ⟨u5.heap.size, i, none⟩ = some (.int .i64 (([xx, -1] : List Int).getD i 0))) := cells_lit u5 [xx, -1] 2 _ rfl
          go_wp2_with fail
          refine (pick_any _ B s a len cap zs _ (S5.alloc _) (by omega) u5.heap.size [xx, -1] 2 rfl (by simp) (by omega) (by omega) (by omega) 2 PH.out).mono ?_
          rintro e u6 ⟨y, rfl, hp, S6, Y6⟩
          have bl := (Below.refl u5.heap.size u5).alloc (Nat.le_refl _) (.cells #[.int .i64 xx, .int .i64 (-1)] 2)
          have f6 : Fr (fun k => s = k) u5 u6 := (Fr.of_below bl (Nat.le_refl _)).trans (.of_grown (w := u5.alloc (.cells #[.int .i64 xx, .int .i64 (-1)] 2)) Y6.grown (fun k e => by simpa using e)) (fun k _ e => e)
          replace SV := SV.fr f6 (fun e => hsV2 e.symm)
          replace RV := RV.fr f6 (by omega)
          have Q1 := own_only (own_below P1 bl) Y6 (by omega)
          have Q2 := own_only (own_below P2 bl) Y6 (by omega)
          have N6 := (N5.alloc (.cells #[.int .i64 xx, .int .i64 (-1)] 2)).trans Y6
          have z6 : u5.heap.size < u6.heap.size := by have := Y6.size; simp at this; omega
          have h1 := has_of_own Q1 w1
          have h2 := has_of_own Q2 w2
          clear H1 H2 P1 P2 S5 Y6 f6 N5 PH bl
          have m0 : u6.cell? ⟨V, 0, none⟩ = some (.int .i64 i) := (SV.cell 0).trans rfl
          have m1 : u6.cell? ⟨V, 1, none⟩ = some (.slice (some ⟨g1, 0, none⟩) sh.length c1) := (SV.cell 1).trans rfl
          have m2 : u6.cell? ⟨V, 2, none⟩ = some (.slice (some ⟨g2, 0, none⟩) ot.length c2) := (SV.cell 2).trans rfl
          have r0 : u6.cell? ⟨V0, 0, none⟩ = some (.int .i64 0) := (RV.cell 0).trans rfl
          have r1 : u6.cell? ⟨V0, 1, none⟩ = some (.slice none 0 0) := (RV.cell 1).trans rfl
          have r2 : u6.cell? ⟨V0, 2, none⟩ = some (.slice none 0 0) := (RV.cell 2).trans rfl
          have f0 := SV.frozen 0
          have f2 := SV.frozen 2
          have e0 := RV.frozen 0
          have e1 := RV.frozen 1
          have e2 := RV.frozen 2
          have H1' : Hid (Has u6 .i64 (some ⟨g1, 0, none⟩) sh.length sh) := h1
          have H2' : Hid (Has u6 .i64 (some ⟨g2, 0, none⟩) ot.length ot) := h2
          clear Q1 Q2 SV RV h1 h2 hp hxx
          go_wp2
          obtain ⟨tq, htq, SQ⟩ : ∃ t', t' ≤ t + 10 ∧ SrcAt u6 B s a len cap zs t' := ⟨_, by omega, S6⟩
          refine bodyPost_ret (v := .tuple #[.agg #[.int .i64 i, .slice (some ⟨g1, 0, none⟩) sh.length (c1), .slice (some ⟨g2, 0, none⟩) ot.length (c2)], .int .i64 y]) (by simp [results, Tryd.results83, go_sem, r0, r1, r2, hVV, hVW]) rfl ⟨i, some ⟨g1, 0, none⟩, c1, sh, some ⟨g2, 0, none⟩, c2, ot, y, tq, ?_, ?_, ?_, ?_, ?_, ?_, ?_, ?_, htq, ?_⟩
          · rfl
          · exact Nat.le_of_eq L1.out
          · exact Nat.le_of_eq L2.out
          · exact fun y hy => by cases hy; exact vg1
          · exact fun y hy => by cases hy; exact vg2
          · exact Has.setCellK (Has.setCellK (Has.setCellK (H1'.out) (Ne.symm v3) _) (Ne.symm v3) _) (Ne.symm v3) _
          · exact Has.setCellK (Has.setCellK (Has.setCellK (H2'.out) (Ne.symm v4) _) (Ne.symm v4) _) (Ne.symm v4) _
          · exact SQ.below' (N := V0) ((((Below.refl V0 u6).setCell (Nat.le_refl _) _).setCell (Nat.le_refl _) _).setCell (Nat.le_refl _) _) hsV
          · exact ((N6.storeNew vw _).storeNew vw _).storeNew vw _
        · have d3b : (q == 3) = false := by simpa using d3
          clear d3
          have m0 : u5.cell? ⟨V, 0, none⟩ = some (.int .i64 i) := (SV.cell 0).trans rfl
          have m1 : u5.cell? ⟨V, 1, none⟩ = some (.slice (some ⟨g1, 0, none⟩) sh.length c1) := (SV.cell 1).trans rfl
          have m2 : u5.cell? ⟨V, 2, none⟩ = some (.slice (some ⟨g2, 0, none⟩) ot.length c2) := (SV.cell 2).trans rfl
          have r0 : u5.cell? ⟨V0, 0, none⟩ = some (.int .i64 0) := (RV.cell 0).trans rfl
          have r1 : u5.cell? ⟨V0, 1, none⟩ = some (.slice none 0 0) := (RV.cell 1).trans rfl
          have r2 : u5.cell? ⟨V0, 2, none⟩ = some (.slice none 0 0) := (RV.cell 2).trans rfl
          have f0 := SV.frozen 0
          have f2 := SV.frozen 2
          have e0 := RV.frozen 0
          have e1 := RV.frozen 1
          have e2 := RV.frozen 2
          have H1' : Hid (Has u5 .i64 (some ⟨g1, 0, none⟩) sh.length sh) := H1
          have H2' : Hid (Has u5 .i64 (some ⟨g2, 0, none⟩) ot.length ot) := H2
          clear P1 P2 SV RV H1 H2
          go_wp2
          obtain ⟨tq, htq, SQ⟩ : ∃ t', t' ≤ t + 10 ∧ SrcAt u5 B s a len cap zs t' := ⟨_, by omega, S5⟩
          refine bodyPost_ret (v := .tuple #[.agg #[.int .i64 i, .slice (some ⟨g1, 0, none⟩) sh.length (c1), .slice (some ⟨g2, 0, none⟩) ot.length (c2)], .int .i64 x]) (by simp [results, Tryd.results83, go_sem, r0, r1, r2, hVV, hVW]) rfl ⟨i, some ⟨g1, 0, none⟩, c1, sh, some ⟨g2, 0, none⟩, c2, ot, x, tq, ?_, ?_, ?_, ?_, ?_, ?_, ?_, ?_, htq, ?_⟩
          · rfl
          · exact Nat.le_of_eq L1.out
          · exact Nat.le_of_eq L2.out
          · exact fun y hy => by cases hy; exact vg1
          · exact fun y hy => by cases hy; exact vg2
          · exact Has.setCellK (Has.setCellK (Has.setCellK (H1'.out) (Ne.symm v3) _) (Ne.symm v3) _) (Ne.symm v3) _
          · exact Has.setCellK (Has.setCellK (Has.setCellK (H2'.out) (Ne.symm v4) _) (Ne.symm v4) _) (Ne.symm v4) _
          · exact SQ.below' (N := V0) ((((Below.refl V0 u5).setCell (Nat.le_refl _) _).setCell (Nat.le_refl _) _).setCell (Nat.le_refl _) _) hsV
          · exact ((N5.storeNew vw _).storeNew vw _).storeNew vw _

end Go.Proofs.YtncckpdglimdoaaDoor
