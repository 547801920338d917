/- At every slice of slots and slot the program's PutSlot answers as the specification's model of it, in memory of its own, and leaves them as they were. -/
import Derived.Test.YtcngdbbfogdnhaaIPut7
import Derived.Test.YtcngdbbfogdnhaaSlK
import Derived.Test.YtcngdbbfogdnhaaEqInt
import Derived.Test.YtcngdbbfogdnhaaRegB
import Derived.Test.YtcngdbbfogdnhaaMoves
import Derived.Deep.RegionHeld3
import Derived.Deep.DeepCutAuto
namespace Go.Proofs.Ytcngdbbfogdnhaa
open Go.ChangeShapes Go.WideShapes Go.ChangeAt Go.RowKit
set_option linter.unusedVariables false
set_option linter.unusedSimpArgs false

set_option maxRecDepth 100000 in
set_option maxHeartbeats 8000000 in
theorem fnExactPutSlot_walk (w : World) (a0 : Option Addr) (len0 cap0 : Nat) (d0 : List Sl) (w0 : IsSls w a0 len0 cap0 d0) (k1 t1 : Int) (wk1 : (Lit.int .i64 k1).wf = true) (wt1 : (Lit.int .i64 t1).wf = true) :
    Calls Try.prog 3 #[.slice a0 len0 cap0, .agg #[.int .i64 k1, .int .i64 t1]] w fun e w' => e = .returned (.bool true) ∧ Below w.heap.size w w' := by
  obtain ⟨hlc0, hcm0, rfl, A0⟩ := w0
  obtain ⟨E, hE⟩ : ∃ E, E = w.alloc (.cells #[.int .i64 k1, .int .i64 t1] 24) := ⟨_, rfl⟩
  have EW : Below w.heap.size w E := by rw [hE]; exact (Below.refl _ _).alloc (Nat.le_refl _) _
  replace A0 : HasS E a0 d0 := by rw [hE]; exact A0.alloc _
  have XE : Blk E w.heap.size #[.int .i64 k1, .int .i64 t1] 24 := by rw [hE]; exact Blk.new _ _ _
  have XB : Hid (∀ u : World, Below E.heap.size E u → (u.cell? ⟨w.heap.size, 0, none⟩ = some (.int .i64 k1) ∧ u.cell? ⟨w.heap.size, 1, none⟩ = some (.int .i64 t1)) ∧ w.heap.size < u.heap.size) := fun u h => ⟨⟨((XE.below h XE.lt).cell 0).trans rfl, ((XE.below h XE.lt).cell 1).trans rfl⟩, (XE.below h XE.lt).lt⟩
  clear XE
  have hlm0 : d0.length ≤ maxLen := Nat.le_trans hlc0 hcm0
  have SZ0 : Hid (∀ u : World, Below E.heap.size E u → Calls Try.prog 5 #[.slice a0 d0.length cap0, .int .i64 (1048576)] u fun r w' => r = .returned (.int .i64 (szW (1048576) d0)) ∧ Below u.heap.size u w') := fun u hu => szS_any a0 cap0 d0 (1048576) u (A0.below hu (Nat.le_refl _)) hlm0 (by omega) (by omega)
  by_cases big0 : szW (1048576) d0 < 0
  case pos =>
    go_enter Try.func3, Try.ntmps3
    go_wp2_with fail
    simp only [← hE]
    refine (SZ0.out _ (Below.refl _ _)).mono ?_
    rintro r y0 ⟨rfl, hy0⟩
    go_wp2
    go_ret
    exact ⟨rfl, EW.trans (hy0.mono EW.size)⟩
  have hz0 := szW_ok big0 (by omega)
  have hs0 : d0.length ≤ 1048576 := hz0.1
  have hs0' : (d0.length : Int) ≤ 1048576 := by omega
  have hm0 : d0.length ≤ maxLen := by unfold maxLen; omega
  have WF0 : Hid (WfS d0) := A0.wf
  obtain ⟨zs, hzs⟩ : ∃ l, l = puL d0 (k1, t1) := ⟨_, rfl⟩
  obtain ⟨cd, hcd⟩ : ∃ c, c = puC d0 (k1, t1) := ⟨_, rfl⟩
  have SP : Hid (∀ (p0 : Option Addr) (x : World), HasS x p0 d0 → Calls Try.prog 6 #[Value.slice p0 d0.length d0.length, Value.agg #[.int .i64 k1, .int .i64 t1]] x fun r w' => ∃ a1 c1, r = .returned (.agg #[.int .i64 cd, .slice a1 zs.length c1]) ∧ OwnS w' x.heap.size (.slice a1 zs.length c1) zs ∧ Below x.heap.size x w') := by
    show ∀ (p0 : Option Addr) (x : World), HasS x p0 d0 → Calls Try.prog 6 #[Value.slice p0 d0.length d0.length, Value.agg #[.int .i64 k1, .int .i64 t1]] x fun r w' => ∃ a1 c1, r = .returned (.agg #[.int .i64 cd, .slice a1 zs.length c1]) ∧ OwnS w' x.heap.size (.slice a1 zs.length c1) zs ∧ Below x.heap.size x w'
    rw [hzs, hcd]
    exact fun p0 x h0 => specPutSlot_any p0 _ d0 k1 t1 x h0 hs0
  have IM : Hid (∀ (p0 : Option Addr) (x : World), HasS x p0 d0 → Calls Try.prog 9 #[Value.slice p0 d0.length d0.length, Value.agg #[.int .i64 k1, .int .i64 t1]] x fun r w' => ∃ a1 c1, r = .returned (.agg #[.int .i64 cd, .slice a1 zs.length c1]) ∧ OwnS w' x.heap.size (.slice a1 zs.length c1) zs ∧ Below x.heap.size x w') := by
    show ∀ (p0 : Option Addr) (x : World), HasS x p0 d0 → Calls Try.prog 9 #[Value.slice p0 d0.length d0.length, Value.agg #[.int .i64 k1, .int .i64 t1]] x fun r w' => ∃ a1 c1, r = .returned (.agg #[.int .i64 cd, .slice a1 zs.length c1]) ∧ OwnS w' x.heap.size (.slice a1 zs.length c1) zs ∧ Below x.heap.size x w'
    rw [hzs, hcd]
    exact fun p0 x h0 => implPutSlot_any p0 _ d0 k1 t1 x h0 hs0 wk1 wt1
  have OK : zs.length ≤ 1048576 ∧ WfS zs := by
    rw [hzs]
    exact ⟨by have := puL_len d0 (k1, t1); omega, puL_wf ⟨wk1, wt1⟩ A0.wf⟩
  obtain ⟨ll, WA0⟩ := OK
  have WA : Hid (WfS zs) := WA0
  clear hzs hcd WA0
  have hge : (0 : Int) ≤ 1 + ((zs.length * 2 : Nat) : Int) := by omega
  have hne : ((1 + ((zs.length * 2 : Nat) : Int)) != (1 + ((zs.length * 2 : Nat) : Int))) = false := by simp
  have hk0 : (0 : Int) ≤ 1 + ((d0.length * 2 : Nat) : Int) := by omega
  have FA : Hid (∀ u : World, Below E.heap.size E u → HasS u a0 d0) := fun u hu => A0.below hu (Nat.le_refl _)
  clear A0
  go_enter Try.func3, Try.ntmps3
  go_wp2_with fail
  simp only [← hE]
  refine (SZ0.out _ (Below.refl _ _)).mono ?_
  rintro r u1 ⟨rfl, hb1⟩
  have B1 : Below E.heap.size E u1 := hb1
  clear hb1 hE
  go_wp2_with fail
  go_cut [6] (fun s6 wx => ∃ V b3 i3, s6 = .pointer (some ⟨V, 0, none⟩) ∧ E.heap.size ≤ V ∧ Blk wx V #[.int .i64 cd, .slice b3 zs.length i3] 28 ∧ OwnS wx E.heap.size (.slice b3 zs.length i3) zs ∧ Below E.heap.size E wx)
  case first =>
    refine wp_region_noPanic ?_
    refine wp_region_held_drew (S := fun u => Below E.heap.size E u) (by kernel_rfl) B1.drew (fun hs => ?_)
    obtain ⟨XD, hXD⟩ := al_w hs
    rw [← hXD] at hs
    simp only [← hXD]
    clear hXD
    refine take_at (i := 0) (d := some 18) (v := ?mv1) rfl rfl (by kernel_rfl) (by kernel_rfl) (by kernel_rfl) (fun _ _ _ h => h) (Or.inl ⟨by rfl, ?my1⟩) hs ?mg1
    case my1 => (intro z hSz; (obtain ⟨⟨e0, e1⟩, e2⟩ := XB.out _ hSz); go_simp; (try with_reducible rfl))
    try simp only [Act.put, List.setIfInBounds_toArray, List.set_cons_zero, List.set_cons_succ]
    refine take_at (i := 2) (d := some 20) (v := ?mv2) rfl rfl (by kernel_rfl) (by kernel_rfl) (by kernel_rfl) (fun _ _ _ h => h) (Or.inl ⟨by rfl, ?my2⟩) hs ?mg2
    case my2 => (intro z hSz; (obtain ⟨⟨e0, e1⟩, e2⟩ := XB.out _ hSz); go_simp; (try with_reducible rfl))
    try simp only [Act.put, List.setIfInBounds_toArray, List.set_cons_zero, List.set_cons_succ]
    refine wpAnyH_ready (rs := [1, 5]) (by kernel_rfl) (by simp) ?_
    refine AllReadyH.cons rfl (fun K' hK' => ?_) (AllReadyH.cons rfl (fun K' hK' => ?_) AllReadyH.nil)
    · go_simp
      refine (toSlotS_has a0 cap0 d0 _ (FA.out _ hs) hs0).mono ?_
      rintro _ ua ⟨rfl, hba, X2, y2⟩
      refine hK'.out _ _ (hs.trans (hba.mono hs.size)) (fun hs => ?_)
      clear hK' K'
      try simp only [Act.put, List.setIfInBounds_toArray, List.set_cons_zero, List.set_cons_succ]
      (try replace PB := PB.below hba PB.lt)
      refine wpAnyH_ready (rs := [3, 5]) (by kernel_rfl) (by simp) ?_
      refine AllReadyH.cons rfl (fun K' hK' => ?_) (AllReadyH.cons rfl (fun K' hK' => ?_) AllReadyH.nil)
      · go_simp
        refine (toSlot_any k1 t1 _).mono ?_
        rintro _ ub ⟨rfl, hbb⟩
        refine hK'.out _ _ (hs.trans (hbb.mono hs.size)) (fun hs => ?_)
        clear hK' K'
        try simp only [Act.put, List.setIfInBounds_toArray, List.set_cons_zero, List.set_cons_succ]
        replace X2 := X2.below hbb (Nat.le_refl _)
        (try replace PB := PB.below hbb PB.lt)
        refine wpAnyH_ready (rs := [4, 5]) (by kernel_rfl) (by simp) ?_
        refine AllReadyH.cons rfl (fun K' hK' => ?_) (AllReadyH.cons rfl (fun K' hK' => ?_) AllReadyH.nil)
        · have zc := hs.size
          go_simp
          refine (SP.out _ _ X2).mono ?_
          rintro _ uc ⟨b3, i3, rfl, O3, hbc⟩
          refine hK'.out _ _ (hs.trans (hbc.mono hs.size)) (fun hs => ?_)
          clear hK' K'
          try simp only [Act.put, List.setIfInBounds_toArray, List.set_cons_zero, List.set_cons_succ]
          clear X2
          (try have NB : ∀ g, (Value.slice b3 zs.length i3).ownBlock = some g → g ≠ P := fun g e => by have h1 := (O3.lt g e).1; have h2 := PB.lt; omega)
          (try replace PB := PB.below hbc PB.lt)
          refine wpAnyH_ready (rs := [5]) (by kernel_rfl) (by simp) ?_
          refine AllReadyH.cons rfl (fun K' hK' => ?_) AllReadyH.nil
          have nP := hs.size
          (try have NB : ∀ g, (Value.slice b3 zs.length i3).ownBlock = some g → g ≠ uc.heap.size := fun g e => by have h2 := (O3.lt g e).2; omega)
          (try replace X2 := X2.alloc (.cells #[.int .i64 0, .slice none 0 0] 28))
          (try replace O3 := own2_below O3 ((Below.refl uc.heap.size uc).alloc (Nat.le_refl _) (.cells #[.int .i64 0, .slice none 0 0] 28)))
          go_simp
          refine hK'.out _ _ (hs.alloc hs.size _) (fun hs => ?_)
          clear hK' K'
          try simp only [Act.put, List.setIfInBounds_toArray, List.set_cons_zero, List.set_cons_succ]
          have PB := al_blk hs
          obtain ⟨A6, h6⟩ := al_w hs
          rw [← h6] at hs PB
          (try rw [← h6] at X2)
          (try rw [← h6] at O3)
          simp only [← h6]
          clear h6
          obtain ⟨P, hP⟩ := al_b PB
          rw [← hP] at PB nP
          (try rw [← hP] at NB)
          simp only [← hP]
          clear hP
          refine wpAnyH_ready (rs := [6]) (by kernel_rfl) (by simp) ?_
          refine AllReadyH.cons rfl (fun K' hK' => ?_) AllReadyH.nil
          have c0 := PB.cell 0
          have c1 := PB.cell 1
          have c2 := PB.frozen 0
          have c3 := PB.frozen 1
          simp at c0 c1
          obtain ⟨D2, PB2, F2⟩ := al_two (x := .int .i64 cd) (y := .slice b3 zs.length i3) hs PB nP
          go_simp
          refine hK'.out _ _ D2 (fun hs => ?_)
          clear hK' K'
          try simp only [Act.put, List.setIfInBounds_toArray, List.set_cons_zero, List.set_cons_succ]
          refine wpAnyH_done (by kernel_rfl) (NoPanic.normal ?_) _
          have O4 := own2_mono (own2_fr O3 F2 (fun g e1 e2 => NB g e1 e2)) zc
          clear hs PB O3 NB c0 c1 c2 c3
          go_wp2_with fail
          go_meet
          exact ⟨_, b3, i3, rfl, nP, PB2, O4, D2⟩
        · have nP := hs.size
          (try have NB : ∀ g, (Value.slice b3 zs.length i3).ownBlock = some g → g ≠ uc.heap.size := fun g e => by have h2 := (O3.lt g e).2; omega)
          (try replace X2 := X2.alloc (.cells #[.int .i64 0, .slice none 0 0] 28))
          (try replace O3 := own2_below O3 ((Below.refl uc.heap.size uc).alloc (Nat.le_refl _) (.cells #[.int .i64 0, .slice none 0 0] 28)))
          go_simp
          refine hK'.out _ _ (hs.alloc hs.size _) (fun hs => ?_)
          clear hK' K'
          try simp only [Act.put, List.setIfInBounds_toArray, List.set_cons_zero, List.set_cons_succ]
          have PB := al_blk hs
          obtain ⟨A6, h6⟩ := al_w hs
          rw [← h6] at hs PB
          (try rw [← h6] at X2)
          (try rw [← h6] at O3)
          simp only [← h6]
          clear h6
          obtain ⟨P, hP⟩ := al_b PB
          rw [← hP] at PB nP
          (try rw [← hP] at NB)
          simp only [← hP]
          clear hP
          refine wpAnyH_ready (rs := [4]) (by kernel_rfl) (by simp) ?_
          refine AllReadyH.cons rfl (fun K' hK' => ?_) AllReadyH.nil
          have zc := hs.size
          go_simp
          refine (SP.out _ _ X2).mono ?_
          rintro _ uc ⟨b3, i3, rfl, O3, hbc⟩
          refine hK'.out _ _ (hs.trans (hbc.mono hs.size)) (fun hs => ?_)
          clear hK' K'
          try simp only [Act.put, List.setIfInBounds_toArray, List.set_cons_zero, List.set_cons_succ]
          clear X2
          (try have NB : ∀ g, (Value.slice b3 zs.length i3).ownBlock = some g → g ≠ P := fun g e => by have h1 := (O3.lt g e).1; have h2 := PB.lt; omega)
          (try replace PB := PB.below hbc PB.lt)
          refine wpAnyH_ready (rs := [6]) (by kernel_rfl) (by simp) ?_
          refine AllReadyH.cons rfl (fun K' hK' => ?_) AllReadyH.nil
          have c0 := PB.cell 0
          have c1 := PB.cell 1
          have c2 := PB.frozen 0
          have c3 := PB.frozen 1
          simp at c0 c1
          obtain ⟨D2, PB2, F2⟩ := al_two (x := .int .i64 cd) (y := .slice b3 zs.length i3) hs PB nP
          go_simp
          refine hK'.out _ _ D2 (fun hs => ?_)
          clear hK' K'
          try simp only [Act.put, List.setIfInBounds_toArray, List.set_cons_zero, List.set_cons_succ]
          refine wpAnyH_done (by kernel_rfl) (NoPanic.normal ?_) _
          have O4 := own2_mono (own2_fr O3 F2 (fun g e1 e2 => NB g e1 e2)) zc
          clear hs PB O3 NB c0 c1 c2 c3
          go_wp2_with fail
          go_meet
          exact ⟨_, b3, i3, rfl, nP, PB2, O4, D2⟩
      · have nP := hs.size
        (try have NB : ∀ g, (Value.slice b3 zs.length i3).ownBlock = some g → g ≠ uc.heap.size := fun g e => by have h2 := (O3.lt g e).2; omega)
        (try replace X2 := X2.alloc (.cells #[.int .i64 0, .slice none 0 0] 28))
        (try replace O3 := own2_below O3 ((Below.refl uc.heap.size uc).alloc (Nat.le_refl _) (.cells #[.int .i64 0, .slice none 0 0] 28)))
        go_simp
        refine hK'.out _ _ (hs.alloc hs.size _) (fun hs => ?_)
        clear hK' K'
        try simp only [Act.put, List.setIfInBounds_toArray, List.set_cons_zero, List.set_cons_succ]
        have PB := al_blk hs
        obtain ⟨A6, h6⟩ := al_w hs
        rw [← h6] at hs PB
        (try rw [← h6] at X2)
        (try rw [← h6] at O3)
        simp only [← h6]
        clear h6
        obtain ⟨P, hP⟩ := al_b PB
        rw [← hP] at PB nP
        (try rw [← hP] at NB)
        simp only [← hP]
        clear hP
        refine wpAnyH_ready (rs := [3]) (by kernel_rfl) (by simp) ?_
        refine AllReadyH.cons rfl (fun K' hK' => ?_) AllReadyH.nil
        go_simp
        refine (toSlot_any k1 t1 _).mono ?_
        rintro _ ub ⟨rfl, hbb⟩
        refine hK'.out _ _ (hs.trans (hbb.mono hs.size)) (fun hs => ?_)
        clear hK' K'
        try simp only [Act.put, List.setIfInBounds_toArray, List.set_cons_zero, List.set_cons_succ]
        replace X2 := X2.below hbb (Nat.le_refl _)
        (try replace PB := PB.below hbb PB.lt)
        refine wpAnyH_ready (rs := [4]) (by kernel_rfl) (by simp) ?_
        refine AllReadyH.cons rfl (fun K' hK' => ?_) AllReadyH.nil
        have zc := hs.size
        go_simp
        refine (SP.out _ _ X2).mono ?_
        rintro _ uc ⟨b3, i3, rfl, O3, hbc⟩
        refine hK'.out _ _ (hs.trans (hbc.mono hs.size)) (fun hs => ?_)
        clear hK' K'
        try simp only [Act.put, List.setIfInBounds_toArray, List.set_cons_zero, List.set_cons_succ]
        clear X2
        (try have NB : ∀ g, (Value.slice b3 zs.length i3).ownBlock = some g → g ≠ P := fun g e => by have h1 := (O3.lt g e).1; have h2 := PB.lt; omega)
        (try replace PB := PB.below hbc PB.lt)
        refine wpAnyH_ready (rs := [6]) (by kernel_rfl) (by simp) ?_
        refine AllReadyH.cons rfl (fun K' hK' => ?_) AllReadyH.nil
        have c0 := PB.cell 0
        have c1 := PB.cell 1
        have c2 := PB.frozen 0
        have c3 := PB.frozen 1
        simp at c0 c1
        obtain ⟨D2, PB2, F2⟩ := al_two (x := .int .i64 cd) (y := .slice b3 zs.length i3) hs PB nP
        go_simp
        refine hK'.out _ _ D2 (fun hs => ?_)
        clear hK' K'
        try simp only [Act.put, List.setIfInBounds_toArray, List.set_cons_zero, List.set_cons_succ]
        refine wpAnyH_done (by kernel_rfl) (NoPanic.normal ?_) _
        have O4 := own2_mono (own2_fr O3 F2 (fun g e1 e2 => NB g e1 e2)) zc
        clear hs PB O3 NB c0 c1 c2 c3
        go_wp2_with fail
        go_meet
        exact ⟨_, b3, i3, rfl, nP, PB2, O4, D2⟩
    · have nP := hs.size
      (try have NB : ∀ g, (Value.slice b3 zs.length i3).ownBlock = some g → g ≠ uc.heap.size := fun g e => by have h2 := (O3.lt g e).2; omega)
      (try replace X2 := X2.alloc (.cells #[.int .i64 0, .slice none 0 0] 28))
      (try replace O3 := own2_below O3 ((Below.refl uc.heap.size uc).alloc (Nat.le_refl _) (.cells #[.int .i64 0, .slice none 0 0] 28)))
      go_simp
      refine hK'.out _ _ (hs.alloc hs.size _) (fun hs => ?_)
      clear hK' K'
      try simp only [Act.put, List.setIfInBounds_toArray, List.set_cons_zero, List.set_cons_succ]
      have PB := al_blk hs
      obtain ⟨A6, h6⟩ := al_w hs
      rw [← h6] at hs PB
      (try rw [← h6] at X2)
      (try rw [← h6] at O3)
      simp only [← h6]
      clear h6
      obtain ⟨P, hP⟩ := al_b PB
      rw [← hP] at PB nP
      (try rw [← hP] at NB)
      simp only [← hP]
      clear hP
      refine wpAnyH_ready (rs := [1]) (by kernel_rfl) (by simp) ?_
      refine AllReadyH.cons rfl (fun K' hK' => ?_) AllReadyH.nil
      go_simp
      refine (toSlotS_has a0 cap0 d0 _ (FA.out _ hs) hs0).mono ?_
      rintro _ ua ⟨rfl, hba, X2, y2⟩
      refine hK'.out _ _ (hs.trans (hba.mono hs.size)) (fun hs => ?_)
      clear hK' K'
      try simp only [Act.put, List.setIfInBounds_toArray, List.set_cons_zero, List.set_cons_succ]
      (try replace PB := PB.below hba PB.lt)
      refine wpAnyH_ready (rs := [3]) (by kernel_rfl) (by simp) ?_
      refine AllReadyH.cons rfl (fun K' hK' => ?_) AllReadyH.nil
      go_simp
      refine (toSlot_any k1 t1 _).mono ?_
      rintro _ ub ⟨rfl, hbb⟩
      refine hK'.out _ _ (hs.trans (hbb.mono hs.size)) (fun hs => ?_)
      clear hK' K'
      try simp only [Act.put, List.setIfInBounds_toArray, List.set_cons_zero, List.set_cons_succ]
      replace X2 := X2.below hbb (Nat.le_refl _)
      (try replace PB := PB.below hbb PB.lt)
      refine wpAnyH_ready (rs := [4]) (by kernel_rfl) (by simp) ?_
      refine AllReadyH.cons rfl (fun K' hK' => ?_) AllReadyH.nil
      have zc := hs.size
      go_simp
      refine (SP.out _ _ X2).mono ?_
      rintro _ uc ⟨b3, i3, rfl, O3, hbc⟩
      refine hK'.out _ _ (hs.trans (hbc.mono hs.size)) (fun hs => ?_)
      clear hK' K'
      try simp only [Act.put, List.setIfInBounds_toArray, List.set_cons_zero, List.set_cons_succ]
      clear X2
      (try have NB : ∀ g, (Value.slice b3 zs.length i3).ownBlock = some g → g ≠ P := fun g e => by have h1 := (O3.lt g e).1; have h2 := PB.lt; omega)
      (try replace PB := PB.below hbc PB.lt)
      refine wpAnyH_ready (rs := [6]) (by kernel_rfl) (by simp) ?_
      refine AllReadyH.cons rfl (fun K' hK' => ?_) AllReadyH.nil
      have c0 := PB.cell 0
      have c1 := PB.cell 1
      have c2 := PB.frozen 0
      have c3 := PB.frozen 1
      simp at c0 c1
      obtain ⟨D2, PB2, F2⟩ := al_two (x := .int .i64 cd) (y := .slice b3 zs.length i3) hs PB nP
      go_simp
      refine hK'.out _ _ D2 (fun hs => ?_)
      clear hK' K'
      try simp only [Act.put, List.setIfInBounds_toArray, List.set_cons_zero, List.set_cons_succ]
      refine wpAnyH_done (by kernel_rfl) (NoPanic.normal ?_) _
      have O4 := own2_mono (own2_fr O3 F2 (fun g e1 e2 => NB g e1 e2)) zc
      clear hs PB O3 NB c0 c1 c2 c3
      go_wp2_with fail
      go_meet
      exact ⟨_, b3, i3, rfl, nP, PB2, O4, D2⟩
  case rest =>
    obtain ⟨V, b3, i3, rfl, hV, VU, O3, BU⟩ := hcut
    generalize wc = U at *
    have sU := VU.lt
    have RU : HasS U b3 zs := OwnS.has O3 WA.out
    have FW : Hid (∀ u : World, Below U.heap.size U u → (HasS u a0 d0) ∧ Blk u V #[.int .i64 cd, .slice b3 zs.length i3] 28 ∧ (HasS u b3 zs) ∧ Below E.heap.size E u ∧ V < u.heap.size) := fun u h => ⟨FA.out u (BU.trans (h.mono BU.size)), VU.below h VU.lt, RU.below h (Nat.le_refl _), BU.trans (h.mono BU.size), by have := h.size; omega⟩
    clear VU RU O3 B1 sU SP SZ0
    go_wp2_with fail
    refine (toSlotS_any a0 cap0 d0 _ (FW.out _ (Below.refl _ _)).1 hs0).mono ?_
    rintro r s4 ⟨rfl, O4, hs4⟩
    obtain ⟨⟨x0, x1⟩, x2⟩ := XB.out _ ((FW.out _ hs4).2.2.2.1)
    go_wp2_with fail
    refine (toSlot_any k1 t1 _).mono ?_
    rintro r u4 ⟨rfl, ht4⟩
    replace O4 := own2_below O4 ht4
    have hb4 : Below U.heap.size U u4 := hs4.trans (ht4.mono hs4.size)
    clear x0 x1 x2 ht4 hs4
    have z4 : U.heap.size < u4.heap.size := (own2_base O4 _ rfl).2
    have C4 : Below U.heap.size U u4 := hb4
    have Y4 := OwnS.has O4 WF0.out
    go_wp2_with fail
    refine (IM.out _ _ Y4).mono ?_
    rintro r u5 ⟨b5, i5, rfl, O5, hb5⟩
    have C5 : Below U.heap.size U u5 := C4.trans (hb5.mono C4.size)
    have zG := hb5.size
    replace O4 := own2_below O4 hb5
    obtain ⟨W, hW⟩ : ∃ W, W = u5.alloc (.cells #[.int .i64 cd, .slice b5 zs.length i5] 28) := ⟨_, rfl⟩
    have sW : W.heap.size = u5.heap.size + 1 := by rw [hW]; simp
    have bW : Below u5.heap.size u5 W := by rw [hW]; exact (Below.refl _ _).alloc (Nat.le_refl _) _
    have VW : Blk W u5.heap.size #[.int .i64 cd, .slice b5 zs.length i5] 28 := by rw [hW]; exact Blk.new _ _ _
    have CW : Below U.heap.size U W := C5.trans (bW.mono C5.size)
    have FX0 : Hid (∀ u : World, Ex U.heap.size U.heap.size W u → OwnS u U.heap.size (.slice (some ⟨U.heap.size, 0, none⟩) d0.length d0.length) d0) := fun u h => own2_ex (own2_below O4 bW) h (Nat.le_refl _)
    have OG : OwnS W u4.heap.size (.slice b5 zs.length i5) zs := own2_below O5 bW
    have FG : Hid (∀ u : World, Ex U.heap.size u4.heap.size W u → OwnS u u4.heap.size (.slice b5 zs.length i5) zs) := fun u h => own2_ex OG h (Nat.le_refl _)
    have FV : Hid (∀ (hi : Nat) (u : World), hi ≤ u5.heap.size → Ex U.heap.size hi W u → Blk u u5.heap.size #[.int .i64 cd, .slice b5 zs.length i5] 28 ∧ u5.heap.size < u.heap.size) := fun hi u hh h => ⟨VW.ex h (.inr hh), by have := h.size; omega⟩
    have FE : Hid (∀ (hi : Nat) (u : World), Ex U.heap.size hi W u → Below U.heap.size U u) := fun hi u h => CW.trans (Ex.low h CW.size)
    have GB : Hid (∀ ad, b5 = some ad → u4.heap.size ≤ ad.block ∧ ad.block < u5.heap.size) := fun ad h => own2_base O5 ad h
    have DW : Below W.heap.size W W := Below.refl _ _
    clear O4 O5 OG VW bW sW hb5
    have v0 := ((FW.out _ C5).2.1).cell 0
    have v1 := ((FW.out _ C5).2.1).cell 1
    simp at v0 v1
    have qv := (FW.out _ C5).2.2.2.2
    go_wp2_with fail
    simp only [← hW]
    refine (eqSlotsR_any cd b5 b3 i5 i3 zs _ (OwnS.has (FG.out _ (Fr.refl _ _)) WA.out) ((FW.out _ CW).2.2.1) ll).mono ?_
    rintro r u6 ⟨rfl, hb6⟩
    have E6 : Ex U.heap.size U.heap.size W u6 := Ex.on (Fr.refl _ _) hb6
    clear v0 v1 qv hb6 hW
    go_wp2_with fail
    refine (toSlotS_has a0 cap0 d0 _ (FW.out _ (FE.out _ _ E6)).1 hs0).mono ?_
    rintro r u7 ⟨rfl, hb7, X7, y7⟩
    have E7 : Ex U.heap.size U.heap.size W u7 := Ex.on E6 hb7
    clear hb7
    go_wp2_with fail
    refine (eqSlotS_any _ _ _ _ d0 _ (OwnS.has (FX0.out _ E7) WF0.out) X7 hs0).mono ?_
    rintro r u8 ⟨rfl, hb8⟩
    have E8 : Ex U.heap.size U.heap.size W u8 := Ex.on E7 hb8
    clear hb8 E7 X7
    go_wp2_with fail
    refine (markSlotS_any _ _ _ (1) d0 _ (FX0.out _ E8) (by omega) (by omega) (by omega)).mono ?_
    rintro r u9 ⟨rfl, _, hm9⟩
    have E9 : Ex U.heap.size u4.heap.size W u9 := Ex.mk E8 hm9 (fun ad had => by cases had; show _ ≤ U.heap.size ∧ U.heap.size < _; omega) (by omega)
    clear hm9 E8
    have vf := FV.out _ _ (by omega) E9
    have fw := FW.out _ (FE.out _ _ E9)
    have tt0 := (vf.1).cell 0
    have tt1 := (vf.1).cell 1
    simp at tt0 tt1
    have v0 := (fw.2.1).cell 0
    have v1 := (fw.2.1).cell 1
    simp at v0 v1
    go_wp2_with fail
    refine (eqSlotsR_any cd _ _ _ _ zs _ (OwnS.has (FG.out _ E9) WA.out) (fw.2.2.1) ll).mono ?_
    rintro r u10 ⟨rfl, hb10⟩
    have E10 : Ex U.heap.size u4.heap.size W u10 := Ex.on E9 hb10
    clear tt0 tt1 v0 v1 vf fw hb10 E9
    have vf := FV.out _ _ (by omega) E10
    have tt0 := (vf.1).cell 0
    have tt1 := (vf.1).cell 1
    simp at tt0 tt1
    go_wp2_with fail
    refine (markSlotsR_any _ cd _ _ zs _ (FG.out _ E10) (by omega)).mono ?_
    rintro r u11 ⟨rfl, OM, hm11⟩
    have E11 : Ex U.heap.size u5.heap.size W u11 := Ex.mk (Ex.on E10 ((Below.refl _ _).alloc (Nat.le_refl _) _)) hm11 (fun ad had => by have := GB.out ad had; omega) (by omega)
    have FM : Hid (∀ u : World, Below u11.heap.size u11 u → Has u .i64 b5 (zs.length * 2) (markN 1 (zs.length * 2))) := by
      intro u h
      have h1 := OM
      exact (own2_has h1 (markN_wf 1 (zs.length * 2) (by omega) (by omega) (by omega))).below h (Nat.le_refl _)
    have D11 : Below u11.heap.size u11 u11 := Below.refl _ _
    clear hm11 OM vf tt0 tt1 E10
    have vf := FV.out _ _ (Nat.le_refl _) E11
    have tt0 := (vf.1).cell 0
    have tt1 := (vf.1).cell 1
    simp at tt0 tt1
    go_wp2_with fail
    refine (heldSlotsR_any cd _ _ zs.length _ (FM.out _ D11) (by omega)).mono ?_
    rintro r u12 ⟨rfl, hb12⟩
    have E12 : Ex U.heap.size u5.heap.size W u12 := Ex.on E11 hb12
    have D12 : Below u11.heap.size u11 u12 := D11.trans (hb12.mono D11.size)
    clear vf tt0 tt1 hb12 E11 D11
    go_wp2_with fail
    go_cut [12] (fun s12 wx => ∃ V b3 i3, s12 = .pointer (some ⟨V, 0, none⟩) ∧ u12.heap.size ≤ V ∧ Blk wx V #[.int .i64 cd, .slice b3 zs.length i3] 28 ∧ OwnS wx u12.heap.size (.slice b3 zs.length i3) zs ∧ Below u12.heap.size u12 wx)
    case first =>
      refine wp_region_noPanic ?_
      refine wp_region_held_drew (S := fun u => Below u12.heap.size u12 u) (by kernel_rfl) ((Below.refl u12.heap.size u12).drew) (fun hs => ?_)
      obtain ⟨XD, hXD⟩ := al_w hs
      rw [← hXD] at hs
      simp only [← hXD]
      clear hXD
      refine take_at (i := 0) (d := some 60) (v := ?mv3) rfl rfl (by kernel_rfl) (by kernel_rfl) (by kernel_rfl) (fun _ _ _ h => h) (Or.inl ⟨by rfl, ?my3⟩) hs ?mg3
      case my3 => (intro z hSz; (obtain ⟨⟨e0, e1⟩, e2⟩ := XB.out _ ((FW.out _ (FE.out _ _ (Ex.on E12 hSz))).2.2.2.1)); go_simp; (try with_reducible rfl))
      try simp only [Act.put, List.setIfInBounds_toArray, List.set_cons_zero, List.set_cons_succ]
      refine take_at (i := 2) (d := some 62) (v := ?mv4) rfl rfl (by kernel_rfl) (by kernel_rfl) (by kernel_rfl) (fun _ _ _ h => h) (Or.inl ⟨by rfl, ?my4⟩) hs ?mg4
      case my4 => (intro z hSz; (obtain ⟨⟨e0, e1⟩, e2⟩ := XB.out _ ((FW.out _ (FE.out _ _ (Ex.on E12 hSz))).2.2.2.1)); go_simp; (try with_reducible rfl))
      try simp only [Act.put, List.setIfInBounds_toArray, List.set_cons_zero, List.set_cons_succ]
      refine wpAnyH_ready (rs := [1, 5]) (by kernel_rfl) (by simp) ?_
      refine AllReadyH.cons rfl (fun K' hK' => ?_) (AllReadyH.cons rfl (fun K' hK' => ?_) AllReadyH.nil)
      · go_simp
        refine (toSlotS_has a0 cap0 d0 _ ((FW.out _ (FE.out _ _ (Ex.on E12 hs))).1) hs0).mono ?_
        rintro _ ua ⟨rfl, hba, X2, y2⟩
        refine hK'.out _ _ (hs.trans (hba.mono hs.size)) (fun hs => ?_)
        clear hK' K'
        try simp only [Act.put, List.setIfInBounds_toArray, List.set_cons_zero, List.set_cons_succ]
        (try replace PB := PB.below hba PB.lt)
        refine wpAnyH_ready (rs := [3, 5]) (by kernel_rfl) (by simp) ?_
        refine AllReadyH.cons rfl (fun K' hK' => ?_) (AllReadyH.cons rfl (fun K' hK' => ?_) AllReadyH.nil)
        · go_simp
          refine (toSlot_any k1 t1 _).mono ?_
          rintro _ ub ⟨rfl, hbb⟩
          refine hK'.out _ _ (hs.trans (hbb.mono hs.size)) (fun hs => ?_)
          clear hK' K'
          try simp only [Act.put, List.setIfInBounds_toArray, List.set_cons_zero, List.set_cons_succ]
          replace X2 := X2.below hbb (Nat.le_refl _)
          (try replace PB := PB.below hbb PB.lt)
          refine wpAnyH_ready (rs := [4, 5]) (by kernel_rfl) (by simp) ?_
          refine AllReadyH.cons rfl (fun K' hK' => ?_) (AllReadyH.cons rfl (fun K' hK' => ?_) AllReadyH.nil)
          · have zc := hs.size
            go_simp
            refine (IM.out _ _ X2).mono ?_
            rintro _ uc ⟨b3, i3, rfl, O3, hbc⟩
            refine hK'.out _ _ (hs.trans (hbc.mono hs.size)) (fun hs => ?_)
            clear hK' K'
            try simp only [Act.put, List.setIfInBounds_toArray, List.set_cons_zero, List.set_cons_succ]
            clear X2
            (try have NB : ∀ g, (Value.slice b3 zs.length i3).ownBlock = some g → g ≠ P := fun g e => by have h1 := (O3.lt g e).1; have h2 := PB.lt; omega)
            (try replace PB := PB.below hbc PB.lt)
            refine wpAnyH_ready (rs := [5]) (by kernel_rfl) (by simp) ?_
            refine AllReadyH.cons rfl (fun K' hK' => ?_) AllReadyH.nil
            have nP := hs.size
            (try have NB : ∀ g, (Value.slice b3 zs.length i3).ownBlock = some g → g ≠ uc.heap.size := fun g e => by have h2 := (O3.lt g e).2; omega)
            (try replace X2 := X2.alloc (.cells #[.int .i64 0, .slice none 0 0] 28))
            (try replace O3 := own2_below O3 ((Below.refl uc.heap.size uc).alloc (Nat.le_refl _) (.cells #[.int .i64 0, .slice none 0 0] 28)))
            go_simp
            refine hK'.out _ _ (hs.alloc hs.size _) (fun hs => ?_)
            clear hK' K'
            try simp only [Act.put, List.setIfInBounds_toArray, List.set_cons_zero, List.set_cons_succ]
            have PB := al_blk hs
            obtain ⟨A6, h6⟩ := al_w hs
            rw [← h6] at hs PB
            (try rw [← h6] at X2)
            (try rw [← h6] at O3)
            simp only [← h6]
            clear h6
            obtain ⟨P, hP⟩ := al_b PB
            rw [← hP] at PB nP
            (try rw [← hP] at NB)
            simp only [← hP]
            clear hP
            refine wpAnyH_ready (rs := [6]) (by kernel_rfl) (by simp) ?_
            refine AllReadyH.cons rfl (fun K' hK' => ?_) AllReadyH.nil
            have c0 := PB.cell 0
            have c1 := PB.cell 1
            have c2 := PB.frozen 0
            have c3 := PB.frozen 1
            simp at c0 c1
            obtain ⟨D2, PB2, F2⟩ := al_two (x := .int .i64 cd) (y := .slice b3 zs.length i3) hs PB nP
            go_simp
            refine hK'.out _ _ D2 (fun hs => ?_)
            clear hK' K'
            try simp only [Act.put, List.setIfInBounds_toArray, List.set_cons_zero, List.set_cons_succ]
            refine wpAnyH_done (by kernel_rfl) (NoPanic.normal ?_) _
            have O4 := own2_mono (own2_fr O3 F2 (fun g e1 e2 => NB g e1 e2)) zc
            clear hs PB O3 NB c0 c1 c2 c3
            go_wp2_with fail
            go_meet
            exact ⟨_, b3, i3, rfl, nP, PB2, O4, D2⟩
          · have nP := hs.size
            (try have NB : ∀ g, (Value.slice b3 zs.length i3).ownBlock = some g → g ≠ uc.heap.size := fun g e => by have h2 := (O3.lt g e).2; omega)
            (try replace X2 := X2.alloc (.cells #[.int .i64 0, .slice none 0 0] 28))
            (try replace O3 := own2_below O3 ((Below.refl uc.heap.size uc).alloc (Nat.le_refl _) (.cells #[.int .i64 0, .slice none 0 0] 28)))
            go_simp
            refine hK'.out _ _ (hs.alloc hs.size _) (fun hs => ?_)
            clear hK' K'
            try simp only [Act.put, List.setIfInBounds_toArray, List.set_cons_zero, List.set_cons_succ]
            have PB := al_blk hs
            obtain ⟨A6, h6⟩ := al_w hs
            rw [← h6] at hs PB
            (try rw [← h6] at X2)
            (try rw [← h6] at O3)
            simp only [← h6]
            clear h6
            obtain ⟨P, hP⟩ := al_b PB
            rw [← hP] at PB nP
            (try rw [← hP] at NB)
            simp only [← hP]
            clear hP
            refine wpAnyH_ready (rs := [4]) (by kernel_rfl) (by simp) ?_
            refine AllReadyH.cons rfl (fun K' hK' => ?_) AllReadyH.nil
            have zc := hs.size
            go_simp
            refine (IM.out _ _ X2).mono ?_
            rintro _ uc ⟨b3, i3, rfl, O3, hbc⟩
            refine hK'.out _ _ (hs.trans (hbc.mono hs.size)) (fun hs => ?_)
            clear hK' K'
            try simp only [Act.put, List.setIfInBounds_toArray, List.set_cons_zero, List.set_cons_succ]
            clear X2
            (try have NB : ∀ g, (Value.slice b3 zs.length i3).ownBlock = some g → g ≠ P := fun g e => by have h1 := (O3.lt g e).1; have h2 := PB.lt; omega)
            (try replace PB := PB.below hbc PB.lt)
            refine wpAnyH_ready (rs := [6]) (by kernel_rfl) (by simp) ?_
            refine AllReadyH.cons rfl (fun K' hK' => ?_) AllReadyH.nil
            have c0 := PB.cell 0
            have c1 := PB.cell 1
            have c2 := PB.frozen 0
            have c3 := PB.frozen 1
            simp at c0 c1
            obtain ⟨D2, PB2, F2⟩ := al_two (x := .int .i64 cd) (y := .slice b3 zs.length i3) hs PB nP
            go_simp
            refine hK'.out _ _ D2 (fun hs => ?_)
            clear hK' K'
            try simp only [Act.put, List.setIfInBounds_toArray, List.set_cons_zero, List.set_cons_succ]
            refine wpAnyH_done (by kernel_rfl) (NoPanic.normal ?_) _
            have O4 := own2_mono (own2_fr O3 F2 (fun g e1 e2 => NB g e1 e2)) zc
            clear hs PB O3 NB c0 c1 c2 c3
            go_wp2_with fail
            go_meet
            exact ⟨_, b3, i3, rfl, nP, PB2, O4, D2⟩
        · have nP := hs.size
          (try have NB : ∀ g, (Value.slice b3 zs.length i3).ownBlock = some g → g ≠ uc.heap.size := fun g e => by have h2 := (O3.lt g e).2; omega)
          (try replace X2 := X2.alloc (.cells #[.int .i64 0, .slice none 0 0] 28))
          (try replace O3 := own2_below O3 ((Below.refl uc.heap.size uc).alloc (Nat.le_refl _) (.cells #[.int .i64 0, .slice none 0 0] 28)))
          go_simp
          refine hK'.out _ _ (hs.alloc hs.size _) (fun hs => ?_)
          clear hK' K'
          try simp only [Act.put, List.setIfInBounds_toArray, List.set_cons_zero, List.set_cons_succ]
          have PB := al_blk hs
          obtain ⟨A6, h6⟩ := al_w hs
          rw [← h6] at hs PB
          (try rw [← h6] at X2)
          (try rw [← h6] at O3)
          simp only [← h6]
          clear h6
          obtain ⟨P, hP⟩ := al_b PB
          rw [← hP] at PB nP
          (try rw [← hP] at NB)
          simp only [← hP]
          clear hP
          refine wpAnyH_ready (rs := [3]) (by kernel_rfl) (by simp) ?_
          refine AllReadyH.cons rfl (fun K' hK' => ?_) AllReadyH.nil
          go_simp
          refine (toSlot_any k1 t1 _).mono ?_
          rintro _ ub ⟨rfl, hbb⟩
          refine hK'.out _ _ (hs.trans (hbb.mono hs.size)) (fun hs => ?_)
          clear hK' K'
          try simp only [Act.put, List.setIfInBounds_toArray, List.set_cons_zero, List.set_cons_succ]
          replace X2 := X2.below hbb (Nat.le_refl _)
          (try replace PB := PB.below hbb PB.lt)
          refine wpAnyH_ready (rs := [4]) (by kernel_rfl) (by simp) ?_
          refine AllReadyH.cons rfl (fun K' hK' => ?_) AllReadyH.nil
          have zc := hs.size
          go_simp
          refine (IM.out _ _ X2).mono ?_
          rintro _ uc ⟨b3, i3, rfl, O3, hbc⟩
          refine hK'.out _ _ (hs.trans (hbc.mono hs.size)) (fun hs => ?_)
          clear hK' K'
          try simp only [Act.put, List.setIfInBounds_toArray, List.set_cons_zero, List.set_cons_succ]
          clear X2
          (try have NB : ∀ g, (Value.slice b3 zs.length i3).ownBlock = some g → g ≠ P := fun g e => by have h1 := (O3.lt g e).1; have h2 := PB.lt; omega)
          (try replace PB := PB.below hbc PB.lt)
          refine wpAnyH_ready (rs := [6]) (by kernel_rfl) (by simp) ?_
          refine AllReadyH.cons rfl (fun K' hK' => ?_) AllReadyH.nil
          have c0 := PB.cell 0
          have c1 := PB.cell 1
          have c2 := PB.frozen 0
          have c3 := PB.frozen 1
          simp at c0 c1
          obtain ⟨D2, PB2, F2⟩ := al_two (x := .int .i64 cd) (y := .slice b3 zs.length i3) hs PB nP
          go_simp
          refine hK'.out _ _ D2 (fun hs => ?_)
          clear hK' K'
          try simp only [Act.put, List.setIfInBounds_toArray, List.set_cons_zero, List.set_cons_succ]
          refine wpAnyH_done (by kernel_rfl) (NoPanic.normal ?_) _
          have O4 := own2_mono (own2_fr O3 F2 (fun g e1 e2 => NB g e1 e2)) zc
          clear hs PB O3 NB c0 c1 c2 c3
          go_wp2_with fail
          go_meet
          exact ⟨_, b3, i3, rfl, nP, PB2, O4, D2⟩
      · have nP := hs.size
        (try have NB : ∀ g, (Value.slice b3 zs.length i3).ownBlock = some g → g ≠ uc.heap.size := fun g e => by have h2 := (O3.lt g e).2; omega)
        (try replace X2 := X2.alloc (.cells #[.int .i64 0, .slice none 0 0] 28))
        (try replace O3 := own2_below O3 ((Below.refl uc.heap.size uc).alloc (Nat.le_refl _) (.cells #[.int .i64 0, .slice none 0 0] 28)))
        go_simp
        refine hK'.out _ _ (hs.alloc hs.size _) (fun hs => ?_)
        clear hK' K'
        try simp only [Act.put, List.setIfInBounds_toArray, List.set_cons_zero, List.set_cons_succ]
        have PB := al_blk hs
        obtain ⟨A6, h6⟩ := al_w hs
        rw [← h6] at hs PB
        (try rw [← h6] at X2)
        (try rw [← h6] at O3)
        simp only [← h6]
        clear h6
        obtain ⟨P, hP⟩ := al_b PB
        rw [← hP] at PB nP
        (try rw [← hP] at NB)
        simp only [← hP]
        clear hP
        refine wpAnyH_ready (rs := [1]) (by kernel_rfl) (by simp) ?_
        refine AllReadyH.cons rfl (fun K' hK' => ?_) AllReadyH.nil
        go_simp
        refine (toSlotS_has a0 cap0 d0 _ ((FW.out _ (FE.out _ _ (Ex.on E12 hs))).1) hs0).mono ?_
        rintro _ ua ⟨rfl, hba, X2, y2⟩
        refine hK'.out _ _ (hs.trans (hba.mono hs.size)) (fun hs => ?_)
        clear hK' K'
        try simp only [Act.put, List.setIfInBounds_toArray, List.set_cons_zero, List.set_cons_succ]
        (try replace PB := PB.below hba PB.lt)
        refine wpAnyH_ready (rs := [3]) (by kernel_rfl) (by simp) ?_
        refine AllReadyH.cons rfl (fun K' hK' => ?_) AllReadyH.nil
        go_simp
        refine (toSlot_any k1 t1 _).mono ?_
        rintro _ ub ⟨rfl, hbb⟩
        refine hK'.out _ _ (hs.trans (hbb.mono hs.size)) (fun hs => ?_)
        clear hK' K'
        try simp only [Act.put, List.setIfInBounds_toArray, List.set_cons_zero, List.set_cons_succ]
        replace X2 := X2.below hbb (Nat.le_refl _)
        (try replace PB := PB.below hbb PB.lt)
        refine wpAnyH_ready (rs := [4]) (by kernel_rfl) (by simp) ?_
        refine AllReadyH.cons rfl (fun K' hK' => ?_) AllReadyH.nil
        have zc := hs.size
        go_simp
        refine (IM.out _ _ X2).mono ?_
        rintro _ uc ⟨b3, i3, rfl, O3, hbc⟩
        refine hK'.out _ _ (hs.trans (hbc.mono hs.size)) (fun hs => ?_)
        clear hK' K'
        try simp only [Act.put, List.setIfInBounds_toArray, List.set_cons_zero, List.set_cons_succ]
        clear X2
        (try have NB : ∀ g, (Value.slice b3 zs.length i3).ownBlock = some g → g ≠ P := fun g e => by have h1 := (O3.lt g e).1; have h2 := PB.lt; omega)
        (try replace PB := PB.below hbc PB.lt)
        refine wpAnyH_ready (rs := [6]) (by kernel_rfl) (by simp) ?_
        refine AllReadyH.cons rfl (fun K' hK' => ?_) AllReadyH.nil
        have c0 := PB.cell 0
        have c1 := PB.cell 1
        have c2 := PB.frozen 0
        have c3 := PB.frozen 1
        simp at c0 c1
        obtain ⟨D2, PB2, F2⟩ := al_two (x := .int .i64 cd) (y := .slice b3 zs.length i3) hs PB nP
        go_simp
        refine hK'.out _ _ D2 (fun hs => ?_)
        clear hK' K'
        try simp only [Act.put, List.setIfInBounds_toArray, List.set_cons_zero, List.set_cons_succ]
        refine wpAnyH_done (by kernel_rfl) (NoPanic.normal ?_) _
        have O4 := own2_mono (own2_fr O3 F2 (fun g e1 e2 => NB g e1 e2)) zc
        clear hs PB O3 NB c0 c1 c2 c3
        go_wp2_with fail
        go_meet
        exact ⟨_, b3, i3, rfl, nP, PB2, O4, D2⟩
    case rest =>
      obtain ⟨V2, b14, i14, rfl, hV2, VV, O14, bb0⟩ := hcut
      generalize wc = u14 at *
      have E14 : Ex U.heap.size u5.heap.size W u14 := Ex.on E12 bb0
      have D14 : Below u11.heap.size u11 u14 := D12.trans (bb0.mono D12.size)
      have fw := FW.out _ (FE.out _ _ E14)
      have v0 := (fw.2.1).cell 0
      have v1 := (fw.2.1).cell 1
      have n0 := VV.cell 0
      have n1 := VV.cell 1
      simp at v0 v1 n0 n1
      have qv := fw.2.2.2.2
      have qn := VV.lt
      clear VV E12 D12 bb0
      go_wp2_with fail
      refine (eqSlotsR_any cd _ _ _ _ zs _ (OwnS.has O14 WA.out) (fw.2.2.1) ll).mono ?_
      rintro r u15 ⟨rfl, hb15⟩
      have E15 : Ex U.heap.size u5.heap.size W u15 := Ex.on E14 hb15
      have D15 : Below u11.heap.size u11 u15 := D14.trans (hb15.mono D14.size)
      clear fw qn qv v0 v1 n0 n1 hb15 O14 E14 D14
      have vf := FV.out _ _ (Nat.le_refl _) E15
      have tt0 := (vf.1).cell 0
      have tt1 := (vf.1).cell 1
      simp at tt0 tt1
      go_wp2_with fail
      refine (heldSlotsR_any cd _ _ zs.length _ (FM.out _ D15) (by omega)).mono ?_
      rintro r u16 ⟨rfl, hb16⟩
      have E16 : Ex U.heap.size u5.heap.size W u16 := Ex.on E15 hb16
      have D16 : Below u11.heap.size u11 u16 := D15.trans (hb16.mono D15.size)
      clear vf tt0 tt1 hb16 E15 D15
      go_wp2
      go_ret
      exact ⟨rfl, EW.trans ((FW.out _ (FE.out _ _ E16)).2.2.2.1.mono EW.size)⟩

set_option maxRecDepth 100000 in
theorem fnExactPutSlot_lifted (os : Os) (started : os.Started) (H : Type) (enc : TypeId × Value → H) :
    ReturnsInHanded {} Try.checked os 3 .any (Rows.fnExactPutSlotSpec.pre6 enc Try.prog Try.f3 Rows.fnExactPutSlotRow.domain false) (Rows.fnExactPutSlotSpec.post enc Try.prog Try.f3 false true false false) := by
  refine returnsInHanded_of_change (C := Try.checked) own started (by kernel_rfl) Try.func3
    (ChangeSpec.witness6 (enc := enc) (C := Try.checked) false ⟨#[], #[.slice none 0 0, .agg #[.int .i64 0, .int .i64 0]], []⟩ 8 (by kernel_rfl) (by kernel_rfl) (by kernel_rfl) (by kernel_rfl)) ?_
  intro W base args ds gs before hval0 hW hcnd _
  have hval : ∀ (j : Nat) t v, Try.f3.params[j]? = some t → args[j]? = some v → Value.okWide Try.prog W .any base t v := hval0
  have hW' := hW
  obtain ⟨p, q, hA0, hV, rfl, hfz, hnd⟩ := hW
  have hA : DataW.TrodAll enc Try.prog W 0 (fun _ => true) true Try.f3.params.toList args.toList ds p := hA0
  rw [Try.params3] at hA hval
  obtain ⟨v0, vs0, d0, ds0, p0, q0, hargs, rfl, rfl, h0, r0⟩ := trodAll_cons hA
  obtain ⟨v1, vs1, d1, ds1, p1, q1, rfl, rfl, rfl, h1, r1⟩ := trodAll_cons r0
  obtain ⟨rfl, rfl, rfl⟩ := trodAll_nil r1
  obtain rfl : args = #[v0, v1] := by cases args; simp_all
  obtain ⟨rfl, rfl⟩ := trodVars_none hV
  have g0 := h0
  have lt0 : ∀ x ∈ p0, x.block < W.heap.size := by obtain ⟨m, hm⟩ := g0; exact DataW.trod_lt m _ _ _ hm
  have g1 := h1
  have lt1 : ∀ x ∈ p1, x.block < W.heap.size := by obtain ⟨m, hm⟩ := g1; exact DataW.trod_lt m _ _ _ hm
  obtain ⟨a0, len0, cap0, rfl⟩ := okWide_slice Try.underlying22 (hval 0 22 v0 rfl rfl)
  obtain ⟨d0, w0⟩ : ∃ l, IsSls W a0 len0 cap0 l := by
    obtain ⟨fuel, hf⟩ := h0
    obtain ⟨a', l', c', rs, e, h⟩ := sls_of_trod (v := .slice a0 len0 cap0) Try.underlying22 Try.underlying24 Try.underlying2 Try.underlying2 (by kernel_rfl) rfl rfl (by kernel_rfl) (by kernel_rfl) (by simpa [Value.cells] using hf)
    simp at e
    obtain ⟨rfl, rfl, rfl⟩ := e
    exact ⟨rs, h⟩
  obtain ⟨z0, z1, y0, y1, fu, rfl, rfl, rfl, hy0, hy1⟩ := Go.Joins.open_agg2 Try.underlying24 (by kernel_rfl) (by kernel_rfl) (hval 1 24 v1 rfl rfl) h1
  obtain ⟨k1, q0, rfl, wk1⟩ := DataW.trod_int Try.underlying2 hy0
  obtain ⟨t1, q1, rfl, wt1⟩ := DataW.trod_int Try.underlying2 hy1
  simp at q0 q1
  subst q0 q1
  clear hA0 hval0
  refine (fnExactPutSlot_walk W a0 len0 cap0 d0 w0 k1 t1 wk1 wt1).mono fun e W' ⟨he, bel⟩ => ?_
  subst he
  exact ⟨_, rfl, _, _, _, [], _, [], hW', trodAll_mk1 (shut_bool Try.underlying4 _), (trodAll_cons_mk (Below.trod laidOut (by kernel_rfl) (of_decide_eq_true (by kernel_rfl)) g0 bel lt0) (trodAll_cons_mk (Below.trod laidOut (by kernel_rfl) (of_decide_eq_true (by kernel_rfl)) g1 bel lt1) trodAll_mk0)), rfl, bel.frame _, fun h => by cases h⟩

theorem fnExactPutSlot_holds : Rows.FnExactPutSlotSaid :=
  OpenClaim.holds_of_wide 3 Try.f3 rfl rfl rfl rfl rfl rfl rfl ⟨rfl, rfl, rfl, rfl, rfl⟩ rfl rfl rfl rfl rfl (by kernel_rfl) Try.func3 (by kernel_rfl)
    (of_decide_eq_true (by kernel_rfl)) (by unfold Func.isWrapper; first | (rw [if_pos (by decide +kernel)]; kernel_rfl) | (rw [if_neg (by decide +kernel)]; exact ⟨rfl, rfl⟩))
    (fun os started H enc _ => fnExactPutSlot_lifted os started H enc)
#print axioms fnExactPutSlot_holds
end Go.Proofs.Ytcngdbbfogdnhaa
