/- Contracts of the model of chapter 8: what is signed. -/
import Derived.Test.YtffidkoejlebeaaGreatDoorKyS
import Derived.Test.YtffidkoejlebeaaGreatDoorLvl
import Derived.Test.YtffidkoejlebeaaGreatDoorRegB
namespace Go.Proofs.YtffidkoejlebeaaGreatDoor
open Go.ChangeShapes Go.WideShapes Go.ChangeAt Go.RowKit
set_option maxRecDepth 100000
set_option linter.unusedVariables false
set_option linter.unusedSimpArgs false

set_option maxHeartbeats 4000000 in
theorem l8Sign_any (s i x : Int) (w : World) (hs : 0 ≤ s ∧ s ≤ 999) (h2 : 0 ≤ i ∧ i ≤ 7) (hx : 0 ≤ x ∧ x ≤ 65520) :
    Calls Tryz.prog 68 #[.int .i64 s, .int .i64 i, .int .i64 x] w fun r w' => ∃ a1 c1 a2 c2, r = .returned (.agg #[.int .i64 i, .slice a1 (shW s i x (List.range 16)).length c1, .slice a2 (otW s i x (List.range 16)).length c2]) ∧ OwnN w' w.heap.size (.slice a1 (shW s i x (List.range 16)).length c1) (shW s i x (List.range 16)) ∧ OwnN w' w.heap.size (.slice a2 (otW s i x (List.range 16)).length c2) (otW s i x (List.range 16)) ∧ (∀ y z, a1 = some y → a2 = some z → y.block ≠ z.block) ∧ Below w.heap.size w w' := by
  obtain ⟨i0, hi, hz0, hz1, hz2⟩ := info_parts info64
  obtain ⟨W0, hW0⟩ : ∃ W0, W0 = (w.alloc (.cells #[.int .i64 0, .slice none 0 0, .slice none 0 0] 36)).alloc (.cells #[.int .i64 i, .slice none 0 0, .slice none 0 0] 36) := ⟨_, rfl⟩
  have zW0 : W0.heap.size = w.heap.size + 2 := by rw [hW0]; simp
  have B0 : Below w.heap.size w W0 := by rw [hW0]; exact ((Below.refl _ _).alloc (Nat.le_refl _) _).alloc (by simp) _
  have R0 : Blk W0 w.heap.size #[.int .i64 0, .slice none 0 0, .slice none 0 0] 36 := by rw [hW0]; exact (Blk.new w _ _).below ((Below.refl _ _).alloc (Nat.le_refl _) _) (by simp)
  have V0 : Blk W0 (w.heap.size + 1) #[.int .i64 i, .slice none 0 0, .slice none 0 0] 36 := by
    have := Blk.new (w.alloc (.cells #[.int .i64 0, .slice none 0 0, .slice none 0 0] 36)) #[.int .i64 i, .slice none 0 0, .slice none 0 0] 36
    rw [World.size_alloc] at this
    rw [hW0]; exact this
  have I0 : SgS (w.heap.size + 1) W0 i (shW s i x (List.range 0)) (otW s i x (List.range 0)) W0 (.slice none 0 0) (.slice none 0 0) := ⟨V0, nil_ownN _ _, nil_ownN _ _, (fun g e => by simp [Value.ownBlock] at e), Fr.refl _ _⟩
  have BT : Hid (∀ (n : Nat) (u : World), n < 16 → Calls Tryz.prog 99 #[.int .i64 x, .int .i64 n] u fun r w' => r = .returned (.int .i64 (bitV x n)) ∧ w' = u) := fun n u h => l8Bit_any x n u hx h
  have SE : Hid (∀ (n : Nat) (d : Int) (u : World), n < 16 → 0 ≤ d ∧ d ≤ 1 → Calls Tryz.prog 100 #[.int .i64 s, .int .i64 i, .int .i64 n, .int .i64 d] u fun r w' => r = .returned (.int .i64 (secV s i n d)) ∧ Below u.heap.size u w') := fun n d u h h' => l8Secret_any s i n d u hs h2 (by omega) h'
  have OP : Hid (∀ (n : Nat) (d : Int) (u : World), Calls Tryz.prog 101 #[.int .i64 (secV s i n d)] u fun r w' => r = .returned (.int .i64 (opnV (secV s i n d))) ∧ Below u.heap.size u w') := fun n d u => l8Open_any _ u (secV_bd _ _ _ _).1 (by have := secV_bd s i n d; omega)
  have SS : Hid (∀ n, shW s i x (List.range (n + 1)) = shW s i x (List.range n) ++ [secV s i n (bitV x n)]) := fun n => by rw [List.range_succ, shW_snoc]
  have SO : Hid (∀ n, otW s i x (List.range (n + 1)) = otW s i x (List.range n) ++ [opnV (secV s i n (1 - bitV x n))]) := fun n => by rw [List.range_succ, otW_snoc]
  have LS : Hid (∀ n, (shW s i x (List.range n)).length = n ∧ (otW s i x (List.range n)).length = n) := fun n => by rw [shW_len, otW_len, List.length_range]; exact ⟨rfl, rfl⟩
  go_enter Tryz.func68, Tryz.ntmps68
  go_wp2
  simp only [← hW0]
  clear hW0
  obtain ⟨V, hV⟩ : ∃ V, V = w.heap.size + 1 := ⟨_, rfl⟩
  rw [← hV] at I0 V0
  simp only [← hV]
  have hVB : V < W0.heap.size := by omega
  have WV : Hid (V = w.heap.size + 1) := hV
  clear hV
  go_loopw [8] (fun b wr => ∃ (n : Nat) (sv ov : Value), n ≤ 16 ∧ b = .int .i64 n ∧ SgS V W0 i (shW s i x (List.range n)) (otW s i x (List.range n)) wr sv ov) (fun b _ => 16 - (intOf b).toNat)
  case atStart => exact ⟨0, _, _, Nat.zero_le _, rfl, I0⟩
  case round =>
    clear I0
    obtain ⟨n, sv, ov, hn, rfl, H⟩ := hrel
    by_cases hlt : n < 16
    · have hlt' : (n : Int) < 16 := by omega
      have b01 := bitV_01 x n
      have BTn := BT.out n
      have HSS := SS.out n
      have HSO := SO.out n
      have zs : (shW s i x (List.range n)).length ≤ 32 ∧ (otW s i x (List.range n)).length ≤ 32 := by have := LS.out n; omega
      have SE1 := SE.out n (bitV x n)
      have SE2 := SE.out n (1 - bitV x n)
      have OP2 := OP.out n (1 - bitV x n)
      generalize bitV x n = d at *
      generalize secV s i n d = y1 at *
      generalize secV s i n (1 - d) = y0 at *
      generalize opnV y0 = y2 at *
      have HSS' : Hid (_) := HSS
      have HSO' : Hid (_) := HSO
      clear HSS HSO
      generalize shW s i x (List.range n) = sh at *
      generalize otW s i x (List.range n) = ot at *
      have SE1' : Hid (∀ u : World, Calls Tryz.prog 100 #[.int .i64 s, .int .i64 i, .int .i64 n, .int .i64 d] u fun r w' => r = .returned (.int .i64 y1) ∧ Below u.heap.size u w') := fun u => SE1 u hlt (by omega)
      have SE2' : Hid (∀ u : World, Calls Tryz.prog 100 #[.int .i64 s, .int .i64 i, .int .i64 n, .int .i64 (1 - d)] u fun r w' => r = .returned (.int .i64 y0) ∧ Below u.heap.size u w') := fun u => SE2 u hlt (by omega)
      clear SE1 SE2
      have d0 : 0 ≤ d := by omega
      have d1 : d ≤ 1 := by omega
      have WD : Hid (IntKind.i64.wrap (1 - d) = 1 - d) := by show _ = _; rw [IntKind.wrap_i64]; omega
      go_wp2_with fail
      refine (BTn _ hlt).mono ?_
      rintro r u0 ⟨rfl, hu0⟩
      have hu := hu0.symm
      subst hu
      clear hu0
      have BW : W0.heap.size ≤ wr.heap.size := H.fr.size
      have CV : ∀ wx : World, Below wr.heap.size wr wx → wx.cell? ⟨V, 1, none⟩ = some sv ∧ V < wx.heap.size := fun wx hb => by
        have := H.v.below hb H.v.lt
        exact ⟨(this.cell 1).trans rfl, this.lt⟩
      have D : Below wr.heap.size wr wr.drew := (Below.refl _ _).drew
      go_wp2_with fail
      refine wp_region_noPanic ?_
      refine wp_region_held_drew (S := fun u => True) (by kernel_rfl) trivial (fun hs => ?_)
      refine take_at (i := 0) (d := some 19) (v := ?mv1) rfl rfl (by kernel_rfl) (by kernel_rfl) (by kernel_rfl) (fun _ _ _ h => h) (Or.inl ⟨by rfl, ?my1⟩) hs ?mg1
      case my1 => (intro z hSz; skip; go_simp; (try with_reducible rfl))
      try simp only [Act.put, List.setIfInBounds_toArray, List.set_cons_zero, List.set_cons_succ]
      refine take_at (i := 2) (d := some 21) (v := ?mv2) rfl rfl (by kernel_rfl) (by kernel_rfl) (by kernel_rfl) (fun _ _ _ h => h) (Or.inl ⟨by rfl, ?my2⟩) hs ?mg2
      case my2 => (intro z hSz; skip; go_simp; (try with_reducible rfl))
      try simp only [Act.put, List.setIfInBounds_toArray, List.set_cons_zero, List.set_cons_succ]
      refine take_at (i := 3) (d := some 22) (v := ?mv3) rfl rfl (by kernel_rfl) (by kernel_rfl) (by kernel_rfl) (fun _ _ _ h => h) (Or.inl ⟨by rfl, ?my3⟩) hs ?mg3
      case my3 => (intro z hSz; skip; go_simp; (try with_reducible rfl))
      try simp only [Act.put, List.setIfInBounds_toArray, List.set_cons_zero, List.set_cons_succ]
      refine take_at (i := 4) (d := some 23) (v := ?mv4) rfl rfl (by kernel_rfl) (by kernel_rfl) (by kernel_rfl) (fun _ _ _ h => h) (Or.inl ⟨by rfl, ?my4⟩) hs ?mg4
      case my4 => (intro z hSz; skip; go_simp; (try with_reducible rfl))
      try simp only [Act.put, List.setIfInBounds_toArray, List.set_cons_zero, List.set_cons_succ]
      refine take_at (i := 5) (d := some 24) (v := ?mv5) rfl rfl (by kernel_rfl) (by kernel_rfl) (by kernel_rfl) (fun _ _ _ h => h) (Or.inl ⟨by rfl, ?my5⟩) hs ?mg5
      case my5 => (intro z hSz; skip; go_simp; (try with_reducible rfl))
      try simp only [Act.put, List.setIfInBounds_toArray, List.set_cons_zero, List.set_cons_succ]
      refine wpAnyH_ready (rs := [1, 6]) (by kernel_rfl) (by simp) ?_
      refine AllReadyH.cons rfl (fun K' hK' => ?_) (AllReadyH.cons rfl (fun K' hK' => ?_) AllReadyH.nil)
      · obtain ⟨c1, c3⟩ := CV _ D
        go_simp
        refine hK'.out _ _ trivial (fun hs => ?_)
        clear hK' K'
        try simp only [Act.put, List.setIfInBounds_toArray, List.set_cons_zero, List.set_cons_succ]
        refine wpAnyH_ready (rs := [6]) (by kernel_rfl) (by simp) ?_
        refine AllReadyH.cons rfl (fun K' hK' => ?_) AllReadyH.nil
        go_simp
        refine (SE1'.out _).mono ?_
        rintro _ u1 ⟨rfl, hb1⟩
        have D1 := D.trans (hb1.mono D.size)
        refine hK'.out _ _ trivial (fun hs => ?_)
        clear hK' K'
        try simp only [Act.put, List.setIfInBounds_toArray, List.set_cons_zero, List.set_cons_succ]
        have D := D1
        refine wpAnyH_ready (rs := [7]) (by kernel_rfl) (by simp) ?_
        refine AllReadyH.cons rfl (fun K' hK' => ?_) AllReadyH.nil
        go_simp
        refine hK'.out _ _ trivial (fun hs => ?_)
        clear hK' K'
        try simp only [Act.put, List.setIfInBounds_toArray, List.set_cons_zero, List.set_cons_succ]
        have D := D.alloc D.size (.cells #[.int .i64 y1] 2)
        refine wpAnyH_ready (rs := [8]) (by kernel_rfl) (by simp) ?_
        refine AllReadyH.cons rfl (fun K' hK' => ?_) AllReadyH.nil
        refine step_app1 rfl _ _ 34 rfl W0.heap.size 2 i0 Tryz.underlying34 hi hz0 hz1 hz2 sv sh.length (sh.map (.int .i64)) rfl (H.below D).s _ 1 y1 rfl (by simp [go_sem]) (by omega) (Nat.le_trans BW D.size) ?_
        intro g' c' w3 hown hgrow hnew
        obtain ⟨E1, V3, F3⟩ := H.show1 hVB D hown hgrow hnew
        have k1 := V3.cell 1
        have k3 := V3.frozen 1
        simp at k1
        refine hK'.out _ _ trivial (fun hs => ?_)
        clear hK' K'
        try simp only [Act.put, List.setIfInBounds_toArray, List.set_cons_zero, List.set_cons_succ]
        refine wpAnyH_ready (rs := [9]) (by kernel_rfl) (by simp) ?_
        refine AllReadyH.cons rfl (fun K' hK' => ?_) AllReadyH.nil
        go_simp
        refine hK'.out _ _ trivial (fun hs => ?_)
        clear hK' K'
        try simp only [Act.put, List.setIfInBounds_toArray, List.set_cons_zero, List.set_cons_succ]
        refine wpAnyH_ready (rs := [10]) (by kernel_rfl) (by simp) ?_
        refine AllReadyH.cons rfl (fun K' hK' => ?_) AllReadyH.nil
        go_simp
        refine hK'.out _ _ trivial (fun hs => ?_)
        clear hK' K'
        try simp only [Act.put, List.setIfInBounds_toArray, List.set_cons_zero, List.set_cons_succ]
        refine wpAnyH_done (by kernel_rfl) (NoPanic.normal ?_) _
        clear hs k1 k3 V3 F3 hown hgrow hnew D D1 hb1
        go_wp2_with fail
        generalize w3.setCell ⟨V, 1, none⟩ (Value.slice (some ⟨g', 0, none⟩) (sh.length + 1) c') = Y at *
        generalize Value.slice (some ⟨g', 0, none⟩) (sh.length + 1) c' = tv1 at *
        have BY : W0.heap.size ≤ Y.heap.size := E1.fr.size
        have CW : ∀ wx : World, Below Y.heap.size Y wx → wx.cell? ⟨V, 2, none⟩ = some ov ∧ V < wx.heap.size := fun wx hb => ⟨((E1.v.below hb E1.v.lt).cell 2).trans rfl, (E1.v.below hb E1.v.lt).lt⟩
        have D : Below Y.heap.size Y Y.drew := (Below.refl _ _).drew
        refine wp_region_noPanic ?_
        refine wp_region_held_drew (S := fun u => True) (by kernel_rfl) trivial (fun hs => ?_)
        refine take_at (i := 0) (d := some 29) (v := ?mv6) rfl rfl (by kernel_rfl) (by kernel_rfl) (by kernel_rfl) (fun _ _ _ h => h) (Or.inl ⟨by rfl, ?my6⟩) hs ?mg6
        case my6 => (intro z hSz; skip; go_simp; (try with_reducible rfl))
        try simp only [Act.put, List.setIfInBounds_toArray, List.set_cons_zero, List.set_cons_succ]
        refine take_at (i := 2) (d := some 31) (v := ?mv7) rfl rfl (by kernel_rfl) (by kernel_rfl) (by kernel_rfl) (fun _ _ _ h => h) (Or.inl ⟨by rfl, ?my7⟩) hs ?mg7
        case my7 => (intro z hSz; skip; go_simp; (try with_reducible rfl))
        try simp only [Act.put, List.setIfInBounds_toArray, List.set_cons_zero, List.set_cons_succ]
        refine take_at (i := 3) (d := some 32) (v := ?mv8) rfl rfl (by kernel_rfl) (by kernel_rfl) (by kernel_rfl) (fun _ _ _ h => h) (Or.inl ⟨by rfl, ?my8⟩) hs ?mg8
        case my8 => (intro z hSz; skip; go_simp; (try with_reducible rfl))
        try simp only [Act.put, List.setIfInBounds_toArray, List.set_cons_zero, List.set_cons_succ]
        refine take_at (i := 4) (d := some 33) (v := ?mv9) rfl rfl (by kernel_rfl) (by kernel_rfl) (by kernel_rfl) (fun _ _ _ h => h) (Or.inl ⟨by rfl, ?my9⟩) hs ?mg9
        case my9 => (intro z hSz; skip; go_simp; (try with_reducible rfl))
        try simp only [Act.put, List.setIfInBounds_toArray, List.set_cons_zero, List.set_cons_succ]
        refine take_at (i := 5) (d := some 34) (v := ?mv10) rfl rfl (by kernel_rfl) (by kernel_rfl) (by kernel_rfl) (fun _ _ _ h => h) (Or.inl ⟨by rfl, ?my10⟩) hs ?mg10
        case my10 => (intro z hSz; skip; go_simp; (try with_reducible rfl))
        try simp only [Act.put, List.setIfInBounds_toArray, List.set_cons_zero, List.set_cons_succ]
        refine take_at (i := 6) (d := some 35) (v := ?mv11) rfl rfl (by kernel_rfl) (by kernel_rfl) (by kernel_rfl) (fun _ _ _ h => h) (Or.inl ⟨by rfl, ?my11⟩) hs ?mg11
        case my11 => (intro z hSz; skip; go_simp; (try with_reducible rfl))
        try simp only [Act.put, List.setIfInBounds_toArray, List.set_cons_zero, List.set_cons_succ]
        refine wpAnyH_ready (rs := [1, 7]) (by kernel_rfl) (by simp) ?_
        refine AllReadyH.cons rfl (fun K' hK' => ?_) (AllReadyH.cons rfl (fun K' hK' => ?_) AllReadyH.nil)
        · obtain ⟨c1, c3⟩ := CW _ D
          go_simp
          refine hK'.out _ _ trivial (fun hs => ?_)
          clear hK' K'
          try simp only [Act.put, List.setIfInBounds_toArray, List.set_cons_zero, List.set_cons_succ]
          refine wpAnyH_ready (rs := [7]) (by kernel_rfl) (by simp) ?_
          refine AllReadyH.cons rfl (fun K' hK' => ?_) AllReadyH.nil
          go_simp
          rw [WD.out]
          refine (SE2'.out _).mono ?_
          rintro _ u1 ⟨rfl, hb1⟩
          have D1 := D.trans (hb1.mono D.size)
          refine hK'.out _ _ trivial (fun hs => ?_)
          clear hK' K'
          try simp only [Act.put, List.setIfInBounds_toArray, List.set_cons_zero, List.set_cons_succ]
          have D := D1
          refine wpAnyH_ready (rs := [8]) (by kernel_rfl) (by simp) ?_
          refine AllReadyH.cons rfl (fun K' hK' => ?_) AllReadyH.nil
          go_simp
          refine (OP2 _).mono ?_
          rintro _ u2 ⟨rfl, hb2⟩
          have D2 := D.trans (hb2.mono D.size)
          refine hK'.out _ _ trivial (fun hs => ?_)
          clear hK' K'
          try simp only [Act.put, List.setIfInBounds_toArray, List.set_cons_zero, List.set_cons_succ]
          have D := D2
          refine wpAnyH_ready (rs := [9]) (by kernel_rfl) (by simp) ?_
          refine AllReadyH.cons rfl (fun K' hK' => ?_) AllReadyH.nil
          go_simp
          refine hK'.out _ _ trivial (fun hs => ?_)
          clear hK' K'
          try simp only [Act.put, List.setIfInBounds_toArray, List.set_cons_zero, List.set_cons_succ]
          have D := D.alloc D.size (.cells #[.int .i64 y2] 2)
          refine wpAnyH_ready (rs := [10]) (by kernel_rfl) (by simp) ?_
          refine AllReadyH.cons rfl (fun K' hK' => ?_) AllReadyH.nil
          refine step_app1 rfl _ _ 34 rfl W0.heap.size 2 i0 Tryz.underlying34 hi hz0 hz1 hz2 ov ot.length (ot.map (.int .i64)) rfl (E1.below D).o _ 1 y2 rfl (by simp [go_sem]) (by omega) (Nat.le_trans BY D.size) ?_
          intro g' c' w3 hown hgrow hnew
          obtain ⟨E2, V3, F3⟩ := E1.other1 hVB D hown hgrow hnew
          have k1 := V3.cell 2
          have k3 := V3.frozen 2
          simp at k1
          refine hK'.out _ _ trivial (fun hs => ?_)
          clear hK' K'
          try simp only [Act.put, List.setIfInBounds_toArray, List.set_cons_zero, List.set_cons_succ]
          refine wpAnyH_ready (rs := [11]) (by kernel_rfl) (by simp) ?_
          refine AllReadyH.cons rfl (fun K' hK' => ?_) AllReadyH.nil
          go_simp
          refine hK'.out _ _ trivial (fun hs => ?_)
          clear hK' K'
          try simp only [Act.put, List.setIfInBounds_toArray, List.set_cons_zero, List.set_cons_succ]
          refine wpAnyH_ready (rs := [12]) (by kernel_rfl) (by simp) ?_
          refine AllReadyH.cons rfl (fun K' hK' => ?_) AllReadyH.nil
          go_simp
          refine hK'.out _ _ trivial (fun hs => ?_)
          clear hK' K'
          try simp only [Act.put, List.setIfInBounds_toArray, List.set_cons_zero, List.set_cons_succ]
          refine wpAnyH_done (by kernel_rfl) (NoPanic.normal ?_) _
          rw [← HSS'.out, ← HSO'.out] at E2
          clear hs k1 k3 V3 F3 hown hgrow hnew D E1
          go_wp2
          go_roundw
          case rel => exact ⟨n + 1, _, _, by omega, by go_num, E2⟩
          case measure => simp [intOf]; omega
        · go_simp
          rw [WD.out]
          refine (SE2'.out _).mono ?_
          rintro _ u1 ⟨rfl, hb1⟩
          have D1 := D.trans (hb1.mono D.size)
          refine hK'.out _ _ trivial (fun hs => ?_)
          clear hK' K'
          try simp only [Act.put, List.setIfInBounds_toArray, List.set_cons_zero, List.set_cons_succ]
          have D := D1
          refine wpAnyH_ready (rs := [1, 8]) (by kernel_rfl) (by simp) ?_
          refine AllReadyH.cons rfl (fun K' hK' => ?_) (AllReadyH.cons rfl (fun K' hK' => ?_) AllReadyH.nil)
          · obtain ⟨c1, c3⟩ := CW _ D
            go_simp
            refine hK'.out _ _ trivial (fun hs => ?_)
            clear hK' K'
            try simp only [Act.put, List.setIfInBounds_toArray, List.set_cons_zero, List.set_cons_succ]
            refine wpAnyH_ready (rs := [8]) (by kernel_rfl) (by simp) ?_
            refine AllReadyH.cons rfl (fun K' hK' => ?_) AllReadyH.nil
            go_simp
            refine (OP2 _).mono ?_
            rintro _ u2 ⟨rfl, hb2⟩
            have D2 := D.trans (hb2.mono D.size)
            refine hK'.out _ _ trivial (fun hs => ?_)
            clear hK' K'
            try simp only [Act.put, List.setIfInBounds_toArray, List.set_cons_zero, List.set_cons_succ]
            have D := D2
            refine wpAnyH_ready (rs := [9]) (by kernel_rfl) (by simp) ?_
            refine AllReadyH.cons rfl (fun K' hK' => ?_) AllReadyH.nil
            go_simp
            refine hK'.out _ _ trivial (fun hs => ?_)
            clear hK' K'
            try simp only [Act.put, List.setIfInBounds_toArray, List.set_cons_zero, List.set_cons_succ]
            have D := D.alloc D.size (.cells #[.int .i64 y2] 2)
            refine wpAnyH_ready (rs := [10]) (by kernel_rfl) (by simp) ?_
            refine AllReadyH.cons rfl (fun K' hK' => ?_) AllReadyH.nil
            refine step_app1 rfl _ _ 34 rfl W0.heap.size 2 i0 Tryz.underlying34 hi hz0 hz1 hz2 ov ot.length (ot.map (.int .i64)) rfl (E1.below D).o _ 1 y2 rfl (by simp [go_sem]) (by omega) (Nat.le_trans BY D.size) ?_
            intro g' c' w3 hown hgrow hnew
            obtain ⟨E2, V3, F3⟩ := E1.other1 hVB D hown hgrow hnew
            have k1 := V3.cell 2
            have k3 := V3.frozen 2
            simp at k1
            refine hK'.out _ _ trivial (fun hs => ?_)
            clear hK' K'
            try simp only [Act.put, List.setIfInBounds_toArray, List.set_cons_zero, List.set_cons_succ]
            refine wpAnyH_ready (rs := [11]) (by kernel_rfl) (by simp) ?_
            refine AllReadyH.cons rfl (fun K' hK' => ?_) AllReadyH.nil
            go_simp
            refine hK'.out _ _ trivial (fun hs => ?_)
            clear hK' K'
            try simp only [Act.put, List.setIfInBounds_toArray, List.set_cons_zero, List.set_cons_succ]
            refine wpAnyH_ready (rs := [12]) (by kernel_rfl) (by simp) ?_
            refine AllReadyH.cons rfl (fun K' hK' => ?_) AllReadyH.nil
            go_simp
            refine hK'.out _ _ trivial (fun hs => ?_)
            clear hK' K'
            try simp only [Act.put, List.setIfInBounds_toArray, List.set_cons_zero, List.set_cons_succ]
            refine wpAnyH_done (by kernel_rfl) (NoPanic.normal ?_) _
            rw [← HSS'.out, ← HSO'.out] at E2
            clear hs k1 k3 V3 F3 hown hgrow hnew D E1
            go_wp2
            go_roundw
            case rel => exact ⟨n + 1, _, _, by omega, by go_num, E2⟩
            case measure => simp [intOf]; omega
          · go_simp
            refine (OP2 _).mono ?_
            rintro _ u2 ⟨rfl, hb2⟩
            have D2 := D.trans (hb2.mono D.size)
            refine hK'.out _ _ trivial (fun hs => ?_)
            clear hK' K'
            try simp only [Act.put, List.setIfInBounds_toArray, List.set_cons_zero, List.set_cons_succ]
            have D := D2
            refine wpAnyH_ready (rs := [1, 9]) (by kernel_rfl) (by simp) ?_
            refine AllReadyH.cons rfl (fun K' hK' => ?_) (AllReadyH.cons rfl (fun K' hK' => ?_) AllReadyH.nil)
            · obtain ⟨c1, c3⟩ := CW _ D
              go_simp
              refine hK'.out _ _ trivial (fun hs => ?_)
              clear hK' K'
              try simp only [Act.put, List.setIfInBounds_toArray, List.set_cons_zero, List.set_cons_succ]
              refine wpAnyH_ready (rs := [9]) (by kernel_rfl) (by simp) ?_
              refine AllReadyH.cons rfl (fun K' hK' => ?_) AllReadyH.nil
              go_simp
              refine hK'.out _ _ trivial (fun hs => ?_)
              clear hK' K'
              try simp only [Act.put, List.setIfInBounds_toArray, List.set_cons_zero, List.set_cons_succ]
              have D := D.alloc D.size (.cells #[.int .i64 y2] 2)
              refine wpAnyH_ready (rs := [10]) (by kernel_rfl) (by simp) ?_
              refine AllReadyH.cons rfl (fun K' hK' => ?_) AllReadyH.nil
              refine step_app1 rfl _ _ 34 rfl W0.heap.size 2 i0 Tryz.underlying34 hi hz0 hz1 hz2 ov ot.length (ot.map (.int .i64)) rfl (E1.below D).o _ 1 y2 rfl (by simp [go_sem]) (by omega) (Nat.le_trans BY D.size) ?_
              intro g' c' w3 hown hgrow hnew
              obtain ⟨E2, V3, F3⟩ := E1.other1 hVB D hown hgrow hnew
              have k1 := V3.cell 2
              have k3 := V3.frozen 2
              simp at k1
              refine hK'.out _ _ trivial (fun hs => ?_)
              clear hK' K'
              try simp only [Act.put, List.setIfInBounds_toArray, List.set_cons_zero, List.set_cons_succ]
              refine wpAnyH_ready (rs := [11]) (by kernel_rfl) (by simp) ?_
              refine AllReadyH.cons rfl (fun K' hK' => ?_) AllReadyH.nil
              go_simp
              refine hK'.out _ _ trivial (fun hs => ?_)
              clear hK' K'
              try simp only [Act.put, List.setIfInBounds_toArray, List.set_cons_zero, List.set_cons_succ]
              refine wpAnyH_ready (rs := [12]) (by kernel_rfl) (by simp) ?_
              refine AllReadyH.cons rfl (fun K' hK' => ?_) AllReadyH.nil
              go_simp
              refine hK'.out _ _ trivial (fun hs => ?_)
              clear hK' K'
              try simp only [Act.put, List.setIfInBounds_toArray, List.set_cons_zero, List.set_cons_succ]
              refine wpAnyH_done (by kernel_rfl) (NoPanic.normal ?_) _
              rw [← HSS'.out, ← HSO'.out] at E2
              clear hs k1 k3 V3 F3 hown hgrow hnew D E1
              go_wp2
              go_roundw
              case rel => exact ⟨n + 1, _, _, by omega, by go_num, E2⟩
              case measure => simp [intOf]; omega
            · go_simp
              refine hK'.out _ _ trivial (fun hs => ?_)
              clear hK' K'
              try simp only [Act.put, List.setIfInBounds_toArray, List.set_cons_zero, List.set_cons_succ]
              have D := D.alloc D.size (.cells #[.int .i64 y2] 2)
              refine wpAnyH_ready (rs := [1]) (by kernel_rfl) (by simp) ?_
              refine AllReadyH.cons rfl (fun K' hK' => ?_) AllReadyH.nil
              obtain ⟨c1, c3⟩ := CW _ D
              go_simp
              refine hK'.out _ _ trivial (fun hs => ?_)
              clear hK' K'
              try simp only [Act.put, List.setIfInBounds_toArray, List.set_cons_zero, List.set_cons_succ]
              refine wpAnyH_ready (rs := [10]) (by kernel_rfl) (by simp) ?_
              refine AllReadyH.cons rfl (fun K' hK' => ?_) AllReadyH.nil
              refine step_app1 rfl _ _ 34 rfl W0.heap.size 2 i0 Tryz.underlying34 hi hz0 hz1 hz2 ov ot.length (ot.map (.int .i64)) rfl (E1.below D).o _ 1 y2 rfl (by simp [go_sem]) (by omega) (Nat.le_trans BY D.size) ?_
              intro g' c' w3 hown hgrow hnew
              obtain ⟨E2, V3, F3⟩ := E1.other1 hVB D hown hgrow hnew
              have k1 := V3.cell 2
              have k3 := V3.frozen 2
              simp at k1
              refine hK'.out _ _ trivial (fun hs => ?_)
              clear hK' K'
              try simp only [Act.put, List.setIfInBounds_toArray, List.set_cons_zero, List.set_cons_succ]
              refine wpAnyH_ready (rs := [11]) (by kernel_rfl) (by simp) ?_
              refine AllReadyH.cons rfl (fun K' hK' => ?_) AllReadyH.nil
              go_simp
              refine hK'.out _ _ trivial (fun hs => ?_)
              clear hK' K'
              try simp only [Act.put, List.setIfInBounds_toArray, List.set_cons_zero, List.set_cons_succ]
              refine wpAnyH_ready (rs := [12]) (by kernel_rfl) (by simp) ?_
              refine AllReadyH.cons rfl (fun K' hK' => ?_) AllReadyH.nil
              go_simp
              refine hK'.out _ _ trivial (fun hs => ?_)
              clear hK' K'
              try simp only [Act.put, List.setIfInBounds_toArray, List.set_cons_zero, List.set_cons_succ]
              refine wpAnyH_done (by kernel_rfl) (NoPanic.normal ?_) _
              rw [← HSS'.out, ← HSO'.out] at E2
              clear hs k1 k3 V3 F3 hown hgrow hnew D E1
              go_wp2
              go_roundw
              case rel => exact ⟨n + 1, _, _, by omega, by go_num, E2⟩
              case measure => simp [intOf]; omega
      · go_simp
        refine (SE1'.out _).mono ?_
        rintro _ u1 ⟨rfl, hb1⟩
        have D1 := D.trans (hb1.mono D.size)
        refine hK'.out _ _ trivial (fun hs => ?_)
        clear hK' K'
        try simp only [Act.put, List.setIfInBounds_toArray, List.set_cons_zero, List.set_cons_succ]
        have D := D1
        refine wpAnyH_ready (rs := [1, 7]) (by kernel_rfl) (by simp) ?_
        refine AllReadyH.cons rfl (fun K' hK' => ?_) (AllReadyH.cons rfl (fun K' hK' => ?_) AllReadyH.nil)
        · obtain ⟨c1, c3⟩ := CV _ D
          go_simp
          refine hK'.out _ _ trivial (fun hs => ?_)
          clear hK' K'
          try simp only [Act.put, List.setIfInBounds_toArray, List.set_cons_zero, List.set_cons_succ]
          refine wpAnyH_ready (rs := [7]) (by kernel_rfl) (by simp) ?_
          refine AllReadyH.cons rfl (fun K' hK' => ?_) AllReadyH.nil
          go_simp
          refine hK'.out _ _ trivial (fun hs => ?_)
          clear hK' K'
          try simp only [Act.put, List.setIfInBounds_toArray, List.set_cons_zero, List.set_cons_succ]
          have D := D.alloc D.size (.cells #[.int .i64 y1] 2)
          refine wpAnyH_ready (rs := [8]) (by kernel_rfl) (by simp) ?_
          refine AllReadyH.cons rfl (fun K' hK' => ?_) AllReadyH.nil
          refine step_app1 rfl _ _ 34 rfl W0.heap.size 2 i0 Tryz.underlying34 hi hz0 hz1 hz2 sv sh.length (sh.map (.int .i64)) rfl (H.below D).s _ 1 y1 rfl (by simp [go_sem]) (by omega) (Nat.le_trans BW D.size) ?_
          intro g' c' w3 hown hgrow hnew
          obtain ⟨E1, V3, F3⟩ := H.show1 hVB D hown hgrow hnew
          have k1 := V3.cell 1
          have k3 := V3.frozen 1
          simp at k1
          refine hK'.out _ _ trivial (fun hs => ?_)
          clear hK' K'
          try simp only [Act.put, List.setIfInBounds_toArray, List.set_cons_zero, List.set_cons_succ]
          refine wpAnyH_ready (rs := [9]) (by kernel_rfl) (by simp) ?_
          refine AllReadyH.cons rfl (fun K' hK' => ?_) AllReadyH.nil
          go_simp
          refine hK'.out _ _ trivial (fun hs => ?_)
          clear hK' K'
          try simp only [Act.put, List.setIfInBounds_toArray, List.set_cons_zero, List.set_cons_succ]
          refine wpAnyH_ready (rs := [10]) (by kernel_rfl) (by simp) ?_
          refine AllReadyH.cons rfl (fun K' hK' => ?_) AllReadyH.nil
          go_simp
          refine hK'.out _ _ trivial (fun hs => ?_)
          clear hK' K'
          try simp only [Act.put, List.setIfInBounds_toArray, List.set_cons_zero, List.set_cons_succ]
          refine wpAnyH_done (by kernel_rfl) (NoPanic.normal ?_) _
          clear hs k1 k3 V3 F3 hown hgrow hnew D D1 hb1
          go_wp2_with fail
          generalize w3.setCell ⟨V, 1, none⟩ (Value.slice (some ⟨g', 0, none⟩) (sh.length + 1) c') = Y at *
          generalize Value.slice (some ⟨g', 0, none⟩) (sh.length + 1) c' = tv1 at *
          have BY : W0.heap.size ≤ Y.heap.size := E1.fr.size
          have CW : ∀ wx : World, Below Y.heap.size Y wx → wx.cell? ⟨V, 2, none⟩ = some ov ∧ V < wx.heap.size := fun wx hb => ⟨((E1.v.below hb E1.v.lt).cell 2).trans rfl, (E1.v.below hb E1.v.lt).lt⟩
          have D : Below Y.heap.size Y Y.drew := (Below.refl _ _).drew
          refine wp_region_noPanic ?_
          refine wp_region_held_drew (S := fun u => True) (by kernel_rfl) trivial (fun hs => ?_)
          refine take_at (i := 0) (d := some 29) (v := ?mv12) rfl rfl (by kernel_rfl) (by kernel_rfl) (by kernel_rfl) (fun _ _ _ h => h) (Or.inl ⟨by rfl, ?my12⟩) hs ?mg12
          case my12 => (intro z hSz; skip; go_simp; (try with_reducible rfl))
          try simp only [Act.put, List.setIfInBounds_toArray, List.set_cons_zero, List.set_cons_succ]
          refine take_at (i := 2) (d := some 31) (v := ?mv13) rfl rfl (by kernel_rfl) (by kernel_rfl) (by kernel_rfl) (fun _ _ _ h => h) (Or.inl ⟨by rfl, ?my13⟩) hs ?mg13
          case my13 => (intro z hSz; skip; go_simp; (try with_reducible rfl))
          try simp only [Act.put, List.setIfInBounds_toArray, List.set_cons_zero, List.set_cons_succ]
          refine take_at (i := 3) (d := some 32) (v := ?mv14) rfl rfl (by kernel_rfl) (by kernel_rfl) (by kernel_rfl) (fun _ _ _ h => h) (Or.inl ⟨by rfl, ?my14⟩) hs ?mg14
          case my14 => (intro z hSz; skip; go_simp; (try with_reducible rfl))
          try simp only [Act.put, List.setIfInBounds_toArray, List.set_cons_zero, List.set_cons_succ]
          refine take_at (i := 4) (d := some 33) (v := ?mv15) rfl rfl (by kernel_rfl) (by kernel_rfl) (by kernel_rfl) (fun _ _ _ h => h) (Or.inl ⟨by rfl, ?my15⟩) hs ?mg15
          case my15 => (intro z hSz; skip; go_simp; (try with_reducible rfl))
          try simp only [Act.put, List.setIfInBounds_toArray, List.set_cons_zero, List.set_cons_succ]
          refine take_at (i := 5) (d := some 34) (v := ?mv16) rfl rfl (by kernel_rfl) (by kernel_rfl) (by kernel_rfl) (fun _ _ _ h => h) (Or.inl ⟨by rfl, ?my16⟩) hs ?mg16
          case my16 => (intro z hSz; skip; go_simp; (try with_reducible rfl))
          try simp only [Act.put, List.setIfInBounds_toArray, List.set_cons_zero, List.set_cons_succ]
          refine take_at (i := 6) (d := some 35) (v := ?mv17) rfl rfl (by kernel_rfl) (by kernel_rfl) (by kernel_rfl) (fun _ _ _ h => h) (Or.inl ⟨by rfl, ?my17⟩) hs ?mg17
          case my17 => (intro z hSz; skip; go_simp; (try with_reducible rfl))
          try simp only [Act.put, List.setIfInBounds_toArray, List.set_cons_zero, List.set_cons_succ]
          refine wpAnyH_ready (rs := [1, 7]) (by kernel_rfl) (by simp) ?_
          refine AllReadyH.cons rfl (fun K' hK' => ?_) (AllReadyH.cons rfl (fun K' hK' => ?_) AllReadyH.nil)
          · obtain ⟨c1, c3⟩ := CW _ D
            go_simp
            refine hK'.out _ _ trivial (fun hs => ?_)
            clear hK' K'
            try simp only [Act.put, List.setIfInBounds_toArray, List.set_cons_zero, List.set_cons_succ]
            refine wpAnyH_ready (rs := [7]) (by kernel_rfl) (by simp) ?_
            refine AllReadyH.cons rfl (fun K' hK' => ?_) AllReadyH.nil
            go_simp
            rw [WD.out]
            refine (SE2'.out _).mono ?_
            rintro _ u1 ⟨rfl, hb1⟩
            have D1 := D.trans (hb1.mono D.size)
            refine hK'.out _ _ trivial (fun hs => ?_)
            clear hK' K'
            try simp only [Act.put, List.setIfInBounds_toArray, List.set_cons_zero, List.set_cons_succ]
            have D := D1
            refine wpAnyH_ready (rs := [8]) (by kernel_rfl) (by simp) ?_
            refine AllReadyH.cons rfl (fun K' hK' => ?_) AllReadyH.nil
            go_simp
            refine (OP2 _).mono ?_
            rintro _ u2 ⟨rfl, hb2⟩
            have D2 := D.trans (hb2.mono D.size)
            refine hK'.out _ _ trivial (fun hs => ?_)
            clear hK' K'
            try simp only [Act.put, List.setIfInBounds_toArray, List.set_cons_zero, List.set_cons_succ]
            have D := D2
            refine wpAnyH_ready (rs := [9]) (by kernel_rfl) (by simp) ?_
            refine AllReadyH.cons rfl (fun K' hK' => ?_) AllReadyH.nil
            go_simp
            refine hK'.out _ _ trivial (fun hs => ?_)
            clear hK' K'
            try simp only [Act.put, List.setIfInBounds_toArray, List.set_cons_zero, List.set_cons_succ]
            have D := D.alloc D.size (.cells #[.int .i64 y2] 2)
            refine wpAnyH_ready (rs := [10]) (by kernel_rfl) (by simp) ?_
            refine AllReadyH.cons rfl (fun K' hK' => ?_) AllReadyH.nil
            refine step_app1 rfl _ _ 34 rfl W0.heap.size 2 i0 Tryz.underlying34 hi hz0 hz1 hz2 ov ot.length (ot.map (.int .i64)) rfl (E1.below D).o _ 1 y2 rfl (by simp [go_sem]) (by omega) (Nat.le_trans BY D.size) ?_
            intro g' c' w3 hown hgrow hnew
            obtain ⟨E2, V3, F3⟩ := E1.other1 hVB D hown hgrow hnew
            have k1 := V3.cell 2
            have k3 := V3.frozen 2
            simp at k1
            refine hK'.out _ _ trivial (fun hs => ?_)
            clear hK' K'
            try simp only [Act.put, List.setIfInBounds_toArray, List.set_cons_zero, List.set_cons_succ]
            refine wpAnyH_ready (rs := [11]) (by kernel_rfl) (by simp) ?_
            refine AllReadyH.cons rfl (fun K' hK' => ?_) AllReadyH.nil
            go_simp
            refine hK'.out _ _ trivial (fun hs => ?_)
            clear hK' K'
            try simp only [Act.put, List.setIfInBounds_toArray, List.set_cons_zero, List.set_cons_succ]
            refine wpAnyH_ready (rs := [12]) (by kernel_rfl) (by simp) ?_
            refine AllReadyH.cons rfl (fun K' hK' => ?_) AllReadyH.nil
            go_simp
            refine hK'.out _ _ trivial (fun hs => ?_)
            clear hK' K'
            try simp only [Act.put, List.setIfInBounds_toArray, List.set_cons_zero, List.set_cons_succ]
            refine wpAnyH_done (by kernel_rfl) (NoPanic.normal ?_) _
            rw [← HSS'.out, ← HSO'.out] at E2
            clear hs k1 k3 V3 F3 hown hgrow hnew D E1
            go_wp2
            go_roundw
            case rel => exact ⟨n + 1, _, _, by omega, by go_num, E2⟩
            case measure => simp [intOf]; omega
          · go_simp
            rw [WD.out]
            refine (SE2'.out _).mono ?_
            rintro _ u1 ⟨rfl, hb1⟩
            have D1 := D.trans (hb1.mono D.size)
            refine hK'.out _ _ trivial (fun hs => ?_)
            clear hK' K'
            try simp only [Act.put, List.setIfInBounds_toArray, List.set_cons_zero, List.set_cons_succ]
            have D := D1
            refine wpAnyH_ready (rs := [1, 8]) (by kernel_rfl) (by simp) ?_
            refine AllReadyH.cons rfl (fun K' hK' => ?_) (AllReadyH.cons rfl (fun K' hK' => ?_) AllReadyH.nil)
            · obtain ⟨c1, c3⟩ := CW _ D
              go_simp
              refine hK'.out _ _ trivial (fun hs => ?_)
              clear hK' K'
              try simp only [Act.put, List.setIfInBounds_toArray, List.set_cons_zero, List.set_cons_succ]
              refine wpAnyH_ready (rs := [8]) (by kernel_rfl) (by simp) ?_
              refine AllReadyH.cons rfl (fun K' hK' => ?_) AllReadyH.nil
              go_simp
              refine (OP2 _).mono ?_
              rintro _ u2 ⟨rfl, hb2⟩
              have D2 := D.trans (hb2.mono D.size)
              refine hK'.out _ _ trivial (fun hs => ?_)
              clear hK' K'
              try simp only [Act.put, List.setIfInBounds_toArray, List.set_cons_zero, List.set_cons_succ]
              have D := D2
              refine wpAnyH_ready (rs := [9]) (by kernel_rfl) (by simp) ?_
              refine AllReadyH.cons rfl (fun K' hK' => ?_) AllReadyH.nil
              go_simp
              refine hK'.out _ _ trivial (fun hs => ?_)
              clear hK' K'
              try simp only [Act.put, List.setIfInBounds_toArray, List.set_cons_zero, List.set_cons_succ]
              have D := D.alloc D.size (.cells #[.int .i64 y2] 2)
              refine wpAnyH_ready (rs := [10]) (by kernel_rfl) (by simp) ?_
              refine AllReadyH.cons rfl (fun K' hK' => ?_) AllReadyH.nil
              refine step_app1 rfl _ _ 34 rfl W0.heap.size 2 i0 Tryz.underlying34 hi hz0 hz1 hz2 ov ot.length (ot.map (.int .i64)) rfl (E1.below D).o _ 1 y2 rfl (by simp [go_sem]) (by omega) (Nat.le_trans BY D.size) ?_
              intro g' c' w3 hown hgrow hnew
              obtain ⟨E2, V3, F3⟩ := E1.other1 hVB D hown hgrow hnew
              have k1 := V3.cell 2
              have k3 := V3.frozen 2
              simp at k1
              refine hK'.out _ _ trivial (fun hs => ?_)
              clear hK' K'
              try simp only [Act.put, List.setIfInBounds_toArray, List.set_cons_zero, List.set_cons_succ]
              refine wpAnyH_ready (rs := [11]) (by kernel_rfl) (by simp) ?_
              refine AllReadyH.cons rfl (fun K' hK' => ?_) AllReadyH.nil
              go_simp
              refine hK'.out _ _ trivial (fun hs => ?_)
              clear hK' K'
              try simp only [Act.put, List.setIfInBounds_toArray, List.set_cons_zero, List.set_cons_succ]
              refine wpAnyH_ready (rs := [12]) (by kernel_rfl) (by simp) ?_
              refine AllReadyH.cons rfl (fun K' hK' => ?_) AllReadyH.nil
              go_simp
              refine hK'.out _ _ trivial (fun hs => ?_)
              clear hK' K'
              try simp only [Act.put, List.setIfInBounds_toArray, List.set_cons_zero, List.set_cons_succ]
              refine wpAnyH_done (by kernel_rfl) (NoPanic.normal ?_) _
              rw [← HSS'.out, ← HSO'.out] at E2
              clear hs k1 k3 V3 F3 hown hgrow hnew D E1
              go_wp2
              go_roundw
              case rel => exact ⟨n + 1, _, _, by omega, by go_num, E2⟩
              case measure => simp [intOf]; omega
            · go_simp
              refine (OP2 _).mono ?_
              rintro _ u2 ⟨rfl, hb2⟩
              have D2 := D.trans (hb2.mono D.size)
              refine hK'.out _ _ trivial (fun hs => ?_)
              clear hK' K'
              try simp only [Act.put, List.setIfInBounds_toArray, List.set_cons_zero, List.set_cons_succ]
              have D := D2
              refine wpAnyH_ready (rs := [1, 9]) (by kernel_rfl) (by simp) ?_
              refine AllReadyH.cons rfl (fun K' hK' => ?_) (AllReadyH.cons rfl (fun K' hK' => ?_) AllReadyH.nil)
              · obtain ⟨c1, c3⟩ := CW _ D
                go_simp
                refine hK'.out _ _ trivial (fun hs => ?_)
                clear hK' K'
                try simp only [Act.put, List.setIfInBounds_toArray, List.set_cons_zero, List.set_cons_succ]
                refine wpAnyH_ready (rs := [9]) (by kernel_rfl) (by simp) ?_
                refine AllReadyH.cons rfl (fun K' hK' => ?_) AllReadyH.nil
                go_simp
                refine hK'.out _ _ trivial (fun hs => ?_)
                clear hK' K'
                try simp only [Act.put, List.setIfInBounds_toArray, List.set_cons_zero, List.set_cons_succ]
                have D := D.alloc D.size (.cells #[.int .i64 y2] 2)
                refine wpAnyH_ready (rs := [10]) (by kernel_rfl) (by simp) ?_
                refine AllReadyH.cons rfl (fun K' hK' => ?_) AllReadyH.nil
                refine step_app1 rfl _ _ 34 rfl W0.heap.size 2 i0 Tryz.underlying34 hi hz0 hz1 hz2 ov ot.length (ot.map (.int .i64)) rfl (E1.below D).o _ 1 y2 rfl (by simp [go_sem]) (by omega) (Nat.le_trans BY D.size) ?_
                intro g' c' w3 hown hgrow hnew
                obtain ⟨E2, V3, F3⟩ := E1.other1 hVB D hown hgrow hnew
                have k1 := V3.cell 2
                have k3 := V3.frozen 2
                simp at k1
                refine hK'.out _ _ trivial (fun hs => ?_)
                clear hK' K'
                try simp only [Act.put, List.setIfInBounds_toArray, List.set_cons_zero, List.set_cons_succ]
                refine wpAnyH_ready (rs := [11]) (by kernel_rfl) (by simp) ?_
                refine AllReadyH.cons rfl (fun K' hK' => ?_) AllReadyH.nil
                go_simp
                refine hK'.out _ _ trivial (fun hs => ?_)
                clear hK' K'
                try simp only [Act.put, List.setIfInBounds_toArray, List.set_cons_zero, List.set_cons_succ]
                refine wpAnyH_ready (rs := [12]) (by kernel_rfl) (by simp) ?_
                refine AllReadyH.cons rfl (fun K' hK' => ?_) AllReadyH.nil
                go_simp
                refine hK'.out _ _ trivial (fun hs => ?_)
                clear hK' K'
                try simp only [Act.put, List.setIfInBounds_toArray, List.set_cons_zero, List.set_cons_succ]
                refine wpAnyH_done (by kernel_rfl) (NoPanic.normal ?_) _
                rw [← HSS'.out, ← HSO'.out] at E2
                clear hs k1 k3 V3 F3 hown hgrow hnew D E1
                go_wp2
                go_roundw
                case rel => exact ⟨n + 1, _, _, by omega, by go_num, E2⟩
                case measure => simp [intOf]; omega
              · go_simp
                refine hK'.out _ _ trivial (fun hs => ?_)
                clear hK' K'
                try simp only [Act.put, List.setIfInBounds_toArray, List.set_cons_zero, List.set_cons_succ]
                have D := D.alloc D.size (.cells #[.int .i64 y2] 2)
                refine wpAnyH_ready (rs := [1]) (by kernel_rfl) (by simp) ?_
                refine AllReadyH.cons rfl (fun K' hK' => ?_) AllReadyH.nil
                obtain ⟨c1, c3⟩ := CW _ D
                go_simp
                refine hK'.out _ _ trivial (fun hs => ?_)
                clear hK' K'
                try simp only [Act.put, List.setIfInBounds_toArray, List.set_cons_zero, List.set_cons_succ]
                refine wpAnyH_ready (rs := [10]) (by kernel_rfl) (by simp) ?_
                refine AllReadyH.cons rfl (fun K' hK' => ?_) AllReadyH.nil
                refine step_app1 rfl _ _ 34 rfl W0.heap.size 2 i0 Tryz.underlying34 hi hz0 hz1 hz2 ov ot.length (ot.map (.int .i64)) rfl (E1.below D).o _ 1 y2 rfl (by simp [go_sem]) (by omega) (Nat.le_trans BY D.size) ?_
                intro g' c' w3 hown hgrow hnew
                obtain ⟨E2, V3, F3⟩ := E1.other1 hVB D hown hgrow hnew
                have k1 := V3.cell 2
                have k3 := V3.frozen 2
                simp at k1
                refine hK'.out _ _ trivial (fun hs => ?_)
                clear hK' K'
                try simp only [Act.put, List.setIfInBounds_toArray, List.set_cons_zero, List.set_cons_succ]
                refine wpAnyH_ready (rs := [11]) (by kernel_rfl) (by simp) ?_
                refine AllReadyH.cons rfl (fun K' hK' => ?_) AllReadyH.nil
                go_simp
                refine hK'.out _ _ trivial (fun hs => ?_)
                clear hK' K'
                try simp only [Act.put, List.setIfInBounds_toArray, List.set_cons_zero, List.set_cons_succ]
                refine wpAnyH_ready (rs := [12]) (by kernel_rfl) (by simp) ?_
                refine AllReadyH.cons rfl (fun K' hK' => ?_) AllReadyH.nil
                go_simp
                refine hK'.out _ _ trivial (fun hs => ?_)
                clear hK' K'
                try simp only [Act.put, List.setIfInBounds_toArray, List.set_cons_zero, List.set_cons_succ]
                refine wpAnyH_done (by kernel_rfl) (NoPanic.normal ?_) _
                rw [← HSS'.out, ← HSO'.out] at E2
                clear hs k1 k3 V3 F3 hown hgrow hnew D E1
                go_wp2
                go_roundw
                case rel => exact ⟨n + 1, _, _, by omega, by go_num, E2⟩
                case measure => simp [intOf]; omega
        · go_simp
          refine hK'.out _ _ trivial (fun hs => ?_)
          clear hK' K'
          try simp only [Act.put, List.setIfInBounds_toArray, List.set_cons_zero, List.set_cons_succ]
          have D := D.alloc D.size (.cells #[.int .i64 y1] 2)
          refine wpAnyH_ready (rs := [1]) (by kernel_rfl) (by simp) ?_
          refine AllReadyH.cons rfl (fun K' hK' => ?_) AllReadyH.nil
          obtain ⟨c1, c3⟩ := CV _ D
          go_simp
          refine hK'.out _ _ trivial (fun hs => ?_)
          clear hK' K'
          try simp only [Act.put, List.setIfInBounds_toArray, List.set_cons_zero, List.set_cons_succ]
          refine wpAnyH_ready (rs := [8]) (by kernel_rfl) (by simp) ?_
          refine AllReadyH.cons rfl (fun K' hK' => ?_) AllReadyH.nil
          refine step_app1 rfl _ _ 34 rfl W0.heap.size 2 i0 Tryz.underlying34 hi hz0 hz1 hz2 sv sh.length (sh.map (.int .i64)) rfl (H.below D).s _ 1 y1 rfl (by simp [go_sem]) (by omega) (Nat.le_trans BW D.size) ?_
          intro g' c' w3 hown hgrow hnew
          obtain ⟨E1, V3, F3⟩ := H.show1 hVB D hown hgrow hnew
          have k1 := V3.cell 1
          have k3 := V3.frozen 1
          simp at k1
          refine hK'.out _ _ trivial (fun hs => ?_)
          clear hK' K'
          try simp only [Act.put, List.setIfInBounds_toArray, List.set_cons_zero, List.set_cons_succ]
          refine wpAnyH_ready (rs := [9]) (by kernel_rfl) (by simp) ?_
          refine AllReadyH.cons rfl (fun K' hK' => ?_) AllReadyH.nil
          go_simp
          refine hK'.out _ _ trivial (fun hs => ?_)
          clear hK' K'
          try simp only [Act.put, List.setIfInBounds_toArray, List.set_cons_zero, List.set_cons_succ]
          refine wpAnyH_ready (rs := [10]) (by kernel_rfl) (by simp) ?_
          refine AllReadyH.cons rfl (fun K' hK' => ?_) AllReadyH.nil
          go_simp
          refine hK'.out _ _ trivial (fun hs => ?_)
          clear hK' K'
          try simp only [Act.put, List.setIfInBounds_toArray, List.set_cons_zero, List.set_cons_succ]
          refine wpAnyH_done (by kernel_rfl) (NoPanic.normal ?_) _
          clear hs k1 k3 V3 F3 hown hgrow hnew D D1 hb1
          go_wp2_with fail
          generalize w3.setCell ⟨V, 1, none⟩ (Value.slice (some ⟨g', 0, none⟩) (sh.length + 1) c') = Y at *
          generalize Value.slice (some ⟨g', 0, none⟩) (sh.length + 1) c' = tv1 at *
          have BY : W0.heap.size ≤ Y.heap.size := E1.fr.size
          have CW : ∀ wx : World, Below Y.heap.size Y wx → wx.cell? ⟨V, 2, none⟩ = some ov ∧ V < wx.heap.size := fun wx hb => ⟨((E1.v.below hb E1.v.lt).cell 2).trans rfl, (E1.v.below hb E1.v.lt).lt⟩
          have D : Below Y.heap.size Y Y.drew := (Below.refl _ _).drew
          refine wp_region_noPanic ?_
          refine wp_region_held_drew (S := fun u => True) (by kernel_rfl) trivial (fun hs => ?_)
          refine take_at (i := 0) (d := some 29) (v := ?mv18) rfl rfl (by kernel_rfl) (by kernel_rfl) (by kernel_rfl) (fun _ _ _ h => h) (Or.inl ⟨by rfl, ?my18⟩) hs ?mg18
          case my18 => (intro z hSz; skip; go_simp; (try with_reducible rfl))
          try simp only [Act.put, List.setIfInBounds_toArray, List.set_cons_zero, List.set_cons_succ]
          refine take_at (i := 2) (d := some 31) (v := ?mv19) rfl rfl (by kernel_rfl) (by kernel_rfl) (by kernel_rfl) (fun _ _ _ h => h) (Or.inl ⟨by rfl, ?my19⟩) hs ?mg19
          case my19 => (intro z hSz; skip; go_simp; (try with_reducible rfl))
          try simp only [Act.put, List.setIfInBounds_toArray, List.set_cons_zero, List.set_cons_succ]
          refine take_at (i := 3) (d := some 32) (v := ?mv20) rfl rfl (by kernel_rfl) (by kernel_rfl) (by kernel_rfl) (fun _ _ _ h => h) (Or.inl ⟨by rfl, ?my20⟩) hs ?mg20
          case my20 => (intro z hSz; skip; go_simp; (try with_reducible rfl))
          try simp only [Act.put, List.setIfInBounds_toArray, List.set_cons_zero, List.set_cons_succ]
          refine take_at (i := 4) (d := some 33) (v := ?mv21) rfl rfl (by kernel_rfl) (by kernel_rfl) (by kernel_rfl) (fun _ _ _ h => h) (Or.inl ⟨by rfl, ?my21⟩) hs ?mg21
          case my21 => (intro z hSz; skip; go_simp; (try with_reducible rfl))
          try simp only [Act.put, List.setIfInBounds_toArray, List.set_cons_zero, List.set_cons_succ]
          refine take_at (i := 5) (d := some 34) (v := ?mv22) rfl rfl (by kernel_rfl) (by kernel_rfl) (by kernel_rfl) (fun _ _ _ h => h) (Or.inl ⟨by rfl, ?my22⟩) hs ?mg22
          case my22 => (intro z hSz; skip; go_simp; (try with_reducible rfl))
          try simp only [Act.put, List.setIfInBounds_toArray, List.set_cons_zero, List.set_cons_succ]
          refine take_at (i := 6) (d := some 35) (v := ?mv23) rfl rfl (by kernel_rfl) (by kernel_rfl) (by kernel_rfl) (fun _ _ _ h => h) (Or.inl ⟨by rfl, ?my23⟩) hs ?mg23
          case my23 => (intro z hSz; skip; go_simp; (try with_reducible rfl))
          try simp only [Act.put, List.setIfInBounds_toArray, List.set_cons_zero, List.set_cons_succ]
          refine wpAnyH_ready (rs := [1, 7]) (by kernel_rfl) (by simp) ?_
          refine AllReadyH.cons rfl (fun K' hK' => ?_) (AllReadyH.cons rfl (fun K' hK' => ?_) AllReadyH.nil)
          · obtain ⟨c1, c3⟩ := CW _ D
            go_simp
            refine hK'.out _ _ trivial (fun hs => ?_)
            clear hK' K'
            try simp only [Act.put, List.setIfInBounds_toArray, List.set_cons_zero, List.set_cons_succ]
            refine wpAnyH_ready (rs := [7]) (by kernel_rfl) (by simp) ?_
            refine AllReadyH.cons rfl (fun K' hK' => ?_) AllReadyH.nil
            go_simp
            rw [WD.out]
            refine (SE2'.out _).mono ?_
            rintro _ u1 ⟨rfl, hb1⟩
            have D1 := D.trans (hb1.mono D.size)
            refine hK'.out _ _ trivial (fun hs => ?_)
            clear hK' K'
            try simp only [Act.put, List.setIfInBounds_toArray, List.set_cons_zero, List.set_cons_succ]
            have D := D1
            refine wpAnyH_ready (rs := [8]) (by kernel_rfl) (by simp) ?_
            refine AllReadyH.cons rfl (fun K' hK' => ?_) AllReadyH.nil
            go_simp
            refine (OP2 _).mono ?_
            rintro _ u2 ⟨rfl, hb2⟩
            have D2 := D.trans (hb2.mono D.size)
            refine hK'.out _ _ trivial (fun hs => ?_)
            clear hK' K'
            try simp only [Act.put, List.setIfInBounds_toArray, List.set_cons_zero, List.set_cons_succ]
            have D := D2
            refine wpAnyH_ready (rs := [9]) (by kernel_rfl) (by simp) ?_
            refine AllReadyH.cons rfl (fun K' hK' => ?_) AllReadyH.nil
            go_simp
            refine hK'.out _ _ trivial (fun hs => ?_)
            clear hK' K'
            try simp only [Act.put, List.setIfInBounds_toArray, List.set_cons_zero, List.set_cons_succ]
            have D := D.alloc D.size (.cells #[.int .i64 y2] 2)
            refine wpAnyH_ready (rs := [10]) (by kernel_rfl) (by simp) ?_
            refine AllReadyH.cons rfl (fun K' hK' => ?_) AllReadyH.nil
            refine step_app1 rfl _ _ 34 rfl W0.heap.size 2 i0 Tryz.underlying34 hi hz0 hz1 hz2 ov ot.length (ot.map (.int .i64)) rfl (E1.below D).o _ 1 y2 rfl (by simp [go_sem]) (by omega) (Nat.le_trans BY D.size) ?_
            intro g' c' w3 hown hgrow hnew
            obtain ⟨E2, V3, F3⟩ := E1.other1 hVB D hown hgrow hnew
            have k1 := V3.cell 2
            have k3 := V3.frozen 2
            simp at k1
            refine hK'.out _ _ trivial (fun hs => ?_)
            clear hK' K'
            try simp only [Act.put, List.setIfInBounds_toArray, List.set_cons_zero, List.set_cons_succ]
            refine wpAnyH_ready (rs := [11]) (by kernel_rfl) (by simp) ?_
            refine AllReadyH.cons rfl (fun K' hK' => ?_) AllReadyH.nil
            go_simp
            refine hK'.out _ _ trivial (fun hs => ?_)
            clear hK' K'
            try simp only [Act.put, List.setIfInBounds_toArray, List.set_cons_zero, List.set_cons_succ]
            refine wpAnyH_ready (rs := [12]) (by kernel_rfl) (by simp) ?_
            refine AllReadyH.cons rfl (fun K' hK' => ?_) AllReadyH.nil
            go_simp
            refine hK'.out _ _ trivial (fun hs => ?_)
            clear hK' K'
            try simp only [Act.put, List.setIfInBounds_toArray, List.set_cons_zero, List.set_cons_succ]
            refine wpAnyH_done (by kernel_rfl) (NoPanic.normal ?_) _
            rw [← HSS'.out, ← HSO'.out] at E2
            clear hs k1 k3 V3 F3 hown hgrow hnew D E1
            go_wp2
            go_roundw
            case rel => exact ⟨n + 1, _, _, by omega, by go_num, E2⟩
            case measure => simp [intOf]; omega
          · go_simp
            rw [WD.out]
            refine (SE2'.out _).mono ?_
            rintro _ u1 ⟨rfl, hb1⟩
            have D1 := D.trans (hb1.mono D.size)
            refine hK'.out _ _ trivial (fun hs => ?_)
            clear hK' K'
            try simp only [Act.put, List.setIfInBounds_toArray, List.set_cons_zero, List.set_cons_succ]
            have D := D1
            refine wpAnyH_ready (rs := [1, 8]) (by kernel_rfl) (by simp) ?_
            refine AllReadyH.cons rfl (fun K' hK' => ?_) (AllReadyH.cons rfl (fun K' hK' => ?_) AllReadyH.nil)
            · obtain ⟨c1, c3⟩ := CW _ D
              go_simp
              refine hK'.out _ _ trivial (fun hs => ?_)
              clear hK' K'
              try simp only [Act.put, List.setIfInBounds_toArray, List.set_cons_zero, List.set_cons_succ]
              refine wpAnyH_ready (rs := [8]) (by kernel_rfl) (by simp) ?_
              refine AllReadyH.cons rfl (fun K' hK' => ?_) AllReadyH.nil
              go_simp
              refine (OP2 _).mono ?_
              rintro _ u2 ⟨rfl, hb2⟩
              have D2 := D.trans (hb2.mono D.size)
              refine hK'.out _ _ trivial (fun hs => ?_)
              clear hK' K'
              try simp only [Act.put, List.setIfInBounds_toArray, List.set_cons_zero, List.set_cons_succ]
              have D := D2
              refine wpAnyH_ready (rs := [9]) (by kernel_rfl) (by simp) ?_
              refine AllReadyH.cons rfl (fun K' hK' => ?_) AllReadyH.nil
              go_simp
              refine hK'.out _ _ trivial (fun hs => ?_)
              clear hK' K'
              try simp only [Act.put, List.setIfInBounds_toArray, List.set_cons_zero, List.set_cons_succ]
              have D := D.alloc D.size (.cells #[.int .i64 y2] 2)
              refine wpAnyH_ready (rs := [10]) (by kernel_rfl) (by simp) ?_
              refine AllReadyH.cons rfl (fun K' hK' => ?_) AllReadyH.nil
              refine step_app1 rfl _ _ 34 rfl W0.heap.size 2 i0 Tryz.underlying34 hi hz0 hz1 hz2 ov ot.length (ot.map (.int .i64)) rfl (E1.below D).o _ 1 y2 rfl (by simp [go_sem]) (by omega) (Nat.le_trans BY D.size) ?_
              intro g' c' w3 hown hgrow hnew
              obtain ⟨E2, V3, F3⟩ := E1.other1 hVB D hown hgrow hnew
              have k1 := V3.cell 2
              have k3 := V3.frozen 2
              simp at k1
              refine hK'.out _ _ trivial (fun hs => ?_)
              clear hK' K'
              try simp only [Act.put, List.setIfInBounds_toArray, List.set_cons_zero, List.set_cons_succ]
              refine wpAnyH_ready (rs := [11]) (by kernel_rfl) (by simp) ?_
              refine AllReadyH.cons rfl (fun K' hK' => ?_) AllReadyH.nil
              go_simp
              refine hK'.out _ _ trivial (fun hs => ?_)
              clear hK' K'
              try simp only [Act.put, List.setIfInBounds_toArray, List.set_cons_zero, List.set_cons_succ]
              refine wpAnyH_ready (rs := [12]) (by kernel_rfl) (by simp) ?_
              refine AllReadyH.cons rfl (fun K' hK' => ?_) AllReadyH.nil
              go_simp
              refine hK'.out _ _ trivial (fun hs => ?_)
              clear hK' K'
              try simp only [Act.put, List.setIfInBounds_toArray, List.set_cons_zero, List.set_cons_succ]
              refine wpAnyH_done (by kernel_rfl) (NoPanic.normal ?_) _
              rw [← HSS'.out, ← HSO'.out] at E2
              clear hs k1 k3 V3 F3 hown hgrow hnew D E1
              go_wp2
              go_roundw
              case rel => exact ⟨n + 1, _, _, by omega, by go_num, E2⟩
              case measure => simp [intOf]; omega
            · go_simp
              refine (OP2 _).mono ?_
              rintro _ u2 ⟨rfl, hb2⟩
              have D2 := D.trans (hb2.mono D.size)
              refine hK'.out _ _ trivial (fun hs => ?_)
              clear hK' K'
              try simp only [Act.put, List.setIfInBounds_toArray, List.set_cons_zero, List.set_cons_succ]
              have D := D2
              refine wpAnyH_ready (rs := [1, 9]) (by kernel_rfl) (by simp) ?_
              refine AllReadyH.cons rfl (fun K' hK' => ?_) (AllReadyH.cons rfl (fun K' hK' => ?_) AllReadyH.nil)
              · obtain ⟨c1, c3⟩ := CW _ D
                go_simp
                refine hK'.out _ _ trivial (fun hs => ?_)
                clear hK' K'
                try simp only [Act.put, List.setIfInBounds_toArray, List.set_cons_zero, List.set_cons_succ]
                refine wpAnyH_ready (rs := [9]) (by kernel_rfl) (by simp) ?_
                refine AllReadyH.cons rfl (fun K' hK' => ?_) AllReadyH.nil
                go_simp
                refine hK'.out _ _ trivial (fun hs => ?_)
                clear hK' K'
                try simp only [Act.put, List.setIfInBounds_toArray, List.set_cons_zero, List.set_cons_succ]
                have D := D.alloc D.size (.cells #[.int .i64 y2] 2)
                refine wpAnyH_ready (rs := [10]) (by kernel_rfl) (by simp) ?_
                refine AllReadyH.cons rfl (fun K' hK' => ?_) AllReadyH.nil
                refine step_app1 rfl _ _ 34 rfl W0.heap.size 2 i0 Tryz.underlying34 hi hz0 hz1 hz2 ov ot.length (ot.map (.int .i64)) rfl (E1.below D).o _ 1 y2 rfl (by simp [go_sem]) (by omega) (Nat.le_trans BY D.size) ?_
                intro g' c' w3 hown hgrow hnew
                obtain ⟨E2, V3, F3⟩ := E1.other1 hVB D hown hgrow hnew
                have k1 := V3.cell 2
                have k3 := V3.frozen 2
                simp at k1
                refine hK'.out _ _ trivial (fun hs => ?_)
                clear hK' K'
                try simp only [Act.put, List.setIfInBounds_toArray, List.set_cons_zero, List.set_cons_succ]
                refine wpAnyH_ready (rs := [11]) (by kernel_rfl) (by simp) ?_
                refine AllReadyH.cons rfl (fun K' hK' => ?_) AllReadyH.nil
                go_simp
                refine hK'.out _ _ trivial (fun hs => ?_)
                clear hK' K'
                try simp only [Act.put, List.setIfInBounds_toArray, List.set_cons_zero, List.set_cons_succ]
                refine wpAnyH_ready (rs := [12]) (by kernel_rfl) (by simp) ?_
                refine AllReadyH.cons rfl (fun K' hK' => ?_) AllReadyH.nil
                go_simp
                refine hK'.out _ _ trivial (fun hs => ?_)
                clear hK' K'
                try simp only [Act.put, List.setIfInBounds_toArray, List.set_cons_zero, List.set_cons_succ]
                refine wpAnyH_done (by kernel_rfl) (NoPanic.normal ?_) _
                rw [← HSS'.out, ← HSO'.out] at E2
                clear hs k1 k3 V3 F3 hown hgrow hnew D E1
                go_wp2
                go_roundw
                case rel => exact ⟨n + 1, _, _, by omega, by go_num, E2⟩
                case measure => simp [intOf]; omega
              · go_simp
                refine hK'.out _ _ trivial (fun hs => ?_)
                clear hK' K'
                try simp only [Act.put, List.setIfInBounds_toArray, List.set_cons_zero, List.set_cons_succ]
                have D := D.alloc D.size (.cells #[.int .i64 y2] 2)
                refine wpAnyH_ready (rs := [1]) (by kernel_rfl) (by simp) ?_
                refine AllReadyH.cons rfl (fun K' hK' => ?_) AllReadyH.nil
                obtain ⟨c1, c3⟩ := CW _ D
                go_simp
                refine hK'.out _ _ trivial (fun hs => ?_)
                clear hK' K'
                try simp only [Act.put, List.setIfInBounds_toArray, List.set_cons_zero, List.set_cons_succ]
                refine wpAnyH_ready (rs := [10]) (by kernel_rfl) (by simp) ?_
                refine AllReadyH.cons rfl (fun K' hK' => ?_) AllReadyH.nil
                refine step_app1 rfl _ _ 34 rfl W0.heap.size 2 i0 Tryz.underlying34 hi hz0 hz1 hz2 ov ot.length (ot.map (.int .i64)) rfl (E1.below D).o _ 1 y2 rfl (by simp [go_sem]) (by omega) (Nat.le_trans BY D.size) ?_
                intro g' c' w3 hown hgrow hnew
                obtain ⟨E2, V3, F3⟩ := E1.other1 hVB D hown hgrow hnew
                have k1 := V3.cell 2
                have k3 := V3.frozen 2
                simp at k1
                refine hK'.out _ _ trivial (fun hs => ?_)
                clear hK' K'
                try simp only [Act.put, List.setIfInBounds_toArray, List.set_cons_zero, List.set_cons_succ]
                refine wpAnyH_ready (rs := [11]) (by kernel_rfl) (by simp) ?_
                refine AllReadyH.cons rfl (fun K' hK' => ?_) AllReadyH.nil
                go_simp
                refine hK'.out _ _ trivial (fun hs => ?_)
                clear hK' K'
                try simp only [Act.put, List.setIfInBounds_toArray, List.set_cons_zero, List.set_cons_succ]
                refine wpAnyH_ready (rs := [12]) (by kernel_rfl) (by simp) ?_
                refine AllReadyH.cons rfl (fun K' hK' => ?_) AllReadyH.nil
                go_simp
                refine hK'.out _ _ trivial (fun hs => ?_)
                clear hK' K'
                try simp only [Act.put, List.setIfInBounds_toArray, List.set_cons_zero, List.set_cons_succ]
                refine wpAnyH_done (by kernel_rfl) (NoPanic.normal ?_) _
                rw [← HSS'.out, ← HSO'.out] at E2
                clear hs k1 k3 V3 F3 hown hgrow hnew D E1
                go_wp2
                go_roundw
                case rel => exact ⟨n + 1, _, _, by omega, by go_num, E2⟩
                case measure => simp [intOf]; omega
    · obtain rfl : n = 16 := by omega
      clear hlt
      obtain ⟨a1, c1, rfl⟩ := own_row_shape H.s
      obtain ⟨a2, c2, rfl⟩ := own_row_shape H.o
      obtain ⟨sh, hsh⟩ : ∃ z, shW s i x (List.range 16) = z := ⟨_, rfl⟩
      obtain ⟨ot, hot⟩ : ∃ z, otW s i x (List.range 16) = z := ⟨_, rfl⟩
      rw [hsh, hot] at H
      have ES : Hid (shW s i x (List.range 16) = sh) := hsh
      have EO : Hid (otW s i x (List.range 16) = ot) := hot
      clear hsh hot
      have HH : Hid (SgS V W0 i sh ot wr (.slice a1 sh.length c1) (.slice a2 ot.length c2)) := H
      have r0 := R0.fr H.fr (show ¬ w.heap.size = V by have := WV.out; omega)
      have q0 := r0.cell 0
      have q1 := r0.cell 1
      have q2 := r0.cell 2
      have f0 := r0.frozen 0
      have f1 := r0.frozen 1
      have f2 := r0.frozen 2
      have v0 := H.v.cell 0
      have v1 := H.v.cell 1
      have v2 := H.v.cell 2
      simp at q0 q1 q2 v0 v1 v2
      have B1 : Below w.heap.size w wr := B0.trans (H.fr.below (fun k e => by have := WV.out; omega) B0.size)
      clear r0 H SS SO LS
      go_wp2
      refine bodyPost_ret (v := .agg #[.int .i64 i, .slice a1 sh.length c1, .slice a2 ot.length c2]) (by simp [results, Tryz.results68, go_sem, q0, q1, q2]) rfl ⟨a1, c1, a2, c2, by rw [ES.out, EO.out], ?_, ?_, ?_, ?_⟩
      · rw [ES.out]
        exact own_mono (own_set (own_set (own_set HH.out.s (by omega) _) (by omega) _) (by omega) _) (by omega)
      · rw [EO.out]
        exact own_mono (own_set (own_set (own_set HH.out.o (by omega) _) (by omega) _) (by omega) _) (by omega)
      · intro y z e1 e2 e3
        subst e1 e2
        exact HH.out.apart y.block rfl (by rw [e3]; rfl)
      · exact ((B1.setCell (Nat.le_refl _) _).setCell (Nat.le_refl _) _).setCell (Nat.le_refl _) _

end Go.Proofs.YtffidkoejlebeaaGreatDoor
