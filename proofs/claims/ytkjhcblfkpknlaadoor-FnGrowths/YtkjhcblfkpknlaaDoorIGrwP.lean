/- Contracts: the program's growth of a log's first leaves, part by part; its GrowthOf. -/
import Derived.Test.YtkjhcblfkpknlaaDoorIGrw
import Derived.Test.YtkjhcblfkpknlaaDoorIRootP
import Derived.Test.YtkjhcblfkpknlaaDoorGrow5R
import Derived.Test.YtkjhcblfkpknlaaDoorSource
namespace Go.Proofs.YtkjhcblfkpknlaaDoor
open Go.ChangeShapes Go.WideShapes Go.ChangeAt Go.RowKit
set_option linter.unusedVariables false
set_option linter.unusedSimpArgs false

theorem lvF_of {zs : List Int} (h : zs.length ≤ 24) (ha : allS zs = true) : lvF zs = 0 := by
  unfold lvF; rw [if_neg (by omega), if_pos ha]

set_option maxHeartbeats 2000000 in
theorem sides_lo (s : Int) (wh : Bool) (b o n c m : Nat) (w : World) (h2 : 2 ≤ n) (h24 : n ≤ 24) (hm : splN n = m) (hs : s ≤ m) (hc : n ≤ c) (hcm : c ≤ maxLen) :
    Calls Tryd.prog 105 #[.agg #[.int .i64 (s), .int .i64 (n), .bool wh], .slice (some ⟨b, o, none⟩) n c] w fun r w' => r = .returned (.tuple #[.slice (some ⟨b, o, none⟩) m c, .slice (some ⟨b, o + m, none⟩) (n - m) (c - m)]) ∧ Below w.heap.size w w' := by
  unfold maxLen at hcm
  have hd : decide (s ≤ splN n) = true := by rw [hm]; simpa using hs
  obtain ⟨q1, q2, q3⟩ := splN_bd (n := n) (by omega) (by omega)
  have m1 : (1 : Int) ≤ m := by omega
  have m2 : (m : Int) < n := by omega
  have m3 : (n : Int) ≤ c := by omega
  have m4 : ¬ (c : Int) = m := by omega
  have m5 : (0 : Int) ≤ m := by omega
  have m8 : ¬ c = m := by omega
  have m6 : (m : Int) ≤ c := by omega
  have m7 : (m : Int) ≤ n := by omega
  clear q1 q2 q3 hs
  go_enter Tryd.func105, Tryd.ntmps105
  go_wp2_with fail
  refine (gSplit_any s n wh _ (by omega) (by omega)).mono ?_
  rintro r u1 ⟨rfl, hb1⟩
  have E1 := (GrAt.new w s n wh 84).below hb1
  have B1 : Below w.heap.size w u1 := ((Below.refl _ _).alloc (Nat.le_refl _) _).trans (hb1.mono (by simp))
  obtain ⟨k0, k1, k2, k3⟩ := E1
  rw [hm]
  go_wp2_with fail
  refine (inFirst_any s n wh _ (by omega) (by omega)).mono ?_
  rintro r u2 ⟨rfl, hb2⟩
  have B2 : Below w.heap.size w u2 := B1.trans (hb2.mono B1.size)
  rw [hd]
  go_wp2_with fail
  go_quiet (fail)
  go_wp2
  exact bodyPost_ret (v := .tuple #[.slice (some ⟨b, o, none⟩) m c, .slice (some ⟨b, o + m, none⟩) (n - m) (c - m)]) (by simp [results, Tryd.results105, go_sem]) rfl ⟨rfl, below_drewN B2 _⟩

set_option maxHeartbeats 2000000 in
theorem sides_hi (s : Int) (wh : Bool) (b o n c m : Nat) (w : World) (h2 : 2 ≤ n) (h24 : n ≤ 24) (hm : splN n = m) (hs : ¬ s ≤ m) (hc : n ≤ c) (hcm : c ≤ maxLen) :
    Calls Tryd.prog 105 #[.agg #[.int .i64 (s), .int .i64 (n), .bool wh], .slice (some ⟨b, o, none⟩) n c] w fun r w' => r = .returned (.tuple #[.slice (some ⟨b, o + m, none⟩) (n - m) (c - m), .slice (some ⟨b, o, none⟩) m c]) ∧ Below w.heap.size w w' := by
  unfold maxLen at hcm
  have hd : decide (s ≤ splN n) = false := by rw [hm]; simpa using hs
  obtain ⟨q1, q2, q3⟩ := splN_bd (n := n) (by omega) (by omega)
  have m1 : (1 : Int) ≤ m := by omega
  have m2 : (m : Int) < n := by omega
  have m3 : (n : Int) ≤ c := by omega
  have m4 : ¬ (c : Int) = m := by omega
  have m5 : (0 : Int) ≤ m := by omega
  have m8 : ¬ c = m := by omega
  have m6 : (m : Int) ≤ c := by omega
  have m7 : (m : Int) ≤ n := by omega
  clear q1 q2 q3 hs
  go_enter Tryd.func105, Tryd.ntmps105
  go_wp2_with fail
  refine (gSplit_any s n wh _ (by omega) (by omega)).mono ?_
  rintro r u1 ⟨rfl, hb1⟩
  have E1 := (GrAt.new w s n wh 84).below hb1
  have B1 : Below w.heap.size w u1 := ((Below.refl _ _).alloc (Nat.le_refl _) _).trans (hb1.mono (by simp))
  obtain ⟨k0, k1, k2, k3⟩ := E1
  rw [hm]
  go_wp2_with fail
  refine (inFirst_any s n wh _ (by omega) (by omega)).mono ?_
  rintro r u2 ⟨rfl, hb2⟩
  have B2 : Below w.heap.size w u2 := B1.trans (hb2.mono B1.size)
  rw [hd]
  go_wp2_with fail
  go_quiet (fail)
  go_wp2
  exact bodyPost_ret (v := .tuple #[.slice (some ⟨b, o + m, none⟩) (n - m) (c - m), .slice (some ⟨b, o, none⟩) m c]) (by simp [results, Tryd.results105, go_sem]) rfl ⟨rfl, below_drewN B2 _⟩

theorem pathIn_base (s : Int) (wh : Bool) (x : Option Addr) (c : Nat) (zs : List Int) (w : World) (h1 : s = zs.length) (h24 : zs.length ≤ 24) (hall : allS zs = true) (hT : Tab w) (hp : Has w .i64 x zs.length zs) (hc : zs.length ≤ c) (hm : c ≤ maxLen) :
    Calls Tryd.prog 81 #[.agg #[.int .i64 (s), .int .i64 (zs.length), .bool wh], .slice x zs.length c] w fun r w' => ∃ pa pc, r = .returned (.slice pa (grM nS 11 zs s wh).length pc) ∧ World.ownsRow w' w.heap.size 2 1 (.slice pa (grM nS 11 zs s wh).length pc) (grM nS 11 zs s wh).length ((grM nS 11 zs s wh).map (.int .i64)) ∧ Below w.heap.size w w' := by
  rw [grM_eq nS 11 wh h1]
  have b : (s == (zs.length : Int)) = true := by simpa using h1
  cases wh
  · simp only [Bool.false_eq_true, if_false]
    have hV : rtV zs = rtM nS 11 zs := by unfold rtV; rw [if_pos (lvF_of h24 hall)]
    have F1 := fldG1
    have RH : Hid (∀ u1 : World, Below w.heap.size w u1 → Calls Tryd.prog 25 #[.slice x zs.length c] u1 fun r w' => r = .returned (.agg #[.int .i64 (lvF zs), .int .i64 (rtM nS 11 zs)]) ∧ Below u1.heap.size u1 w') := by
      intro u1 B1
      rw [← hV]
      exact implRootOf_any x c zs u1 (hT.below B1 (Nat.le_refl _)) (hp.below B1 (Nat.le_refl _)) (by omega) hc hm
    generalize rtM nS 11 zs = rv at *
    generalize lvF zs = cc at *
    clear hV h1
    go_enter Tryd.func81, Tryd.ntmps81
    go_wp2_with fail
    refine (ofAll_any s zs.length false _).mono ?_
    rintro r u1 ⟨rfl, hb1⟩
    rw [b]
    have E1 := (GrAt.new w s zs.length false 84).below hb1
    have B1 : Below w.heap.size w u1 := ((Below.refl _ _).alloc (Nat.le_refl _) _).trans (hb1.mono (by simp))
    obtain ⟨k0, k1, k2, k3⟩ := E1
    go_wp2_with fail
    refine (RH.out _ B1).mono ?_
    rintro r u2 ⟨rfl, hb2⟩
    have B2 : Below w.heap.size w u2 := B1.trans (hb2.mono B1.size)
    clear k0 k1 k2 hb1 hb2 RH
    go_wp2
    go_ret
    refine ⟨some ⟨u2.heap.size, 0, none⟩, 1, rfl, World.ownsRow_lit u2 #[.int .i64 rv] 1 B2.size (by unfold maxLen; omega) rfl, B2.alloc B2.size _⟩
  · clear h1
    go_enter Tryd.func81, Tryd.ntmps81
    go_wp2_with fail
    refine (ofAll_any s zs.length true _).mono ?_
    rintro r u1 ⟨rfl, hb1⟩
    rw [b]
    have E1 := (GrAt.new w s zs.length true 84).below hb1
    have B1 : Below w.heap.size w u1 := ((Below.refl _ _).alloc (Nat.le_refl _) _).trans (hb1.mono (by simp))
    obtain ⟨k0, k1, k2, k3⟩ := E1
    clear hb1
    go_wp2
    go_ret
    exact ⟨none, 0, rfl, World.ownsRow_nil _ _ _ _, B1⟩

set_option maxRecDepth 100000 in
set_option maxHeartbeats 4000000 in
theorem pathIn_any (n : Nat) : ∀ (x : Option Addr) (c : Nat) (zs : List Int) (s : Int) (wh : Bool) (w : World), zs.length ≤ n → zs.length ≤ 24 → allS zs = true → 1 ≤ s → s ≤ zs.length → Tab w → Has w .i64 x zs.length zs → zs.length ≤ c → c ≤ maxLen →
    Calls Tryd.prog 81 #[.agg #[.int .i64 (s), .int .i64 (zs.length), .bool wh], .slice x zs.length c] w fun r w' => ∃ pa pc, r = .returned (.slice pa (grM nS 11 zs s wh).length pc) ∧ World.ownsRow w' w.heap.size 2 1 (.slice pa (grM nS 11 zs s wh).length pc) (grM nS 11 zs s wh).length ((grM nS 11 zs s wh).map (.int .i64)) ∧ Below w.heap.size w w' := by
  obtain ⟨i0, hi0, hz0, hz1, hz2⟩ := info_parts info64
  induction n with
  | zero => intro x c zs s wh w hn h24 hall h0 h1; omega
  | succ n ih =>
    intro x c zs s wh w hn h24 hall h0 h1 hT hp hc hm
    by_cases ho : s = zs.length
    · exact pathIn_base s wh x c zs w ho h24 hall hT hp hc hm
    · have b : (s == (zs.length : Int)) = false := by simpa using ho
      obtain ⟨b1, o1, hx, hlt, hcell⟩ : ∃ b off, x = some ⟨b, off, none⟩ ∧ b < w.heap.size ∧ ∀ i, i < zs.length → w.cell? ⟨b, off + i, none⟩ = some (.int .i64 (zs.getD i 0)) := by
        rcases hp.2.2 with c | h
        · omega
        · exact h
      subst hx
      have hs' : (2 : Int) ≤ zs.length := by omega
      obtain ⟨q1, q2, q3⟩ := splN_bd hs' (by omega)
      obtain ⟨m, hm1⟩ : ∃ m : Nat, splN (zs.length : Int) = m := ⟨(splN (zs.length : Int)).toNat, by omega⟩
      have tl : (zs.take m).length = m := by simp; omega
      have dl : (zs.drop m).length = zs.length - m := by simp
      have hi := has_init hp m (by omega)
      have hr := has_rest hp m (by omega)
      have ti : lvF (zs.take m) = 0 := lvF_of (by omega) (allS_take hall m)
      have td : lvF (zs.drop m) = 0 := lvF_of (by omega) (allS_drop hall m)
      have F1 := fldG1
      have m24 : m ≤ 24 := by omega
      by_cases ha : s ≤ m
      · have EQ : Hid (grM nS 11 zs s wh = grM nS 11 (zs.take m) s wh ++ [rtM nS 11 (zs.drop m)]) := by
          show _ = _
          rw [grM_lo nS 11 wh (by omega) (by rw [hm1]; exact ha), hm1]; rfl
        have LN := grM_len nS 11 _ (zs.take m) s wh (Nat.le_refl _)
        rw [tl] at LN
        have IH : Hid (∀ u : World, Below w.heap.size w u → Calls Tryd.prog 81 #[.agg #[.int .i64 (s), .int .i64 (m), .bool wh], .slice (some ⟨b1, o1, none⟩) m c] u fun r w' => ∃ pa pc, r = .returned (.slice pa (grM nS 11 (zs.take m) s wh).length pc) ∧ World.ownsRow w' u.heap.size 2 1 (.slice pa (grM nS 11 (zs.take m) s wh).length pc) (grM nS 11 (zs.take m) s wh).length ((grM nS 11 (zs.take m) s wh).map (.int .i64)) ∧ Below u.heap.size u w') := by
          intro u hu
          have := ih (some ⟨b1, o1, none⟩) c (zs.take m) s wh u (by omega) (by omega) (allS_take hall m) h0 (by omega) (hT.below hu (Nat.le_refl _)) (hi.below hu (Nat.le_refl _)) (by omega) hm
          rw [tl] at this
          exact this
        have RH : Hid (∀ u : World, Below w.heap.size w u → Calls Tryd.prog 25 #[.slice (some ⟨b1, o1 + m, none⟩) (zs.length - m) (c - m)] u fun r w' => r = .returned (.agg #[.int .i64 0, .int .i64 (rtM nS 11 (zs.drop m))]) ∧ Below u.heap.size u w') := by
          intro u hu
          have := implRootOf_any (some ⟨b1, o1 + m, none⟩) (c - m) (zs.drop m) u (hT.below hu (Nat.le_refl _)) (hr.below hu (Nat.le_refl _)) (by omega) (by omega) (by omega)
          rw [dl, td, show rtV (zs.drop m) = rtM nS 11 (zs.drop m) by unfold rtV; rw [if_pos td]] at this
          exact this
        have SD : Hid (∀ u : World, Calls Tryd.prog 105 #[.agg #[.int .i64 (s), .int .i64 (zs.length), .bool wh], .slice (some ⟨b1, o1, none⟩) zs.length c] u fun r w' => r = .returned (.tuple #[.slice (some ⟨b1, o1, none⟩) m c, .slice (some ⟨b1, o1 + m, none⟩) (zs.length - m) (c - m)]) ∧ Below u.heap.size u w') := fun u => sides_lo s wh b1 o1 zs.length c m u (by omega) h24 hm1 ha hc hm
        have PT : Hid (∀ u : World, Calls Tryd.prog 106 #[.agg #[.int .i64 (s), .int .i64 (zs.length), .bool wh]] u fun r w' => r = .returned (.agg #[.int .i64 (s), .int .i64 (m), .bool wh]) ∧ Below u.heap.size u w') := by
          intro u
          have := part_lo s zs.length wh u hs' (by omega) (by rw [hm1]; exact ha)
          rw [hm1] at this
          exact this
        rw [EQ.out]
        clear EQ ih hi hr tl dl hcell hm1 hp ho q1 q2 q3 ti td
        generalize grM nS 11 (zs.take m) s wh = ps at *
        generalize rtM nS 11 (zs.drop m) = rv at *
        go_enter Tryd.func81, Tryd.ntmps81
        go_wp2_with fail
        refine (ofAll_any s zs.length wh _).mono ?_
        rintro r u1 ⟨rfl, hb1⟩
        rw [b]
        have E1 := (GrAt.new w s zs.length wh 84).below hb1
        have B1 : Below w.heap.size w u1 := ((Below.refl _ _).alloc (Nat.le_refl _) _).trans (hb1.mono (by simp))
        have E1' := E1
        obtain ⟨k0, k1, k2, k3⟩ := E1'
        clear hb1
        go_wp2_with fail
        refine (SD.out _).mono ?_
        rintro r u2 ⟨rfl, hb2⟩
        have E2 := E1.below hb2
        have B2 : Below w.heap.size w u2 := B1.trans (hb2.mono B1.size)
        clear k0 k1 k2 k3 hb2 E1 B1 SD
        obtain ⟨k0, k1, k2, k3⟩ := E2
        go_wp2_with fail
        refine (PT.out _).mono ?_
        rintro r u3 ⟨rfl, hb3⟩
        have B3 : Below w.heap.size w u3 := B2.trans (hb3.mono B2.size)
        clear k0 k1 k2 k3 hb3 B2 PT
        go_wp2_with fail
        refine (IH.out _ B3).mono ?_
        rintro r u4 ⟨pa, pc, rfl, O4, hb4⟩
        have B4 : Below w.heap.size w u4 := B3.trans (hb4.mono B3.size)
        have O4' : Hid (World.ownsRow u4 w.heap.size 2 1 (.slice pa (ps).length pc) (ps).length ((ps).map (.int .i64))) := own_mono O4 B3.size
        clear O4 hb4 B3 IH
        go_wp2_with fail
        refine (RH.out _ B4).mono ?_
        rintro r u5 ⟨rfl, hb5⟩
        have B5 : Below w.heap.size w u5 := B4.trans (hb5.mono B4.size)
        have B6 : Below w.heap.size w (u5.alloc (.cells #[.int .i64 rv] 2)) := B5.alloc B5.size _
        have O5 : Hid (World.ownsRow u5 w.heap.size 2 1 (.slice pa (ps).length pc) (ps).length ((ps).map (.int .i64))) := own_below O4'.out hb5
        have z5 := B5.size
        clear hb5 B4 RH
        go_wp2_with (at_builtin; refine wpList_append_own _ rfl _ _ 24 rfl w.heap.size 2 i0 (.int .i64 0) 1 8 Tryd.underlying24 hi0 hz0 hz1 hz2 rfl (by decide) _ _ _ rfl (O5.out.alloc _) ⟨u5.heap.size, 0, none⟩ 1 1 [.int .i64 rv] rfl rfl (one_new _ _ _) (by intro u hu; simp at hu; subst hu; rfl) (by unfold maxLen; omega) (by omega) (by simp; omega) ?_; intro v' w6 hown hgrow _h4)
        go_ret
        obtain ⟨a', c', rfl⟩ := own_row_shape hown
        refine ⟨a', c', ?_, ?_, B6.grown hgrow B6.size (fun j e => (O5.out.lt j e).1)⟩
        · rw [List.length_append]; rfl
        · rw [List.length_append, List.map_append]; exact hown
      · have EQ : Hid (grM nS 11 zs s wh = grM nS 11 (zs.drop m) (s - m) false ++ [rtM nS 11 (zs.take m)]) := by
          show _ = _
          rw [grM_hi nS 11 wh (by omega) (by rw [hm1]; exact ha) (by omega), hm1]; rfl
        have LN := grM_len nS 11 _ (zs.drop m) (s - m) false (Nat.le_refl _)
        rw [dl] at LN
        have e3 : ((zs.length - m : Nat) : Int) = (zs.length : Int) - m := by omega
        have IH : Hid (∀ u : World, Below w.heap.size w u → Calls Tryd.prog 81 #[.agg #[.int .i64 (s - m), .int .i64 ((zs.length : Int) - m), .bool false], .slice (some ⟨b1, o1 + m, none⟩) (zs.length - m) (c - m)] u fun r w' => ∃ pa pc, r = .returned (.slice pa (grM nS 11 (zs.drop m) (s - m) false).length pc) ∧ World.ownsRow w' u.heap.size 2 1 (.slice pa (grM nS 11 (zs.drop m) (s - m) false).length pc) (grM nS 11 (zs.drop m) (s - m) false).length ((grM nS 11 (zs.drop m) (s - m) false).map (.int .i64)) ∧ Below u.heap.size u w') := by
          intro u hu
          have := ih (some ⟨b1, o1 + m, none⟩) (c - m) (zs.drop m) (s - m) false u (by omega) (by omega) (allS_drop hall m) (by omega) (by omega) (hT.below hu (Nat.le_refl _)) (hr.below hu (Nat.le_refl _)) (by omega) (by omega)
          rw [dl, e3] at this
          exact this
        have RH : Hid (∀ u : World, Below w.heap.size w u → Calls Tryd.prog 25 #[.slice (some ⟨b1, o1, none⟩) m c] u fun r w' => r = .returned (.agg #[.int .i64 0, .int .i64 (rtM nS 11 (zs.take m))]) ∧ Below u.heap.size u w') := by
          intro u hu
          have := implRootOf_any (some ⟨b1, o1, none⟩) c (zs.take m) u (hT.below hu (Nat.le_refl _)) (hi.below hu (Nat.le_refl _)) (by omega) (by omega) hm
          rw [tl, ti, show rtV (zs.take m) = rtM nS 11 (zs.take m) by unfold rtV; rw [if_pos ti]] at this
          exact this
        have SD : Hid (∀ u : World, Calls Tryd.prog 105 #[.agg #[.int .i64 (s), .int .i64 (zs.length), .bool wh], .slice (some ⟨b1, o1, none⟩) zs.length c] u fun r w' => r = .returned (.tuple #[.slice (some ⟨b1, o1 + m, none⟩) (zs.length - m) (c - m), .slice (some ⟨b1, o1, none⟩) m c]) ∧ Below u.heap.size u w') := fun u => sides_hi s wh b1 o1 zs.length c m u (by omega) h24 hm1 ha hc hm
        have PT : Hid (∀ u : World, Calls Tryd.prog 106 #[.agg #[.int .i64 (s), .int .i64 (zs.length), .bool wh]] u fun r w' => r = .returned (.agg #[.int .i64 (s - m), .int .i64 ((zs.length : Int) - m), .bool false]) ∧ Below u.heap.size u w') := by
          intro u
          have := part_hi s zs.length wh u hs' (by omega) (by rw [hm1]; exact ha) h1
          rw [hm1] at this
          exact this
        rw [EQ.out]
        clear EQ ih hi hr tl dl hcell hm1 hp ho q1 q2 q3 ti td e3
        generalize grM nS 11 (zs.drop m) (s - m) false = ps at *
        generalize rtM nS 11 (zs.take m) = rv at *
        go_enter Tryd.func81, Tryd.ntmps81
        go_wp2_with fail
        refine (ofAll_any s zs.length wh _).mono ?_
        rintro r u1 ⟨rfl, hb1⟩
        rw [b]
        have E1 := (GrAt.new w s zs.length wh 84).below hb1
        have B1 : Below w.heap.size w u1 := ((Below.refl _ _).alloc (Nat.le_refl _) _).trans (hb1.mono (by simp))
        have E1' := E1
        obtain ⟨k0, k1, k2, k3⟩ := E1'
        clear hb1
        go_wp2_with fail
        refine (SD.out _).mono ?_
        rintro r u2 ⟨rfl, hb2⟩
        have E2 := E1.below hb2
        have B2 : Below w.heap.size w u2 := B1.trans (hb2.mono B1.size)
        clear k0 k1 k2 k3 hb2 E1 B1 SD
        obtain ⟨k0, k1, k2, k3⟩ := E2
        go_wp2_with fail
        refine (PT.out _).mono ?_
        rintro r u3 ⟨rfl, hb3⟩
        have B3 : Below w.heap.size w u3 := B2.trans (hb3.mono B2.size)
        clear k0 k1 k2 k3 hb3 B2 PT
        go_wp2_with fail
        refine (IH.out _ B3).mono ?_
        rintro r u4 ⟨pa, pc, rfl, O4, hb4⟩
        have B4 : Below w.heap.size w u4 := B3.trans (hb4.mono B3.size)
        have O4' : Hid (World.ownsRow u4 w.heap.size 2 1 (.slice pa (ps).length pc) (ps).length ((ps).map (.int .i64))) := own_mono O4 B3.size
        clear O4 hb4 B3 IH
        go_wp2_with fail
        refine (RH.out _ B4).mono ?_
        rintro r u5 ⟨rfl, hb5⟩
        have B5 : Below w.heap.size w u5 := B4.trans (hb5.mono B4.size)
        have B6 : Below w.heap.size w (u5.alloc (.cells #[.int .i64 rv] 2)) := B5.alloc B5.size _
        have O5 : Hid (World.ownsRow u5 w.heap.size 2 1 (.slice pa (ps).length pc) (ps).length ((ps).map (.int .i64))) := own_below O4'.out hb5
        have z5 := B5.size
        clear hb5 B4 RH
        go_wp2_with (at_builtin; refine wpList_append_own _ rfl _ _ 24 rfl w.heap.size 2 i0 (.int .i64 0) 1 8 Tryd.underlying24 hi0 hz0 hz1 hz2 rfl (by decide) _ _ _ rfl (O5.out.alloc _) ⟨u5.heap.size, 0, none⟩ 1 1 [.int .i64 rv] rfl rfl (one_new _ _ _) (by intro u hu; simp at hu; subst hu; rfl) (by unfold maxLen; omega) (by omega) (by simp; omega) ?_; intro v' w6 hown hgrow _h4)
        go_ret
        obtain ⟨a', c', rfl⟩ := own_row_shape hown
        refine ⟨a', c', ?_, ?_, B6.grown hgrow B6.size (fun j e => (O5.out.lt j e).1)⟩
        · rw [List.length_append]; rfl
        · rw [List.length_append, List.map_append]; exact hown

set_option maxHeartbeats 2000000 in
theorem implGrowthOf_any (x : Option Addr) (c : Nat) (zs : List Int) (a : Int) (w : World) (hT : Tab w) (hp : Has w .i64 x zs.length zs) (hl : zs.length ≤ 1048576) (hc : zs.length ≤ c) (hm : c ≤ maxLen) :
    Calls Tryd.prog 44 #[.slice x zs.length c, .int .i64 a] w fun r w' => ∃ pa pc, r = .returned (.agg #[.int .i64 (gwC zs a), .slice pa (gwL zs a).length pc]) ∧ World.ownsRow w' w.heap.size 2 1 (.slice pa (gwL zs a).length pc) (gwL zs a).length ((gwL zs a).map (.int .i64)) ∧ Below w.heap.size w w' := by
  by_cases h0 : lvF zs = 0
  · obtain ⟨h24, hall⟩ := lvF_zero h0
    have H0 : Hid (lvF zs = 0) := h0
    by_cases hin : 1 ≤ a ∧ a ≤ zs.length
    · have hC : gwC zs a = 0 := by unfold gwC; rw [if_pos h0, if_pos hin]
      have hL : gwL zs a = grM nS 11 zs a true := by unfold gwL; rw [if_pos ⟨h0, hin⟩]
      rw [hC, hL]
      obtain ⟨a0, a1⟩ := hin
      clear hC hL h0
      have PI : Hid (∀ u : World, Below w.heap.size w u → Calls Tryd.prog 81 #[.agg #[.int .i64 (a), .int .i64 (zs.length), .bool true], .slice x zs.length c] u fun r w' => ∃ pa pc, r = .returned (.slice pa (grM nS 11 zs a true).length pc) ∧ World.ownsRow w' u.heap.size 2 1 (.slice pa (grM nS 11 zs a true).length pc) (grM nS 11 zs a true).length ((grM nS 11 zs a true).map (.int .i64)) ∧ Below u.heap.size u w') := fun u hu => pathIn_any _ x c zs a true u (Nat.le_refl _) h24 hall a0 a1 (hT.below hu (Nat.le_refl _)) (hp.below hu (Nat.le_refl _)) hc hm
      generalize grM nS 11 zs a true = ps at *
      go_enter Tryd.func44, Tryd.ntmps44
      go_wp2_with fail
      refine (implLeavesFault_any x c zs _ (hp.alloc _) hl).mono ?_
      rintro r u ⟨rfl, rfl⟩
      rw [H0.out]
      go_wp2_with fail
      refine (whole_any a zs.length _).mono ?_
      rintro r u1 ⟨rfl, hb1⟩
      have B1 : Below w.heap.size w u1 := ((Below.refl _ _).alloc (Nat.le_refl _) _).trans (hb1.mono (by simp))
      obtain ⟨hc1, hf1⟩ := bcell hb1
      have hz1 := hb1.size
      simp at hz1
      go_wp2_with fail
      refine (PI.out _ B1).mono ?_
      rintro r u2 ⟨pa, pc, rfl, hown, hb2⟩
      have B2 : Below w.heap.size w u2 := B1.trans (hb2.mono B1.size)
      obtain ⟨hc2, hf2⟩ := bcell hb2
      have hz2 := hb2.size
      have y1 : w.heap.size < u1.heap.size := by omega
      have y2 : w.heap.size < u2.heap.size := by omega
      have HO : Hid (u2.ownsRow (w.heap.size + 1) 2 1 (.slice pa ps.length pc) ps.length (ps.map (.int .i64))) := own_mono hown (by omega)
      clear hown PI
      go_wp2
      refine bodyPost_ret (v := .agg #[.int .i64 0, .slice pa ps.length pc]) (by simp [results, Tryd.results44, go_sem, hc1, hc2, y1]) rfl ⟨pa, pc, rfl, ?_, ?_⟩
      · have fs : Fr (fun k => k = w.heap.size) u2 ((u2.setCell ⟨w.heap.size, 0, none⟩ (.int .i64 0)).setCell ⟨w.heap.size, 1, none⟩ (.slice pa ps.length pc)) := by
          refine Fr.setCell (Fr.setCell (Fr.refl _ _) _ _ ?_) _ _ ?_ <;> rfl
        have h5 := own_fr HO.out fs (fun g e1 e2 => by have := (HO.out.lt g e1).1; omega)
        exact own_mono h5 (by omega)
      · repeat (first | exact B2 | (refine Below.setCell ?_ (by (try simp) <;> omega) _))
    · have hC : gwC zs a = 3 := by unfold gwC; rw [if_pos h0, if_neg hin]
      have hL : gwL zs a = [] := by unfold gwL; rw [if_neg (fun h => hin h.2)]
      rw [hC, hL]
      clear hC hL h0
      by_cases ha : a < 1
      · go_enter Tryd.func44, Tryd.ntmps44
        go_wp2_with fail
        refine (implLeavesFault_any x c zs _ (hp.alloc _) hl).mono ?_
        rintro r u ⟨rfl, rfl⟩
        rw [H0.out]
        go_wp2
        refine bodyPost_ret (v := .agg #[.int .i64 3, .slice none 0 0]) (by simp [results, Tryd.results44, go_sem]) rfl ⟨none, 0, rfl, World.ownsRow_nil _ _ _ _, ?_⟩
        repeat (first | exact Below.refl _ _ | (refine Below.alloc ?_ (by (try simp) <;> omega) _) | (refine Below.setCell ?_ (by (try simp) <;> omega) _))
      · have ha' : (zs.length : Int) < a := by omega
        clear hin
        go_enter Tryd.func44, Tryd.ntmps44
        go_wp2_with fail
        refine (implLeavesFault_any x c zs _ (hp.alloc _) hl).mono ?_
        rintro r u ⟨rfl, rfl⟩
        rw [H0.out]
        go_wp2
        refine bodyPost_ret (v := .agg #[.int .i64 3, .slice none 0 0]) (by simp [results, Tryd.results44, go_sem]) rfl ⟨none, 0, rfl, World.ownsRow_nil _ _ _ _, ?_⟩
        repeat (first | exact Below.refl _ _ | (refine Below.alloc ?_ (by (try simp) <;> omega) _) | (refine Below.setCell ?_ (by (try simp) <;> omega) _))
  · have hC : gwC zs a = lvF zs := by unfold gwC; rw [if_neg h0]
    have hL : gwL zs a = [] := by unfold gwL; rw [if_neg (fun h => h0 h.1)]
    have h0' : (lvF zs != 0) = true := by simpa using h0
    rw [hC, hL]
    clear hC hL h0
    generalize hcc : lvF zs = cc at *
    have HC : Hid (lvF zs = cc) := hcc
    clear hcc
    go_enter Tryd.func44, Tryd.ntmps44
    go_wp2_with fail
    refine (implLeavesFault_any x c zs _ (hp.alloc _) hl).mono ?_
    rintro r u ⟨rfl, rfl⟩
    rw [HC.out]
    go_wp2
    refine bodyPost_ret (v := .agg #[.int .i64 cc, .slice none 0 0]) (by simp [results, Tryd.results44, go_sem]) rfl ⟨none, 0, rfl, World.ownsRow_nil _ _ _ _, ?_⟩
    repeat (first | exact Below.refl _ _ | (refine Below.alloc ?_ (by (try simp) <;> omega) _) | (refine Below.setCell ?_ (by (try simp) <;> omega) _))

theorem gwL_len (zs : List Int) (s : Int) : (gwL zs s).length ≤ 25 := by
  unfold gwL
  split
  · rename_i h
    have h1 := grM_len nS 11 _ zs s true (Nat.le_refl _)
    have h2 := (lvF_zero h.1).1
    omega
  · simp

end Go.Proofs.YtkjhcblfkpknlaaDoor
