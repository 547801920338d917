/- Contracts: the model's path of a leaf, split by split; its RootOf and PathOf. -/
import Derived.Test.YtklhkhlmhddmcaaDoorRoot4S
import Derived.Test.YtklhkhlmhddmcaaDoorLvl
import Derived.Test.YtklhkhlmhddmcaaDoorMarkI
namespace Go.Proofs.YtklhkhlmhddmcaaDoor
open Go.ChangeShapes Go.WideShapes Go.ChangeAt Go.RowKit
set_option linter.unusedVariables false
set_option linter.unusedSimpArgs false

set_option maxRecDepth 100000 in
set_option maxHeartbeats 4000000 in
theorem l4Path_any (n : Nat) : ∀ (x : Option Addr) (c : Nat) (zs : List Int) (a : Int) (w : World), zs.length ≤ n → zs.length ≤ 32 → allS zs = true → 0 ≤ a → a < zs.length → Has w .i64 x zs.length zs → zs.length ≤ c → c ≤ maxLen →
    Calls Tryd.prog 53 #[.slice x zs.length c, .int .i64 a] w fun r w' => ∃ pa pc, r = .returned (.slice pa (ptM nS 11 zs a).length pc) ∧ w'.ownsRow w.heap.size 2 1 (.slice pa (ptM nS 11 zs a).length pc) (ptM nS 11 zs a).length ((ptM nS 11 zs a).map (.int .i64)) ∧ Below w.heap.size w w' := by
  obtain ⟨i0, hi0, hz0, hz1, hz2⟩ := info_parts info64
  induction n with
  | zero => intro x c zs a w hn h32 hall ha0 ha1 hp hc hm; omega
  | succ n ih =>
    intro x c zs a w hn h32 hall ha0 ha1 hp hc hm
    unfold maxLen at hm
    by_cases h1 : zs.length ≤ 1
    · have h1' : (zs.length : Int) ≤ 1 := by omega
      rw [ptM_le nS 11 a h1]
      go_enter Tryd.func53, Tryd.ntmps53
      go_wp2
      go_ret
      refine ⟨some ⟨w.heap.size, 0, none⟩, 0, rfl, ⟨by simp, .inr ⟨w.heap.size, 0, #[], rfl, Nat.le_refl _, ?_, Nat.le_refl _, by unfold maxLen; omega, rfl, rfl⟩⟩, ?_⟩
      · exact Blk.new w #[] 2
      · repeat (first | exact Below.refl _ _ | (refine Below.alloc ?_ (by (try simp) <;> omega) _) | (refine Below.setCell ?_ (by (try simp) <;> omega) _))
    · obtain ⟨b1, o1, hx, hb1, hcell⟩ : ∃ b off, x = some ⟨b, off, none⟩ ∧ b < w.heap.size ∧ ∀ i, i < zs.length → w.cell? ⟨b, off + i, none⟩ = some (.int .i64 (zs.getD i 0)) := by
        rcases hp.2.2 with c | h
        · omega
        · exact h
      subst hx
      have hs' : (2 : Int) ≤ zs.length := by omega
      obtain ⟨q1, q2, q3⟩ := splN_bd hs' (by omega)
      obtain ⟨m, hm1⟩ : ∃ m : Nat, splN (zs.length : Int) = m := ⟨(splN (zs.length : Int)).toNat, by omega⟩
      have tl : (zs.take m).length = m := by simp; omega
      have dl : (zs.drop m).length = zs.length - m := by simp
      have hi := has_init hp m (by omega)
      have hr := has_rest hp m (by omega)
      have HM : Hid (splN (zs.length : Int) = m) := hm1
      have m1 : (1 : Int) ≤ m := by omega
      have m2 : (m : Int) < zs.length := by omega
      have m3 : (zs.length : Int) ≤ c := by omega
      have m4 : ¬ (c : Int) = m := by omega
      have m5 : (0 : Int) ≤ m := by omega
      have m8 : ¬ c = m := by omega
      have m6 : (m : Int) ≤ c := by omega
      have m7 : (m : Int) ≤ zs.length := by omega
      have h1' : ¬ (zs.length : Int) ≤ 1 := by omega
      have D0 : Below w.heap.size w w.drew := (Below.refl _ _).drew
      by_cases ha : a < m
      · have EQ : Hid (ptM nS 11 zs a = ptM nS 11 (zs.take m) a ++ [rtM nS 11 (zs.drop m)]) := by
          show _ = _
          rw [ptM_lo nS 11 (by omega) (by rw [hm1]; exact ha), hm1]; rfl
        have hb2' := rtM_bd _ (zs.drop m) (Nat.le_refl _) (allS_drop hall m)
        have LN := ptM_len nS 11 _ (zs.take m) a (Nat.le_refl _)
        have IH1 := ih (some ⟨b1, o1, none⟩) c (zs.take m) a w.drew (by omega) (by omega) (allS_take hall m) ha0 (by omega) (hi.below D0 (Nat.le_refl _)) (by omega) (by unfold maxLen; omega)
        rw [tl] at IH1 LN
        have RH : Hid (∀ u : World, Below w.heap.size w u → Calls Tryd.prog 69 #[.slice (some ⟨b1, o1 + m, none⟩) (zs.length - m) (c - m)] u fun r w' => r = .returned (.int .i64 (rtM nS 11 (zs.drop m))) ∧ Below u.heap.size u w') := by
          intro u hu
          have := l4Root_any _ (some ⟨b1, o1 + m, none⟩) (c - m) (zs.drop m) u (Nat.le_refl _) (by omega) (allS_drop hall m) (hr.below hu (Nat.le_refl _)) (by omega) (by unfold maxLen; omega)
          rw [dl] at this
          exact this
        have IHH : Hid (Calls Tryd.prog 53 #[.slice (some ⟨b1, o1, none⟩) m c, .int .i64 a] w.drew fun r w' => ∃ pa pc, r = .returned (.slice pa (ptM nS 11 (zs.take m) a).length pc) ∧ w'.ownsRow w.drew.heap.size 2 1 (.slice pa (ptM nS 11 (zs.take m) a).length pc) (ptM nS 11 (zs.take m) a).length ((ptM nS 11 (zs.take m) a).map (.int .i64)) ∧ Below w.drew.heap.size w.drew w') := IH1
        rw [EQ.out]
        clear EQ IH1 ih hi hr tl dl hcell hm1 hp h1 q1 q2 q3
        generalize ptM nS 11 (zs.take m) a = ps at *
        generalize rtM nS 11 (zs.drop m) = rv at *
        go_enter Tryd.func53, Tryd.ntmps53
        go_upto_region 6 with (go_at_call 99; refine (split_any zs.length _ (by omega) (by omega)).mono ?_; rintro r u2 ⟨rfl, rfl⟩; rw [HM.out])
        go_region_held3 (fun _ => True) (trivial) (first | (go_at_call 53; refine IHH.out.mono ?_; rintro r u3 ⟨pa, pc, rfl, O3, hb3⟩) | (go_at_call 69; refine (RH.out _ (D0.trans (hb3.mono D0.size))).mono ?_; rintro r u4 ⟨rfl, hb4⟩) | (refine step_app1 rfl _ _ 25 rfl u2.heap.size 2 i0 Tryd.underlying25 hi0 hz0 hz1 hz2 (.slice pa ps.length pc) ps.length (ps.map (.int .i64)) rfl ((own_below O3 hb4).alloc _) u4.heap.size 1 rv rfl ?_ ?_ ?_ ?_; (simp [go_sem]); omega; exact (Nat.le_trans (Nat.le_trans hb3.size hb4.size) (by rw [World.size_alloc]; exact Nat.le_succ _)); intro g' c' w5 hown hgrow hnew) | fail)
        go_wp2
        go_ret
        have B5 : Below u2.heap.size u2 (u4.alloc (.cells #[.int .i64 rv] 2)) := ((D0.trans (hb3.mono D0.size)).trans (hb4.mono hb3.size)).alloc (Nat.le_trans hb3.size hb4.size) _
        refine ⟨some ⟨g', 0, none⟩, c', ?_, ?_, B5.grown hgrow B5.size (fun j e => (O3.lt j e).1)⟩
        · rw [List.length_append]; rfl
        · rw [List.length_append, List.map_append]; exact hown
      · have EQ : Hid (ptM nS 11 zs a = ptM nS 11 (zs.drop m) (a - m) ++ [rtM nS 11 (zs.take m)]) := by
          show _ = _
          rw [ptM_hi nS 11 (by omega) (by rw [hm1]; exact ha), hm1]; rfl
        have hb2' := rtM_bd _ (zs.take m) (Nat.le_refl _) (allS_take hall m)
        have LN := ptM_len nS 11 _ (zs.drop m) (a - m) (Nat.le_refl _)
        have IH1 := ih (some ⟨b1, o1 + m, none⟩) (c - m) (zs.drop m) (a - m) w.drew (by omega) (by omega) (allS_drop hall m) (by omega) (by omega) (hr.below D0 (Nat.le_refl _)) (by omega) (by unfold maxLen; omega)
        rw [dl] at IH1 LN
        have RH : Hid (∀ u : World, Below w.heap.size w u → Calls Tryd.prog 69 #[.slice (some ⟨b1, o1, none⟩) m c] u fun r w' => r = .returned (.int .i64 (rtM nS 11 (zs.take m))) ∧ Below u.heap.size u w') := by
          intro u hu
          have := l4Root_any _ (some ⟨b1, o1, none⟩) c (zs.take m) u (Nat.le_refl _) (by omega) (allS_take hall m) (hi.below hu (Nat.le_refl _)) (by omega) (by unfold maxLen; omega)
          rw [tl] at this
          exact this
        have IHH : Hid (Calls Tryd.prog 53 #[.slice (some ⟨b1, o1 + m, none⟩) (zs.length - m) (c - m), .int .i64 (a - m)] w.drew fun r w' => ∃ pa pc, r = .returned (.slice pa (ptM nS 11 (zs.drop m) (a - m)).length pc) ∧ w'.ownsRow w.drew.heap.size 2 1 (.slice pa (ptM nS 11 (zs.drop m) (a - m)).length pc) (ptM nS 11 (zs.drop m) (a - m)).length ((ptM nS 11 (zs.drop m) (a - m)).map (.int .i64)) ∧ Below w.drew.heap.size w.drew w') := IH1
        have hwr : IntKind.i64.wrap (a - (m : Int)) = a - m := by rw [IntKind.wrap_i64]; omega
        rw [EQ.out]
        clear EQ IH1 ih hi hr tl dl hcell hm1 hp h1 q1 q2 q3
        generalize ptM nS 11 (zs.drop m) (a - m) = ps at *
        generalize rtM nS 11 (zs.take m) = rv at *
        go_enter Tryd.func53, Tryd.ntmps53
        go_upto_region 7 with (go_at_call 99; refine (split_any zs.length _ (by omega) (by omega)).mono ?_; rintro r u2 ⟨rfl, rfl⟩; rw [HM.out])
        go_region_held3 (fun _ => True) (trivial) (first | (go_at_call 53; refine IHH.out.mono ?_; rintro r u3 ⟨pa, pc, rfl, O3, hb3⟩) | (go_at_call 69; refine (RH.out _ (D0.trans (hb3.mono D0.size))).mono ?_; rintro r u4 ⟨rfl, hb4⟩) | (refine step_app1 rfl _ _ 25 rfl u2.heap.size 2 i0 Tryd.underlying25 hi0 hz0 hz1 hz2 (.slice pa ps.length pc) ps.length (ps.map (.int .i64)) rfl ((own_below O3 hb4).alloc _) u4.heap.size 1 rv rfl ?_ ?_ ?_ ?_; (simp [go_sem]); omega; exact (Nat.le_trans (Nat.le_trans hb3.size hb4.size) (by rw [World.size_alloc]; exact Nat.le_succ _)); intro g' c' w5 hown hgrow hnew) | fail)
        go_wp2
        go_ret
        have B5 : Below u2.heap.size u2 (u4.alloc (.cells #[.int .i64 rv] 2)) := ((D0.trans (hb3.mono D0.size)).trans (hb4.mono hb3.size)).alloc (Nat.le_trans hb3.size hb4.size) _
        refine ⟨some ⟨g', 0, none⟩, c', ?_, ?_, B5.grown hgrow B5.size (fun j e => (O3.lt j e).1)⟩
        · rw [List.length_append]; rfl
        · rw [List.length_append, List.map_append]; exact hown

end Go.Proofs.YtklhkhlmhddmcaaDoor
