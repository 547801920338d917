/- Contracts: the model's path of a leaf, split by split; its RootOf and PathOf. -/
import Derived.Test.YtkjhcblfkpknlaaDoorRoot4S
import Derived.Test.YtkjhcblfkpknlaaDoorLvl
import Derived.Test.YtkjhcblfkpknlaaDoorMarkI
namespace Go.Proofs.YtkjhcblfkpknlaaDoor
open Go.ChangeShapes Go.WideShapes Go.ChangeAt Go.RowKit
set_option linter.unusedVariables false
set_option linter.unusedSimpArgs false

set_option maxRecDepth 100000 in
set_option maxHeartbeats 4000000 in
theorem l4Path_any (n : Nat) : ∀ (x : Option Addr) (c : Nat) (zs : List Int) (a : Int) (w : World), zs.length ≤ n → zs.length ≤ 32 → allS zs = true → 0 ≤ a → a < zs.length → Has w .i64 x zs.length zs → zs.length ≤ c → c ≤ maxLen →
    Calls Tryd.prog 61 #[.slice x zs.length c, .int .i64 a] w fun r w' => ∃ pa pc, r = .returned (.slice pa (ptM nS 11 zs a).length pc) ∧ w'.ownsRow w.heap.size 2 1 (.slice pa (ptM nS 11 zs a).length pc) (ptM nS 11 zs a).length ((ptM nS 11 zs a).map (.int .i64)) ∧ Below w.heap.size w w' := by
  obtain ⟨i0, hi0, hz0, hz1, hz2⟩ := info_parts info64
  induction n with
  | zero => intro x c zs a w hn h32 hall ha0 ha1 hp hc hm; omega
  | succ n ih =>
    intro x c zs a w hn h32 hall ha0 ha1 hp hc hm
    unfold maxLen at hm
    by_cases h1 : zs.length ≤ 1
    · have h1' : (zs.length : Int) ≤ 1 := by omega
      rw [ptM_le nS 11 a h1]
      go_enter Tryd.func61, Tryd.ntmps61
      go_wp2
      go_ret
      refine ⟨some ⟨w.heap.size, 0, none⟩, 0, rfl, ⟨by simp, .inr ⟨w.heap.size, 0, #[], rfl, Nat.le_refl _, ?_, Nat.le_refl _, by unfold maxLen; omega, rfl, rfl⟩⟩, ?_⟩
      · exact Blk.new w #[] 2
      · repeat (first | exact Below.refl _ _ | (refine Below.alloc ?_ (by (try simp) <;> omega) _) | (refine Below.setCell ?_ (by (try simp) <;> omega) _))
    · obtain ⟨b1, o1, hx, hb1, hcell⟩ : ∃ b off, x = some ⟨b, off, none⟩ ∧ b < w.heap.size ∧ ∀ i, i < zs.length → w.cell? ⟨b, off + i, none⟩ = some (.int .i64 (zs.getD i 0)) := by
        rcases hp.2.2 with c | h
        · omega
        · exact h
      subst hx
      have hs' : (2 : Int) ≤ zs.length := by omega
      obtain ⟨q1, q2, q3⟩ := splN_bd hs' (by omega)
      obtain ⟨m, hm1⟩ : ∃ m : Nat, splN (zs.length : Int) = m := ⟨(splN (zs.length : Int)).toNat, by omega⟩
      have tl : (zs.take m).length = m := by simp; omega
      have dl : (zs.drop m).length = zs.length - m := by simp
      have hi := has_init hp m (by omega)
      have hr := has_rest hp m (by omega)
      have HM : Hid (splN (zs.length : Int) = m) := hm1
      have m1 : (1 : Int) ≤ m := by omega
      have m2 : (m : Int) < zs.length := by omega
      have m3 : (zs.length : Int) ≤ c := by omega
      have m4 : ¬ (c : Int) = m := by omega
      have m5 : (0 : Int) ≤ m := by omega
      have m8 : ¬ c = m := by omega
      have m6 : (m : Int) ≤ c := by omega
      have m7 : (m : Int) ≤ zs.length := by omega
      have h1' : ¬ (zs.length : Int) ≤ 1 := by omega
      have D0 : Below w.heap.size w w.drew := (Below.refl _ _).drew
      by_cases ha : a < m
      · have EQ : Hid (ptM nS 11 zs a = ptM nS 11 (zs.take m) a ++ [rtM nS 11 (zs.drop m)]) := by
          show _ = _
          rw [ptM_lo nS 11 (by omega) (by rw [hm1]; exact ha), hm1]; rfl
        have hb2' := rtM_bd _ (zs.drop m) (Nat.le_refl _) (allS_drop hall m)
        have LN := ptM_len nS 11 _ (zs.take m) a (Nat.le_refl _)
        have IH1 := ih (some ⟨b1, o1, none⟩) c (zs.take m) a w.drew (by omega) (by omega) (allS_take hall m) ha0 (by omega) (hi.below D0 (Nat.le_refl _)) (by omega) (by unfold maxLen; omega)
        rw [tl] at IH1 LN
        have RH : Hid (∀ u : World, Below w.heap.size w u → Calls Tryd.prog 69 #[.slice (some ⟨b1, o1 + m, none⟩) (zs.length - m) (c - m)] u fun r w' => r = .returned (.int .i64 (rtM nS 11 (zs.drop m))) ∧ Below u.heap.size u w') := by
          intro u hu
          have := l4Root_any _ (some ⟨b1, o1 + m, none⟩) (c - m) (zs.drop m) u (Nat.le_refl _) (by omega) (allS_drop hall m) (hr.below hu (Nat.le_refl _)) (by omega) (by unfold maxLen; omega)
          rw [dl] at this
          exact this
        have IHH : Hid (Calls Tryd.prog 61 #[.slice (some ⟨b1, o1, none⟩) m c, .int .i64 a] w.drew fun r w' => ∃ pa pc, r = .returned (.slice pa (ptM nS 11 (zs.take m) a).length pc) ∧ w'.ownsRow w.drew.heap.size 2 1 (.slice pa (ptM nS 11 (zs.take m) a).length pc) (ptM nS 11 (zs.take m) a).length ((ptM nS 11 (zs.take m) a).map (.int .i64)) ∧ Below w.drew.heap.size w.drew w') := IH1
        rw [EQ.out]
        clear EQ IH1 ih hi hr tl dl hcell hm1 hp h1 q1 q2 q3
        generalize ptM nS 11 (zs.take m) a = ps at *
        generalize rtM nS 11 (zs.drop m) = rv at *
        go_enter Tryd.func61, Tryd.ntmps61
        go_upto_region 6 with (go_at_call 76; refine (split_any zs.length _ (by omega) (by omega)).mono ?_; rintro r u2 ⟨rfl, rfl⟩; rw [HM.out])
        go_region_held3 (fun _ => True) (trivial) (first | (go_at_call 61; refine IHH.out.mono ?_; rintro r u3 ⟨pa, pc, rfl, O3, hb3⟩) | (go_at_call 69; refine (RH.out _ (D0.trans (hb3.mono D0.size))).mono ?_; rintro r u4 ⟨rfl, hb4⟩) | (refine step_app1 rfl _ _ 24 rfl u2.heap.size 2 i0 Tryd.underlying24 hi0 hz0 hz1 hz2 (.slice pa ps.length pc) ps.length (ps.map (.int .i64)) rfl ((own_below O3 hb4).alloc _) u4.heap.size 1 rv rfl ?_ ?_ ?_ ?_; (simp [go_sem]); omega; exact (Nat.le_trans (Nat.le_trans hb3.size hb4.size) (by rw [World.size_alloc]; exact Nat.le_succ _)); intro g' c' w5 hown hgrow hnew) | fail)
        go_wp2
        go_ret
        have B5 : Below u2.heap.size u2 (u4.alloc (.cells #[.int .i64 rv] 2)) := ((D0.trans (hb3.mono D0.size)).trans (hb4.mono hb3.size)).alloc (Nat.le_trans hb3.size hb4.size) _
        refine ⟨some ⟨g', 0, none⟩, c', ?_, ?_, B5.grown hgrow B5.size (fun j e => (O3.lt j e).1)⟩
        · rw [List.length_append]; rfl
        · rw [List.length_append, List.map_append]; exact hown
      · have EQ : Hid (ptM nS 11 zs a = ptM nS 11 (zs.drop m) (a - m) ++ [rtM nS 11 (zs.take m)]) := by
          show _ = _
          rw [ptM_hi nS 11 (by omega) (by rw [hm1]; exact ha), hm1]; rfl
        have hb2' := rtM_bd _ (zs.take m) (Nat.le_refl _) (allS_take hall m)
        have LN := ptM_len nS 11 _ (zs.drop m) (a - m) (Nat.le_refl _)
        have IH1 := ih (some ⟨b1, o1 + m, none⟩) (c - m) (zs.drop m) (a - m) w.drew (by omega) (by omega) (allS_drop hall m) (by omega) (by omega) (hr.below D0 (Nat.le_refl _)) (by omega) (by unfold maxLen; omega)
        rw [dl] at IH1 LN
        have RH : Hid (∀ u : World, Below w.heap.size w u → Calls Tryd.prog 69 #[.slice (some ⟨b1, o1, none⟩) m c] u fun r w' => r = .returned (.int .i64 (rtM nS 11 (zs.take m))) ∧ Below u.heap.size u w') := by
          intro u hu
          have := l4Root_any _ (some ⟨b1, o1, none⟩) c (zs.take m) u (Nat.le_refl _) (by omega) (allS_take hall m) (hi.below hu (Nat.le_refl _)) (by omega) (by unfold maxLen; omega)
          rw [tl] at this
          exact this
        have IHH : Hid (Calls Tryd.prog 61 #[.slice (some ⟨b1, o1 + m, none⟩) (zs.length - m) (c - m), .int .i64 (a - m)] w.drew fun r w' => ∃ pa pc, r = .returned (.slice pa (ptM nS 11 (zs.drop m) (a - m)).length pc) ∧ w'.ownsRow w.drew.heap.size 2 1 (.slice pa (ptM nS 11 (zs.drop m) (a - m)).length pc) (ptM nS 11 (zs.drop m) (a - m)).length ((ptM nS 11 (zs.drop m) (a - m)).map (.int .i64)) ∧ Below w.drew.heap.size w.drew w') := IH1
        have hwr : IntKind.i64.wrap (a - (m : Int)) = a - m := by rw [IntKind.wrap_i64]; omega
        rw [EQ.out]
        clear EQ IH1 ih hi hr tl dl hcell hm1 hp h1 q1 q2 q3
        generalize ptM nS 11 (zs.drop m) (a - m) = ps at *
        generalize rtM nS 11 (zs.take m) = rv at *
        go_enter Tryd.func61, Tryd.ntmps61
        go_upto_region 7 with (go_at_call 76; refine (split_any zs.length _ (by omega) (by omega)).mono ?_; rintro r u2 ⟨rfl, rfl⟩; rw [HM.out])
        go_region_held3 (fun _ => True) (trivial) (first | (go_at_call 61; refine IHH.out.mono ?_; rintro r u3 ⟨pa, pc, rfl, O3, hb3⟩) | (go_at_call 69; refine (RH.out _ (D0.trans (hb3.mono D0.size))).mono ?_; rintro r u4 ⟨rfl, hb4⟩) | (refine step_app1 rfl _ _ 24 rfl u2.heap.size 2 i0 Tryd.underlying24 hi0 hz0 hz1 hz2 (.slice pa ps.length pc) ps.length (ps.map (.int .i64)) rfl ((own_below O3 hb4).alloc _) u4.heap.size 1 rv rfl ?_ ?_ ?_ ?_; (simp [go_sem]); omega; exact (Nat.le_trans (Nat.le_trans hb3.size hb4.size) (by rw [World.size_alloc]; exact Nat.le_succ _)); intro g' c' w5 hown hgrow hnew) | fail)
        go_wp2
        go_ret
        have B5 : Below u2.heap.size u2 (u4.alloc (.cells #[.int .i64 rv] 2)) := ((D0.trans (hb3.mono D0.size)).trans (hb4.mono hb3.size)).alloc (Nat.le_trans hb3.size hb4.size) _
        refine ⟨some ⟨g', 0, none⟩, c', ?_, ?_, B5.grown hgrow B5.size (fun j e => (O3.lt j e).1)⟩
        · rw [List.length_append]; rfl
        · rw [List.length_append, List.map_append]; exact hown

set_option maxHeartbeats 2000000 in
theorem specRootOf_any (x : Option Addr) (c : Nat) (zs : List Int) (w : World) (hp : Has w .i64 x zs.length zs) (hl : zs.length ≤ 1048576) (hc : zs.length ≤ c) (hm : c ≤ maxLen) :
    Calls Tryd.prog 31 #[.slice x zs.length c] w fun r w' => r = .returned (.agg #[.int .i64 (lvF zs), .int .i64 (rtV zs)]) ∧ Below w.heap.size w w' := by
  by_cases h0 : lvF zs = 0
  · have hV : rtV zs = rtM nS 11 zs := by unfold rtV; rw [if_pos h0]
    obtain ⟨h24, hall⟩ := lvF_zero h0
    have H0 : Hid (lvF zs = 0) := h0
    rw [hV, h0]
    clear hV h0
    go_enter Tryd.func31, Tryd.ntmps31
    go_wp2_with fail
    refine (l4Fault_any x c zs _ (hp.alloc _) hl).mono ?_
    rintro r u ⟨rfl, rfl⟩
    rw [H0.out]
    go_wp2_with fail
    refine (l4Root_any _ x c zs _ (Nat.le_refl _) (by omega) hall (hp.alloc _) hc hm).mono ?_
    rintro r u ⟨rfl, hb1⟩
    obtain ⟨hc1, hf1⟩ := bcell hb1
    have hz1 := hb1.size
    simp at hz1
    go_wp2
    refine bodyPost_ret (v := .agg #[.int .i64 0, .int .i64 (rtM nS 11 zs)]) (by simp [results, Tryd.results31, go_sem, hc1]) rfl ⟨rfl, ?_⟩
    repeat (first | exact Below.refl _ _ | (refine Below.alloc ?_ (by (try simp) <;> omega) _) | (refine Below.setCell ?_ (by (try simp) <;> omega) _) | (refine Below.trans ?_ (hb1.mono (by (try simp) <;> omega))))
  · have hV : rtV zs = 0 := by unfold rtV; rw [if_neg h0]
    have h0' : (lvF zs != 0) = true := by simpa using h0
    rw [hV]
    clear hV h0
    generalize hcc : lvF zs = cc at *
    have HC : Hid (lvF zs = cc) := hcc
    clear hcc
    go_enter Tryd.func31, Tryd.ntmps31
    go_wp2_with fail
    refine (l4Fault_any x c zs _ (hp.alloc _) hl).mono ?_
    rintro r u ⟨rfl, rfl⟩
    rw [HC.out]
    go_wp2
    refine bodyPost_ret (v := .agg #[.int .i64 cc, .int .i64 0]) (by simp [results, Tryd.results31, go_sem]) rfl ⟨rfl, ?_⟩
    repeat (first | exact Below.refl _ _ | (refine Below.alloc ?_ (by (try simp) <;> omega) _) | (refine Below.setCell ?_ (by (try simp) <;> omega) _))

set_option maxHeartbeats 2000000 in
theorem specPathOf_any (x : Option Addr) (c : Nat) (zs : List Int) (a : Int) (w : World) (hp : Has w .i64 x zs.length zs) (hl : zs.length ≤ 1048576) (hc : zs.length ≤ c) (hm : c ≤ maxLen) :
    Calls Tryd.prog 22 #[.slice x zs.length c, .int .i64 a] w fun r w' => ∃ pa pc, r = .returned (.agg #[.int .i64 (ptC zs a), .slice pa (ptL zs a).length pc]) ∧ w'.ownsRow w.heap.size 2 1 (.slice pa (ptL zs a).length pc) (ptL zs a).length ((ptL zs a).map (.int .i64)) ∧ Below w.heap.size w w' := by
  by_cases h0 : lvF zs = 0
  · obtain ⟨h24, hall⟩ := lvF_zero h0
    have H0 : Hid (lvF zs = 0) := h0
    by_cases hin : 0 ≤ a ∧ a < zs.length
    · have hC : ptC zs a = 0 := by unfold ptC; rw [if_pos h0, if_pos hin]
      have hL : ptL zs a = ptM nS 11 zs a := by unfold ptL; rw [if_pos ⟨h0, hin⟩]
      have hd : decide (0 ≤ a ∧ a ≤ (zs.length : Int) - 1) = true := by simp; omega
      rw [hC, hL]
      obtain ⟨a0, a1⟩ := hin
      clear hC hL h0
      go_enter Tryd.func22, Tryd.ntmps22
      go_wp2_with fail
      refine (l4Fault_any x c zs _ (hp.alloc _) hl).mono ?_
      rintro r u ⟨rfl, rfl⟩
      rw [H0.out]
      go_wp2_with fail
      refine (in_any _ _ _ _).mono ?_
      rintro r u ⟨rfl, rfl⟩
      rw [hd]
      go_wp2_with fail
      refine (l4Path_any _ x c zs a _ (Nat.le_refl _) (by omega) hall a0 a1 (hp.alloc _) hc hm).mono ?_
      rintro r u ⟨pa, pc, rfl, hown, hb1⟩
      obtain ⟨hc1, hf1⟩ := bcell hb1
      have hz1 := hb1.size
      simp at hz1
      have HO : Hid (u.ownsRow (w.heap.size + 1) 2 1 (.slice pa (ptM nS 11 zs a).length pc) (ptM nS 11 zs a).length ((ptM nS 11 zs a).map (.int .i64))) := by
        show World.ownsRow _ _ _ _ _ _ _
        simpa using hown
      clear hown
      go_wp2
      refine bodyPost_ret (v := .agg #[.int .i64 0, .slice pa (ptM nS 11 zs a).length pc]) (by simp [results, Tryd.results22, go_sem, hc1]) rfl ⟨pa, pc, rfl, ?_, ?_⟩
      · have fs : Fr (fun k => k = w.heap.size) u ((u.setCell ⟨w.heap.size, 0, none⟩ (.int .i64 0)).setCell ⟨w.heap.size, 1, none⟩ (.slice pa (ptM nS 11 zs a).length pc)) := by
          refine Fr.setCell (Fr.setCell (Fr.refl _ _) _ _ ?_) _ _ ?_ <;> rfl
        have h5 := own_fr HO.out fs (fun g e1 e2 => by have := (HO.out.lt g e1).1; omega)
        refine ⟨h5.1, ?_⟩
        rcases h5.2 with h6 | ⟨g, cap, cur, e1, e2, e3⟩
        · exact .inl h6
        · exact .inr ⟨g, cap, cur, e1, by omega, e3⟩
      · repeat (first | exact Below.refl _ _ | (refine Below.alloc ?_ (by (try simp) <;> omega) _) | (refine Below.setCell ?_ (by (try simp) <;> omega) _) | (refine Below.trans ?_ (hb1.mono (by (try simp) <;> omega))))
    · have hC : ptC zs a = 3 := by unfold ptC; rw [if_pos h0, if_neg hin]
      have hL : ptL zs a = [] := by unfold ptL; rw [if_neg (fun h => hin h.2)]
      have hd : decide (0 ≤ a ∧ a ≤ (zs.length : Int) - 1) = false := by simp; omega
      rw [hC, hL]
      clear hC hL h0 hin
      go_enter Tryd.func22, Tryd.ntmps22
      go_wp2_with fail
      refine (l4Fault_any x c zs _ (hp.alloc _) hl).mono ?_
      rintro r u ⟨rfl, rfl⟩
      rw [H0.out]
      go_wp2_with fail
      refine (in_any _ _ _ _).mono ?_
      rintro r u ⟨rfl, rfl⟩
      rw [hd]
      go_wp2
      refine bodyPost_ret (v := .agg #[.int .i64 3, .slice none 0 0]) (by simp [results, Tryd.results22, go_sem]) rfl ⟨none, 0, rfl, World.ownsRow_nil _ _ _ _, ?_⟩
      repeat (first | exact Below.refl _ _ | (refine Below.alloc ?_ (by (try simp) <;> omega) _) | (refine Below.setCell ?_ (by (try simp) <;> omega) _))
  · have hC : ptC zs a = lvF zs := by unfold ptC; rw [if_neg h0]
    have hL : ptL zs a = [] := by unfold ptL; rw [if_neg (fun h => h0 h.1)]
    have h0' : (lvF zs != 0) = true := by simpa using h0
    rw [hC, hL]
    clear hC hL h0
    generalize hcc : lvF zs = cc at *
    have HC : Hid (lvF zs = cc) := hcc
    clear hcc
    go_enter Tryd.func22, Tryd.ntmps22
    go_wp2_with fail
    refine (l4Fault_any x c zs _ (hp.alloc _) hl).mono ?_
    rintro r u ⟨rfl, rfl⟩
    rw [HC.out]
    go_wp2
    refine bodyPost_ret (v := .agg #[.int .i64 cc, .slice none 0 0]) (by simp [results, Tryd.results22, go_sem]) rfl ⟨none, 0, rfl, World.ownsRow_nil _ _ _ _, ?_⟩
    repeat (first | exact Below.refl _ _ | (refine Below.alloc ?_ (by (try simp) <;> omega) _) | (refine Below.setCell ?_ (by (try simp) <;> omega) _))

end Go.Proofs.YtkjhcblfkpknlaaDoor
