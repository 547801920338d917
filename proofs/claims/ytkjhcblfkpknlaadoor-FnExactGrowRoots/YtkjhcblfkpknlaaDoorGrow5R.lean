/- Contracts: the model's StepsOf. Contracts: the model's growth, split by split; how many steps it has; its GrowthOf and StepsOf. Contracts: the model's GrowRoots and AcceptGrowth. -/
import Derived.Test.YtkjhcblfkpknlaaDoorGrowD
import Derived.Test.YtkjhcblfkpknlaaDoorSplit
import Derived.Test.YtkjhcblfkpknlaaDoorGrowC
import Derived.Test.YtkjhcblfkpknlaaDoorPath4S
namespace Go.Proofs.YtkjhcblfkpknlaaDoor
open Go.ChangeShapes Go.WideShapes Go.ChangeAt Go.RowKit
set_option linter.unusedVariables false
set_option linter.unusedSimpArgs false

set_option maxHeartbeats 1000000 in
theorem l5Steps_any (a0 s0 : Int) (w : World) (h1 : 1 ≤ a0) (h2 : a0 ≤ s0) (h3 : s0 ≤ 32) :
    Calls Tryd.prog 89 #[.int .i64 a0, .int .i64 s0] w fun r w' => r = .returned (.int .i64 (gsN a0 s0 true)) ∧ w' = w := by
  have hN : gsN a0 s0 true ≤ 6 := gsN_bd 5 a0 s0 true (by omega) h1 h2 (by have : (2 : Int) ^ 5 = 32 := by decide
                                                                           omega)
  go_enter Tryd.func89, Tryd.ntmps89
  go_wp2
  go_loop [0, 1, 5, 6] (fun x y z b => ∃ (a s : Int) (n : Nat) (wh : Bool), 1 ≤ a ∧ a ≤ s ∧ s ≤ 32 ∧ n + gsN a s wh = gsN a0 s0 true ∧ x = .int .i64 a ∧ y = .int .i64 s ∧ z = .int .i64 n ∧ b = .bool wh) (fun _ y _ _ => (intOf y).toNat)
  case atStart => exact ⟨a0, s0, 0, true, h1, h2, h3, by omega, rfl, rfl, rfl, rfl⟩
  case round =>
    obtain ⟨a, s, n, wh, g1, g2, g3, hn, rfl, rfl, rfl, rfl⟩ := hrel
    have hn2 : n ≤ 6 := by omega
    have HN : Hid (n + gsN a s wh = gsN a0 s0 true) := hn
    clear hn hN h1 h2 h3
    by_cases hs : a = s
    · have HL : Hid (gsN a s wh = if wh then 0 else 1) := gsN_eq wh hs
      have hd : (a != s) = false := by simpa using hs
      cases wh
      · go_wp2
        go_ret
        refine ⟨ret_int ?_, rfl⟩
        have := HN.out
        rw [HL.out] at this
        simp at this
        omega
      · go_wp2
        go_ret
        refine ⟨ret_int ?_, rfl⟩
        have := HN.out
        rw [HL.out] at this
        simp at this
        omega
    · have hd : (a != s) = true := by simpa using hs
      have hb := splN_bd (n := s) (by omega) g3
      obtain ⟨q1, q2, q3⟩ := hb
      by_cases ha : a ≤ splN s
      · have HL : Hid (gsN a s wh = gsN a (splN s) wh + 1) := gsN_lo (s := a) (t := s) wh (by omega) ha
        go_wp2_with (go_at_call 76; refine (split_any s _ (by omega) (by omega)).mono ?_; rintro r u2 ⟨rfl, rfl⟩)
        go_round
        case rel => exact ⟨a, splN s, n + 1, wh, g1, ha, by omega, by have := HN.out; rw [HL.out] at this; omega, rfl, rfl, by go_num, rfl⟩
        case measure => simp [intOf]; omega
      · have HL : Hid (gsN a s wh = gsN (a - splN s) (s - splN s) false + 1) := gsN_hi (s := a) (t := s) wh (by omega) ha (by omega)
        go_wp2_with (go_at_call 76; refine (split_any s _ (by omega) (by omega)).mono ?_; rintro r u2 ⟨rfl, rfl⟩)
        go_round
        case rel => exact ⟨a - splN s, s - splN s, n + 1, false, by omega, by omega, by omega, by have := HN.out; rw [HL.out] at this; omega, rfl, rfl, by go_num, rfl⟩
        case measure => simp [intOf]; omega

theorem l5Sizes_any (s t : Int) (w : World) :
    Calls Tryd.prog 86 #[.int .i64 s, .int .i64 t] w fun r w' => r = .returned (.bool (decide ((1 ≤ t ∧ t ≤ 24) ∧ 1 ≤ s ∧ s ≤ t))) ∧ w' = w := by
  by_cases h1 : 1 ≤ t ∧ t ≤ 24
  · have d1 : decide (1 ≤ t ∧ t ≤ 24) = true := by simpa using h1
    have e : decide ((1 ≤ t ∧ t ≤ 24) ∧ 1 ≤ s ∧ s ≤ t) = decide (1 ≤ s ∧ s ≤ t) := by simp [h1]
    rw [e]
    clear e
    go_enter Tryd.func86, Tryd.ntmps86
    go_wp2_with fail
    refine (in_any _ _ _ _).mono ?_
    rintro r u ⟨rfl, rfl⟩
    rw [d1]
    go_wp2_with fail
    refine (in_any _ _ _ _).mono ?_
    rintro r u ⟨rfl, rfl⟩
    go_wp2
    go_ret
    refine ⟨?_, rfl⟩
    simp
  · have d1 : decide (1 ≤ t ∧ t ≤ 24) = false := by simpa using h1
    have e : decide ((1 ≤ t ∧ t ≤ 24) ∧ 1 ≤ s ∧ s ≤ t) = false := by simp; omega
    rw [e]
    clear e
    go_enter Tryd.func86, Tryd.ntmps86
    go_wp2_with fail
    refine (in_any _ _ _ _).mono ?_
    rintro r u ⟨rfl, rfl⟩
    rw [d1]
    go_wp2
    go_ret
    exact ⟨rfl, rfl⟩

set_option maxHeartbeats 1000000 in
theorem specStepsOf_any (s t : Int) (w : World) :
    Calls Tryd.prog 53 #[.int .i64 s, .int .i64 t] w fun r w' => r = .returned (.agg #[.int .i64 (spC s t), .int .i64 (spV s t)]) ∧ Below w.heap.size w w' := by
  by_cases h : (1 ≤ t ∧ t ≤ 24) ∧ 1 ≤ s ∧ s ≤ t
  · have d1 : decide ((1 ≤ t ∧ t ≤ 24) ∧ 1 ≤ s ∧ s ≤ t) = true := by simpa using h
    have e1 : spC s t = 0 := by unfold spC; rw [if_pos h]
    have e2 : spV s t = (gsN s t true : Nat) := by unfold spV; rw [if_pos h]
    rw [e1, e2]
    clear e1 e2
    obtain ⟨⟨g1, g2⟩, g3, g4⟩ := h
    go_enter Tryd.func53, Tryd.ntmps53
    go_wp2_with (first | (go_at_call 86; refine (l5Sizes_any s t _).mono ?_; rintro e u ⟨rfl, rfl⟩; rw [d1]) | (go_at_call 89; refine (l5Steps_any s t _ (by omega) (by omega) (by omega)).mono ?_; rintro e u ⟨rfl, rfl⟩))
    refine bodyPost_ret (v := .agg #[.int .i64 0, .int .i64 (gsN s t true : Nat)]) (by simp [results, Tryd.results53, go_sem]) rfl ⟨rfl, ?_⟩
    repeat (first | exact Below.refl _ _ | (refine Below.alloc ?_ (by (try simp) <;> omega) _) | (refine Below.setCell ?_ (by (try simp) <;> omega) _))
  · have d1 : decide ((1 ≤ t ∧ t ≤ 24) ∧ 1 ≤ s ∧ s ≤ t) = false := by simpa using h
    have e1 : spC s t = 3 := by unfold spC; rw [if_neg h]
    have e2 : spV s t = 0 := by unfold spV; rw [if_neg h]
    rw [e1, e2]
    clear e1 e2 h
    go_enter Tryd.func53, Tryd.ntmps53
    go_wp2_with (first | (go_at_call 86; refine (l5Sizes_any s t _).mono ?_; rintro e u ⟨rfl, rfl⟩; rw [d1]) | fail)
    refine bodyPost_ret (v := .agg #[.int .i64 3, .int .i64 0]) (by simp [results, Tryd.results53, go_sem]) rfl ⟨rfl, ?_⟩
    repeat (first | exact Below.refl _ _ | (refine Below.alloc ?_ (by (try simp) <;> omega) _) | (refine Below.setCell ?_ (by (try simp) <;> omega) _))

end Go.Proofs.YtkjhcblfkpknlaaDoor

namespace Go.Proofs.YtkjhcblfkpknlaaDoor
open Go.ChangeShapes Go.WideShapes Go.ChangeAt Go.RowKit
set_option linter.unusedVariables false
set_option linter.unusedSimpArgs false

theorem grM_len (f : Int → Int → Int) (e : Int) (n : Nat) : ∀ (xs : List Int) (s : Int) (wh : Bool), xs.length ≤ n → (grM f e xs s wh).length ≤ xs.length + 1 := by
  induction n with
  | zero =>
    intro xs s wh h
    rw [grM, dif_pos (by omega)]
    cases wh <;> simp
  | succ n ih =>
    intro xs s wh h
    rw [grM]
    split
    · cases wh <;> simp
    · have hp := splN_pos (xs.length : Int)
      have hlt := splN_lt (n := (xs.length : Int)) (by omega)
      split
      · have := ih (xs.take (splN xs.length).toNat) s wh (by simp; omega)
        simp at this ⊢
        omega
      · have := ih (xs.drop (splN xs.length).toNat) (s - splN xs.length) false (by simp; omega)
        simp at this ⊢
        omega

set_option maxRecDepth 100000 in
set_option maxHeartbeats 4000000 in
theorem l5Growth_any (n : Nat) : ∀ (x : Option Addr) (c : Nat) (zs : List Int) (a : Int) (wh : Bool) (w : World), zs.length ≤ n → zs.length ≤ 32 → allS zs = true → 1 ≤ a → a ≤ zs.length → Has w .i64 x zs.length zs → zs.length ≤ c → c ≤ maxLen →
    Calls Tryd.prog 93 #[.slice x zs.length c, .int .i64 a, .bool wh] w fun r w' => ∃ pa pc, r = .returned (.slice pa (grM nS 11 zs a wh).length pc) ∧ w'.ownsRow w.heap.size 2 1 (.slice pa (grM nS 11 zs a wh).length pc) (grM nS 11 zs a wh).length ((grM nS 11 zs a wh).map (.int .i64)) ∧ Below w.heap.size w w' := by
  obtain ⟨i0, hi0, hz0, hz1, hz2⟩ := info_parts info64
  induction n with
  | zero => intro x c zs a wh w hn h32 hall ha0 ha1 hp hc hm; omega
  | succ n ih =>
    intro x c zs a wh w hn h32 hall ha0 ha1 hp hc hm
    unfold maxLen at hm
    by_cases h1 : a = zs.length
    · rw [grM_eq nS 11 wh h1]
      have h1' : ((a == (zs.length : Int))) = true := by simpa using h1
      subst h1
      cases wh
      · simp only [Bool.false_eq_true, if_false]
        have hb2' := rtM_bd _ zs (Nat.le_refl _) hall
        have RH : Hid (Calls Tryd.prog 69 #[.slice x zs.length c] w fun r w' => r = .returned (.int .i64 (rtM nS 11 zs)) ∧ Below w.heap.size w w') := l4Root_any _ x c zs _ (Nat.le_refl _) h32 hall hp hc (by unfold maxLen; omega)
        generalize rtM nS 11 zs = rv at *
        go_enter Tryd.func93, Tryd.ntmps93
        go_wp2_with fail
        refine RH.out.mono ?_
        rintro r u ⟨rfl, hb1⟩
        have hz := hb1.size
        go_wp2
        go_ret
        refine ⟨some ⟨u.heap.size, 0, none⟩, 1, rfl, World.ownsRow_lit u #[.int .i64 rv] 1 hb1.size (by unfold maxLen; omega) rfl, hb1.alloc hb1.size _⟩
      · go_enter Tryd.func93, Tryd.ntmps93
        go_wp2
        go_ret
        refine ⟨some ⟨w.heap.size, 0, none⟩, 0, rfl, ⟨by simp, .inr ⟨w.heap.size, 0, #[], rfl, Nat.le_refl _, ?_, Nat.le_refl _, by unfold maxLen; omega, rfl, rfl⟩⟩, ?_⟩
        · exact Blk.new w #[] 2
        · repeat (first | exact Below.refl _ _ | (refine Below.alloc ?_ (by (try simp) <;> omega) _) | (refine Below.setCell ?_ (by (try simp) <;> omega) _))
    · obtain ⟨b1, o1, hx, hb1, hcell⟩ : ∃ b off, x = some ⟨b, off, none⟩ ∧ b < w.heap.size ∧ ∀ i, i < zs.length → w.cell? ⟨b, off + i, none⟩ = some (.int .i64 (zs.getD i 0)) := by
        rcases hp.2.2 with c | h
        · omega
        · exact h
      subst hx
      have hs' : (2 : Int) ≤ zs.length := by omega
      obtain ⟨q1, q2, q3⟩ := splN_bd hs' (by omega)
      obtain ⟨m, hm1⟩ : ∃ m : Nat, splN (zs.length : Int) = m := ⟨(splN (zs.length : Int)).toNat, by omega⟩
      have tl : (zs.take m).length = m := by simp; omega
      have dl : (zs.drop m).length = zs.length - m := by simp
      have hi := has_init hp m (by omega)
      have hr := has_rest hp m (by omega)
      have HM : Hid (splN (zs.length : Int) = m) := hm1
      have m1 : (1 : Int) ≤ m := by omega
      have m2 : (m : Int) < zs.length := by omega
      have m3 : (zs.length : Int) ≤ c := by omega
      have m4 : ¬ (c : Int) = m := by omega
      have m5 : (0 : Int) ≤ m := by omega
      have m8 : ¬ c = m := by omega
      have m6 : (m : Int) ≤ c := by omega
      have m7 : (m : Int) ≤ zs.length := by omega
      have h1' : (a == (zs.length : Int)) = false := by simpa using h1
      have h1n : ¬ a = (zs.length : Int) := h1
      have D0 : Below w.heap.size w w.drew := (Below.refl _ _).drew
      by_cases ha : a ≤ m
      · have EQ : Hid (grM nS 11 zs a wh = grM nS 11 (zs.take m) a wh ++ [rtM nS 11 (zs.drop m)]) := by
          show _ = _
          rw [grM_lo nS 11 wh (by omega) (by rw [hm1]; exact ha), hm1]; rfl
        have hb2' := rtM_bd _ (zs.drop m) (Nat.le_refl _) (allS_drop hall m)
        have LN := grM_len nS 11 _ (zs.take m) a wh (Nat.le_refl _)
        have IH1 := ih (some ⟨b1, o1, none⟩) c (zs.take m) a wh w.drew (by omega) (by omega) (allS_take hall m) ha0 (by omega) (hi.below D0 (Nat.le_refl _)) (by omega) (by unfold maxLen; omega)
        rw [tl] at IH1 LN
        have RH : Hid (∀ u : World, Below w.heap.size w u → Calls Tryd.prog 69 #[.slice (some ⟨b1, o1 + m, none⟩) (zs.length - m) (c - m)] u fun r w' => r = .returned (.int .i64 (rtM nS 11 (zs.drop m))) ∧ Below u.heap.size u w') := by
          intro u hu
          have := l4Root_any _ (some ⟨b1, o1 + m, none⟩) (c - m) (zs.drop m) u (Nat.le_refl _) (by omega) (allS_drop hall m) (hr.below hu (Nat.le_refl _)) (by omega) (by unfold maxLen; omega)
          rw [dl] at this
          exact this
        have IHH : Hid (Calls Tryd.prog 93 #[.slice (some ⟨b1, o1, none⟩) m c, .int .i64 a, .bool wh] w.drew fun r w' => ∃ pa pc, r = .returned (.slice pa (grM nS 11 (zs.take m) a wh).length pc) ∧ w'.ownsRow w.drew.heap.size 2 1 (.slice pa (grM nS 11 (zs.take m) a wh).length pc) (grM nS 11 (zs.take m) a wh).length ((grM nS 11 (zs.take m) a wh).map (.int .i64)) ∧ Below w.drew.heap.size w.drew w') := IH1
        rw [EQ.out]
        clear EQ IH1 ih hi hr tl dl hcell hm1 hp h1 q1 q2 q3
        generalize grM nS 11 (zs.take m) a wh = ps at *
        generalize rtM nS 11 (zs.drop m) = rv at *
        go_enter Tryd.func93, Tryd.ntmps93
        go_upto_region 8 with (go_at_call 76; refine (split_any zs.length _ (by omega) (by omega)).mono ?_; rintro r u2 ⟨rfl, rfl⟩; rw [HM.out])
        go_region_held3 (fun _ => True) (trivial) (first | (go_at_call 93; refine IHH.out.mono ?_; rintro r u3 ⟨pa, pc, rfl, O3, hb3⟩) | (go_at_call 69; refine (RH.out _ (D0.trans (hb3.mono D0.size))).mono ?_; rintro r u4 ⟨rfl, hb4⟩) | (refine step_app1 rfl _ _ 24 rfl u2.heap.size 2 i0 Tryd.underlying24 hi0 hz0 hz1 hz2 (.slice pa ps.length pc) ps.length (ps.map (.int .i64)) rfl ((own_below O3 hb4).alloc _) u4.heap.size 1 rv rfl ?_ ?_ ?_ ?_; (simp [go_sem]); omega; exact (Nat.le_trans (Nat.le_trans hb3.size hb4.size) (by rw [World.size_alloc]; exact Nat.le_succ _)); intro g' c' w5 hown hgrow hnew) | fail)
        go_wp2
        go_ret
        have B5 : Below u2.heap.size u2 (u4.alloc (.cells #[.int .i64 rv] 2)) := ((D0.trans (hb3.mono D0.size)).trans (hb4.mono hb3.size)).alloc (Nat.le_trans hb3.size hb4.size) _
        refine ⟨some ⟨g', 0, none⟩, c', ?_, ?_, B5.grown hgrow B5.size (fun j e => (O3.lt j e).1)⟩
        · rw [List.length_append]; rfl
        · rw [List.length_append, List.map_append]; exact hown
      · have EQ : Hid (grM nS 11 zs a wh = grM nS 11 (zs.drop m) (a - m) false ++ [rtM nS 11 (zs.take m)]) := by
          show _ = _
          rw [grM_hi nS 11 wh (by omega) (by rw [hm1]; exact ha) (by omega), hm1]; rfl
        have hb2' := rtM_bd _ (zs.take m) (Nat.le_refl _) (allS_take hall m)
        have LN := grM_len nS 11 _ (zs.drop m) (a - m) false (Nat.le_refl _)
        have IH1 := ih (some ⟨b1, o1 + m, none⟩) (c - m) (zs.drop m) (a - m) false w.drew (by omega) (by omega) (allS_drop hall m) (by omega) (by omega) (hr.below D0 (Nat.le_refl _)) (by omega) (by unfold maxLen; omega)
        rw [dl] at IH1 LN
        have RH : Hid (∀ u : World, Below w.heap.size w u → Calls Tryd.prog 69 #[.slice (some ⟨b1, o1, none⟩) m c] u fun r w' => r = .returned (.int .i64 (rtM nS 11 (zs.take m))) ∧ Below u.heap.size u w') := by
          intro u hu
          have := l4Root_any _ (some ⟨b1, o1, none⟩) c (zs.take m) u (Nat.le_refl _) (by omega) (allS_take hall m) (hi.below hu (Nat.le_refl _)) (by omega) (by unfold maxLen; omega)
          rw [tl] at this
          exact this
        have IHH : Hid (Calls Tryd.prog 93 #[.slice (some ⟨b1, o1 + m, none⟩) (zs.length - m) (c - m), .int .i64 (a - m), .bool false] w.drew fun r w' => ∃ pa pc, r = .returned (.slice pa (grM nS 11 (zs.drop m) (a - m) false).length pc) ∧ w'.ownsRow w.drew.heap.size 2 1 (.slice pa (grM nS 11 (zs.drop m) (a - m) false).length pc) (grM nS 11 (zs.drop m) (a - m) false).length ((grM nS 11 (zs.drop m) (a - m) false).map (.int .i64)) ∧ Below w.drew.heap.size w.drew w') := IH1
        have hwr : IntKind.i64.wrap (a - (m : Int)) = a - m := by rw [IntKind.wrap_i64]; omega
        rw [EQ.out]
        clear EQ IH1 ih hi hr tl dl hcell hm1 hp h1 q1 q2 q3
        generalize grM nS 11 (zs.drop m) (a - m) false = ps at *
        generalize rtM nS 11 (zs.take m) = rv at *
        go_enter Tryd.func93, Tryd.ntmps93
        go_upto_region 9 with (go_at_call 76; refine (split_any zs.length _ (by omega) (by omega)).mono ?_; rintro r u2 ⟨rfl, rfl⟩; rw [HM.out])
        go_region_held3 (fun _ => True) (trivial) (first | (go_at_call 93; refine IHH.out.mono ?_; rintro r u3 ⟨pa, pc, rfl, O3, hb3⟩) | (go_at_call 69; refine (RH.out _ (D0.trans (hb3.mono D0.size))).mono ?_; rintro r u4 ⟨rfl, hb4⟩) | (refine step_app1 rfl _ _ 24 rfl u2.heap.size 2 i0 Tryd.underlying24 hi0 hz0 hz1 hz2 (.slice pa ps.length pc) ps.length (ps.map (.int .i64)) rfl ((own_below O3 hb4).alloc _) u4.heap.size 1 rv rfl ?_ ?_ ?_ ?_; (simp [go_sem]); omega; exact (Nat.le_trans (Nat.le_trans hb3.size hb4.size) (by rw [World.size_alloc]; exact Nat.le_succ _)); intro g' c' w5 hown hgrow hnew) | fail)
        go_wp2
        go_ret
        have B5 : Below u2.heap.size u2 (u4.alloc (.cells #[.int .i64 rv] 2)) := ((D0.trans (hb3.mono D0.size)).trans (hb4.mono hb3.size)).alloc (Nat.le_trans hb3.size hb4.size) _
        refine ⟨some ⟨g', 0, none⟩, c', ?_, ?_, B5.grown hgrow B5.size (fun j e => (O3.lt j e).1)⟩
        · rw [List.length_append]; rfl
        · rw [List.length_append, List.map_append]; exact hown

set_option maxHeartbeats 2000000 in
theorem specGrowthOf_any (x : Option Addr) (c : Nat) (zs : List Int) (a : Int) (w : World) (hp : Has w .i64 x zs.length zs) (hl : zs.length ≤ 1048576) (hc : zs.length ≤ c) (hm : c ≤ maxLen) :
    Calls Tryd.prog 54 #[.slice x zs.length c, .int .i64 a] w fun r w' => ∃ pa pc, r = .returned (.agg #[.int .i64 (gwC zs a), .slice pa (gwL zs a).length pc]) ∧ w'.ownsRow w.heap.size 2 1 (.slice pa (gwL zs a).length pc) (gwL zs a).length ((gwL zs a).map (.int .i64)) ∧ Below w.heap.size w w' := by
  by_cases h0 : lvF zs = 0
  · obtain ⟨h24, hall⟩ := lvF_zero h0
    have H0 : Hid (lvF zs = 0) := h0
    by_cases hin : 1 ≤ a ∧ a ≤ zs.length
    · have hC : gwC zs a = 0 := by unfold gwC; rw [if_pos h0, if_pos hin]
      have hL : gwL zs a = grM nS 11 zs a true := by unfold gwL; rw [if_pos ⟨h0, hin⟩]
      have hd : decide (1 ≤ a ∧ a ≤ (zs.length : Int)) = true := by simp; omega
      rw [hC, hL]
      obtain ⟨a0, a1⟩ := hin
      clear hC hL h0
      go_enter Tryd.func54, Tryd.ntmps54
      go_wp2_with fail
      refine (l4Fault_any x c zs _ (hp.alloc _) hl).mono ?_
      rintro r u ⟨rfl, rfl⟩
      rw [H0.out]
      go_wp2_with fail
      refine (in_any _ _ _ _).mono ?_
      rintro r u ⟨rfl, rfl⟩
      rw [hd]
      go_wp2_with fail
      refine (l5Growth_any _ x c zs a true _ (Nat.le_refl _) (by omega) hall a0 a1 (hp.alloc _) hc hm).mono ?_
      rintro r u ⟨pa, pc, rfl, hown, hb1⟩
      obtain ⟨hc1, hf1⟩ := bcell hb1
      have hz1 := hb1.size
      simp at hz1
      have HO : Hid (u.ownsRow (w.heap.size + 1) 2 1 (.slice pa (grM nS 11 zs a true).length pc) (grM nS 11 zs a true).length ((grM nS 11 zs a true).map (.int .i64))) := by
        show World.ownsRow _ _ _ _ _ _ _
        simpa using hown
      clear hown
      go_wp2
      refine bodyPost_ret (v := .agg #[.int .i64 0, .slice pa (grM nS 11 zs a true).length pc]) (by simp [results, Tryd.results54, go_sem, hc1]) rfl ⟨pa, pc, rfl, ?_, ?_⟩
      · have fs : Fr (fun k => k = w.heap.size) u ((u.setCell ⟨w.heap.size, 0, none⟩ (.int .i64 0)).setCell ⟨w.heap.size, 1, none⟩ (.slice pa (grM nS 11 zs a true).length pc)) := by
          refine Fr.setCell (Fr.setCell (Fr.refl _ _) _ _ ?_) _ _ ?_ <;> rfl
        have h5 := own_fr HO.out fs (fun g e1 e2 => by have := (HO.out.lt g e1).1; omega)
        refine ⟨h5.1, ?_⟩
        rcases h5.2 with h6 | ⟨g, cap, cur, e1, e2, e3⟩
        · exact .inl h6
        · exact .inr ⟨g, cap, cur, e1, by omega, e3⟩
      · repeat (first | exact Below.refl _ _ | (refine Below.alloc ?_ (by (try simp) <;> omega) _) | (refine Below.setCell ?_ (by (try simp) <;> omega) _) | (refine Below.trans ?_ (hb1.mono (by (try simp) <;> omega))))
    · have hC : gwC zs a = 3 := by unfold gwC; rw [if_pos h0, if_neg hin]
      have hL : gwL zs a = [] := by unfold gwL; rw [if_neg (fun h => hin h.2)]
      have hd : decide (1 ≤ a ∧ a ≤ (zs.length : Int)) = false := by simp; omega
      rw [hC, hL]
      clear hC hL h0 hin
      go_enter Tryd.func54, Tryd.ntmps54
      go_wp2_with fail
      refine (l4Fault_any x c zs _ (hp.alloc _) hl).mono ?_
      rintro r u ⟨rfl, rfl⟩
      rw [H0.out]
      go_wp2_with fail
      refine (in_any _ _ _ _).mono ?_
      rintro r u ⟨rfl, rfl⟩
      rw [hd]
      go_wp2
      refine bodyPost_ret (v := .agg #[.int .i64 3, .slice none 0 0]) (by simp [results, Tryd.results54, go_sem]) rfl ⟨none, 0, rfl, World.ownsRow_nil _ _ _ _, ?_⟩
      repeat (first | exact Below.refl _ _ | (refine Below.alloc ?_ (by (try simp) <;> omega) _) | (refine Below.setCell ?_ (by (try simp) <;> omega) _))
  · have hC : gwC zs a = lvF zs := by unfold gwC; rw [if_neg h0]
    have hL : gwL zs a = [] := by unfold gwL; rw [if_neg (fun h => h0 h.1)]
    have h0' : (lvF zs != 0) = true := by simpa using h0
    rw [hC, hL]
    clear hC hL h0
    generalize hcc : lvF zs = cc at *
    have HC : Hid (lvF zs = cc) := hcc
    clear hcc
    go_enter Tryd.func54, Tryd.ntmps54
    go_wp2_with fail
    refine (l4Fault_any x c zs _ (hp.alloc _) hl).mono ?_
    rintro r u ⟨rfl, rfl⟩
    rw [HC.out]
    go_wp2
    refine bodyPost_ret (v := .agg #[.int .i64 cc, .slice none 0 0]) (by simp [results, Tryd.results54, go_sem]) rfl ⟨none, 0, rfl, World.ownsRow_nil _ _ _ _, ?_⟩
    repeat (first | exact Below.refl _ _ | (refine Below.alloc ?_ (by (try simp) <;> omega) _) | (refine Below.setCell ?_ (by (try simp) <;> omega) _))

end Go.Proofs.YtkjhcblfkpknlaaDoor

namespace Go.Proofs.YtkjhcblfkpknlaaDoor
open Go.ChangeShapes Go.WideShapes Go.ChangeAt Go.RowKit
set_option linter.unusedVariables false
set_option linter.unusedSimpArgs false

theorem grC_bad {s t r : Int} {p : List Int} (h : ¬ (((1 ≤ t ∧ t ≤ 24) ∧ 1 ≤ s ∧ s ≤ t) ∧ 0 ≤ r ∧ r ≤ 65520)) : grC s t r p = 3 := by unfold grC; rw [if_neg h]
theorem grC_many {s t r : Int} {p : List Int} (h : ((1 ≤ t ∧ t ≤ 24) ∧ 1 ≤ s ∧ s ≤ t) ∧ 0 ≤ r ∧ r ≤ 65520) (h6 : 6 < p.length) : grC s t r p = 2 := by unfold grC; rw [if_pos h, if_pos h6]
theorem grC_sum {s t r : Int} {p : List Int} (h : ((1 ≤ t ∧ t ≤ 24) ∧ 1 ≤ s ∧ s ≤ t) ∧ 0 ≤ r ∧ r ≤ 65520) (h6 : ¬ 6 < p.length) (ha : allS p = false) : grC s t r p = 3 := by unfold grC; rw [if_pos h, if_neg h6, ha]; rfl
theorem grC_len {s t r : Int} {p : List Int} (h : ((1 ≤ t ∧ t ≤ 24) ∧ 1 ≤ s ∧ s ≤ t) ∧ 0 ≤ r ∧ r ≤ 65520) (h6 : ¬ 6 < p.length) (ha : allS p = true) : grC s t r p = if p.length = gsN s t true then 0 else 8 := by unfold grC; rw [if_pos h, if_neg h6, ha]; rfl
theorem grV_of {s t r : Int} {p : List Int} (h : grC s t r p ≠ 0) : grV s t r p = (0, 0) := by unfold grV; rw [if_neg h]

set_option maxHeartbeats 4000000 in
theorem l5Roots_any (n : Nat) : ∀ (s t : Int) (wh : Bool) (r : Int) (x : Option Addr) (c : Nat) (p : List Int) (w : World), t.toNat ≤ n → 1 ≤ s → s ≤ t → t ≤ 32 → (wh = true → 0 ≤ r ∧ r ≤ 65520) → p.length = gsN s t wh → allS p = true → Has w .i64 x p.length p → p.length ≤ c → c ≤ maxLen →
    Calls Tryd.prog 90 #[.int .i64 s, .int .i64 t, .bool wh, .int .i64 r, .slice x p.length c] w fun e w' => e = .returned (.tuple #[.int .i64 (grR nS s t wh r p).1, .int .i64 (grR nS s t wh r p).2]) ∧ Below w.heap.size w w' := by
  induction n with
  | zero => intro s t wh r x c p w h _ _; omega
  | succ n ih =>
    intro s t wh r x c p w hn h0 h1 h2 hr hlen hall hp hc hm
    unfold maxLen at hm
    by_cases hs : s = t
    · have e := grR_eq nS wh r p hs
      rw [gsN_eq wh hs] at hlen
      subst hs
      have hss : (s == s) = true := by simp
      rw [e]
      clear e
      cases wh
      · simp only [Bool.false_eq_true, if_false] at hlen ⊢
        obtain ⟨b1, o1, hx, hb1, hcell⟩ : ∃ b off, x = some ⟨b, off, none⟩ ∧ b < w.heap.size ∧ ∀ i, i < p.length → w.cell? ⟨b, off + i, none⟩ = some (.int .i64 (p.getD i 0)) := by
          rcases hp.2.2 with c | h
          · omega
          · exact h
        subst hx
        have c0 := hcell 0 (by omega)
        rw [Nat.add_zero] at c0
        generalize p.getD 0 0 = v at *
        rw [hlen]
        clear hcell ih
        go_enter Tryd.func90, Tryd.ntmps90
        go_wp2_with fail
        go_quiet (fail)
        go_wp2
        exact bodyPost_ret (v := .tuple #[.int .i64 v, .int .i64 v]) (by simp [results, Tryd.results90, go_sem, nS]) rfl ⟨rfl, below_drewN (Below.refl _ _) _⟩
      · go_enter Tryd.func90, Tryd.ntmps90
        go_wp2
        exact bodyPost_ret (v := .tuple #[.int .i64 r, .int .i64 r]) (by simp [results, Tryd.results90, go_sem, nS]) rfl ⟨rfl, Below.refl _ _⟩
    · have hs' : 2 ≤ t := by omega
      obtain ⟨q1, q2, q3⟩ := splN_bd hs' h2
      have hst : (s == t) = false := by simpa using hs
      have hpos : 0 < p.length := by
        by_cases ha : s ≤ splN t
        · rw [hlen, gsN_lo wh hs' ha]; omega
        · rw [hlen, gsN_hi wh hs' ha (by omega)]; omega
      obtain ⟨m, hm1⟩ : ∃ m, p.length = m + 1 := ⟨p.length - 1, by omega⟩
      have hdl : p.dropLast = p.take m := by rw [List.dropLast_eq_take, hm1]; rfl
      have hgl : p.getLastD 0 = p[m]'(by omega) := by
        rw [List.getLastD_eq_getLast?, List.getLast?_eq_getElem?]
        simp [hm1]
      have hlast := allS_get hall m (by omega)
      have hi := hp.init m (by omega)
      have hil : (p.take m).length = m := by simp; omega
      obtain ⟨b1, o1, hx, hb1, hcell⟩ : ∃ b off, x = some ⟨b, off, none⟩ ∧ b < w.heap.size ∧ ∀ i, i < p.length → w.cell? ⟨b, off + i, none⟩ = some (.int .i64 (p.getD i 0)) := by
        rcases hp.2.2 with c | h
        · omega
        · exact h
      subst hx
      have e1 : w.cell? ⟨b1, o1 + m, none⟩ = some (.int .i64 (p[m]'(by omega))) := by rw [hcell m (by omega)]; simp [List.getD, hm1]
      have FC : ∀ wx : World, Below w.heap.size w wx → wx.cell? ⟨b1, o1 + m, none⟩ = some (.int .i64 (p[m]'(by omega))) := fun wx h => (h.cell (p := ⟨b1, o1 + m, none⟩) hb1).trans e1
      generalize hv : p[m]'(by omega) = v at *
      by_cases ha : s ≤ splN t
      · have EQ : Hid (grR nS s t wh r p = ((grR nS s (splN t) wh r (p.take m)).1, nS (grR nS s (splN t) wh r (p.take m)).2 v)) := by
          show _ = _
          rw [grR_lo nS wh r p hs' ha, hdl, hgl]
        have hl2 : (p.take m).length = gsN s (splN t) wh := by rw [hil]; rw [gsN_lo wh hs' ha] at hlen; omega
        have hbd := grR_bd _ s (splN t) wh r (p.take m) (Nat.le_refl _) h0 ha (by omega) hr hl2 (allS_take hall m)
        have IH : Hid (∀ wx : World, Below w.heap.size w wx → Calls Tryd.prog 90 #[.int .i64 s, .int .i64 (splN t), .bool wh, .int .i64 r, .slice (some ⟨b1, o1, none⟩) m c] wx fun e w' => e = .returned (.tuple #[.int .i64 (grR nS s (splN t) wh r (p.take m)).1, .int .i64 (grR nS s (splN t) wh r (p.take m)).2]) ∧ Below wx.heap.size wx w') := by
          intro wx hwx
          have := ih s (splN t) wh r (some ⟨b1, o1, none⟩) c (p.take m) wx (by omega) h0 ha (by omega) hr hl2 (allS_take hall m) (hi.below hwx (Nat.le_refl _)) (by omega) (by unfold maxLen; omega)
          rw [hil] at this
          exact this
        rw [EQ.out, hm1]
        generalize grR nS s (splN t) wh r (p.take m) = cv at EQ hbd IH
        obtain ⟨ca, cb⟩ := cv
        simp only at hbd IH ⊢
        have hm2 : (m : Int) ≤ c := by omega
        have hc' : m + 1 ≤ c := by omega
        clear EQ hv hdl hgl hi hil hcell e1 hall hp hlen hc hpos ih hm1 hl2
        go_enter Tryd.func90, Tryd.ntmps90
        go_wp2_with fail
        refine (split_any t _ (by omega) (by omega)).mono ?_
        rintro e u ⟨rfl, rfl⟩
        go_wp2_with fail
        refine (IH.out _ (Below.refl _ _)).mono ?_
        rintro e u2 ⟨rfl, hb2⟩
        have c2 := FC u2 hb2
        have z2 := hb2.size
        clear FC IH
        go_wp2_with fail
        refine (l2NodeSum_any cb v _ hbd.2.1 (by omega) hlast.1 (by omega)).mono ?_
        rintro e u3 ⟨rfl, hb3⟩
        go_wp2
        exact bodyPost_ret (v := .tuple #[.int .i64 ca, .int .i64 (nS cb v)]) (by simp [results, Tryd.results90, go_sem, nS]) rfl ⟨rfl, hb2.trans (hb3.mono hb2.size)⟩
      · have EQ : Hid (grR nS s t wh r p = (nS v (grR nS (s - splN t) (t - splN t) false r (p.take m)).1, nS v (grR nS (s - splN t) (t - splN t) false r (p.take m)).2)) := by
          show _ = _
          rw [grR_hi nS wh r p hs' ha (by omega), hdl, hgl]
        have hl2 : (p.take m).length = gsN (s - splN t) (t - splN t) false := by rw [hil]; rw [gsN_hi wh hs' ha (by omega)] at hlen; omega
        have hbd := grR_bd _ (s - splN t) (t - splN t) false r (p.take m) (Nat.le_refl _) (by omega) (by omega) (by omega) (by simp) hl2 (allS_take hall m)
        have IH : Hid (∀ wx : World, Below w.heap.size w wx → Calls Tryd.prog 90 #[.int .i64 (s - splN t), .int .i64 (t - splN t), .bool false, .int .i64 r, .slice (some ⟨b1, o1, none⟩) m c] wx fun e w' => e = .returned (.tuple #[.int .i64 (grR nS (s - splN t) (t - splN t) false r (p.take m)).1, .int .i64 (grR nS (s - splN t) (t - splN t) false r (p.take m)).2]) ∧ Below wx.heap.size wx w') := by
          intro wx hwx
          have := ih (s - splN t) (t - splN t) false r (some ⟨b1, o1, none⟩) c (p.take m) wx (by omega) (by omega) (by omega) (by omega) (by simp) hl2 (allS_take hall m) (hi.below hwx (Nat.le_refl _)) (by omega) (by unfold maxLen; omega)
          rw [hil] at this
          exact this
        rw [EQ.out, hm1]
        generalize grR nS (s - splN t) (t - splN t) false r (p.take m) = cv at EQ hbd IH
        obtain ⟨ca, cb⟩ := cv
        simp only at hbd IH ⊢
        have hm2 : (m : Int) ≤ c := by omega
        have hc' : m + 1 ≤ c := by omega
        have w1 : IntKind.i64.wrap (s - splN t) = s - splN t := by rw [IntKind.wrap_i64]; omega
        have w2 : IntKind.i64.wrap (t - splN t) = t - splN t := by rw [IntKind.wrap_i64]; omega
        clear EQ hv hdl hgl hi hil hcell e1 hall hp hlen hc hpos ih hm1 hl2
        go_enter Tryd.func90, Tryd.ntmps90
        go_wp2_with fail
        refine (split_any t _ (by omega) (by omega)).mono ?_
        rintro e u ⟨rfl, rfl⟩
        go_wp2_with fail
        refine (IH.out _ (Below.refl _ _)).mono ?_
        rintro e u2 ⟨rfl, hb2⟩
        have c2 := FC u2 hb2
        have z2 := hb2.size
        clear FC IH
        go_wp2_with fail
        have hne : Nonempty (KeptW u2) := ⟨⟨u2, Below.refl _ _⟩⟩
        have K1 := KeptW.cell c2 (Nat.lt_of_lt_of_le hb1 z2)
        refine wp_region_kept (by kernel_rfl) (by kernel_rfl) ?_
        iterate 14 (go_big_quiet_step ((first | (go_at_call_of 99 (Value.int .i64 ca); exact KeptW.calls (l2NodeSum_any v ca _ hlast.1 (by omega) hbd.1.1 (by omega))) | (go_at_call_of 99 (Value.int .i64 cb); exact KeptW.calls (l2NodeSum_any v cb _ hlast.1 (by omega) hbd.2.1 (by omega))))))
        refine wpQuiet_nil ?_
        rintro _ ⟨d, rfl⟩
        go_wp2
        exact bodyPost_ret (v := .tuple #[.int .i64 (nS v ca), .int .i64 (nS v cb)]) (by simp [results, Tryd.results90, go_sem, nS]) rfl ⟨rfl, hb2.trans (d.hb.mono hb2.size)⟩

set_option maxHeartbeats 2000000 in
theorem specGrowRoots_any (s t r : Int) (x : Option Addr) (c : Nat) (p : List Int) (w : World) (hp : Has w .i64 x p.length p) (hl : p.length ≤ 1048576) (hc : p.length ≤ c) (hm : c ≤ maxLen) :
    Calls Tryd.prog 49 #[.int .i64 s, .int .i64 t, .int .i64 r, .slice x p.length c] w fun e w' => e = .returned (.agg #[.int .i64 (grC s t r p), .int .i64 (grV s t r p).1, .int .i64 (grV s t r p).2]) ∧ Below w.heap.size w w' := by
  by_cases h1 : (1 ≤ t ∧ t ≤ 24) ∧ 1 ≤ s ∧ s ≤ t
  · have d1 : decide ((1 ≤ t ∧ t ≤ 24) ∧ 1 ≤ s ∧ s ≤ t) = true := by simpa using h1
    by_cases h2 : 0 ≤ r ∧ r ≤ 65520
    · have d2 : decide (0 ≤ r ∧ r ≤ 65520) = true := by simpa using h2
      by_cases h6 : 6 < p.length
      · have h6' : (6 : Int) < (p.length : Int) := by omega
        have hC := grC_many ⟨h1, h2⟩ h6
        rw [grV_of (by rw [hC]; omega), hC]
        clear hC
        go_enter Tryd.func49, Tryd.ntmps49
        go_wp2_with (first | (go_at_call 86; refine (l5Sizes_any s t _).mono ?_; rintro e u ⟨rfl, rfl⟩; rw [d1]) | (go_at_call 87; refine (l2Is_any r _).mono ?_; rintro e u ⟨rfl, rfl⟩; rw [d2]) | fail)
        refine bodyPost_ret (v := .agg #[.int .i64 2, .int .i64 0, .int .i64 0]) (by simp [results, Tryd.results49, go_sem]) rfl ⟨rfl, ?_⟩
        repeat (first | exact Below.refl _ _ | (refine Below.alloc ?_ (by (try simp) <;> omega) _) | (refine Below.setCell ?_ (by (try simp) <;> omega) _))
      · have h6' : ¬ (6 : Int) < (p.length : Int) := by omega
        cases ha : allS p
        · have hC := grC_sum ⟨h1, h2⟩ h6 ha
          rw [grV_of (by rw [hC]; omega), hC]
          clear hC
          go_enter Tryd.func49, Tryd.ntmps49
          go_wp2_with (first | (go_at_call 86; refine (l5Sizes_any s t _).mono ?_; rintro e u ⟨rfl, rfl⟩; rw [d1]) | (go_at_call 87; refine (l2Is_any r _).mono ?_; rintro e u ⟨rfl, rfl⟩; rw [d2]) | (go_at_call 88; refine (l1All_any _ _ p _ (hp.alloc _) hl).mono ?_; rintro e u ⟨rfl, rfl⟩; rw [ha]) | fail)
          refine bodyPost_ret (v := .agg #[.int .i64 3, .int .i64 0, .int .i64 0]) (by simp [results, Tryd.results49, go_sem]) rfl ⟨rfl, ?_⟩
          repeat (first | exact Below.refl _ _ | (refine Below.alloc ?_ (by (try simp) <;> omega) _) | (refine Below.setCell ?_ (by (try simp) <;> omega) _))
        · have hN : gsN s t true ≤ 6 := gsN_bd 5 s t true (by omega) h1.2.1 h1.2.2 (by have : (2 : Int) ^ 5 = 32 := by decide
                                                                                       omega)
          have hC := grC_len ⟨h1, h2⟩ h6 ha
          by_cases hst : p.length = gsN s t true
          · rw [if_pos hst] at hC
            have hV : grV s t r p = grR nS s t true r p := by unfold grV; rw [if_pos hC]
            rw [hV, hC]
            have hst' : ((p.length : Int) != (gsN s t true : Int)) = false := by simp [hst]
            have RR : Hid (∀ wx : World, Below w.heap.size w wx → Calls Tryd.prog 90 #[.int .i64 s, .int .i64 t, .bool true, .int .i64 r, .slice x p.length c] wx fun e w' => e = .returned (.tuple #[.int .i64 (grR nS s t true r p).1, .int .i64 (grR nS s t true r p).2]) ∧ Below wx.heap.size wx w') := fun wx h => l5Roots_any _ s t true r x c p wx (Nat.le_refl _) h1.2.1 h1.2.2 (by omega) (fun _ => h2) hst ha (hp.below h (Nat.le_refl _)) hc hm
            generalize grR nS s t true r p = cv at *
            obtain ⟨ca, cb⟩ := cv
            simp only at RR ⊢
            clear hC hV hst
            go_enter Tryd.func49, Tryd.ntmps49
            go_wp2_with (first | (go_at_call 86; refine (l5Sizes_any s t _).mono ?_; rintro e u ⟨rfl, rfl⟩; rw [d1]) | (go_at_call 87; refine (l2Is_any r _).mono ?_; rintro e u ⟨rfl, rfl⟩; rw [d2]) | (go_at_call 88; refine (l1All_any _ _ p _ (hp.alloc _) hl).mono ?_; rintro e u ⟨rfl, rfl⟩; rw [ha]) | (go_at_call 89; refine (l5Steps_any s t _ (by omega) (by omega) (by omega)).mono ?_; rintro e u ⟨rfl, rfl⟩) | fail)
            refine (RR.out _ ((Below.refl _ _).alloc (Nat.le_refl _) _)).mono ?_
            rintro e u ⟨rfl, hb1⟩
            obtain ⟨hc1, hf1⟩ := bcell hb1
            have hz1 := hb1.size
            simp at hz1
            go_wp2
            refine bodyPost_ret (v := .agg #[.int .i64 0, .int .i64 ca, .int .i64 cb]) (by simp [results, Tryd.results49, go_sem, hc1]) rfl ⟨rfl, ?_⟩
            repeat (first | exact Below.refl _ _ | (refine Below.alloc ?_ (by (try simp) <;> omega) _) | (refine Below.setCell ?_ (by (try simp) <;> omega) _) | (refine Below.trans ?_ (hb1.mono (by (try simp) <;> omega))))
          · rw [if_neg hst] at hC
            rw [grV_of (by rw [hC]; omega), hC]
            have hst' : ((p.length : Int) != (gsN s t true : Int)) = true := by simp; omega
            clear hC hst
            go_enter Tryd.func49, Tryd.ntmps49
            go_wp2_with (first | (go_at_call 86; refine (l5Sizes_any s t _).mono ?_; rintro e u ⟨rfl, rfl⟩; rw [d1]) | (go_at_call 87; refine (l2Is_any r _).mono ?_; rintro e u ⟨rfl, rfl⟩; rw [d2]) | (go_at_call 88; refine (l1All_any _ _ p _ (hp.alloc _) hl).mono ?_; rintro e u ⟨rfl, rfl⟩; rw [ha]) | (go_at_call 89; refine (l5Steps_any s t _ (by omega) (by omega) (by omega)).mono ?_; rintro e u ⟨rfl, rfl⟩) | fail)
            refine bodyPost_ret (v := .agg #[.int .i64 8, .int .i64 0, .int .i64 0]) (by simp [results, Tryd.results49, go_sem]) rfl ⟨rfl, ?_⟩
            repeat (first | exact Below.refl _ _ | (refine Below.alloc ?_ (by (try simp) <;> omega) _) | (refine Below.setCell ?_ (by (try simp) <;> omega) _))
    · have d2 : decide (0 ≤ r ∧ r ≤ 65520) = false := by simpa using h2
      have hC : grC s t r p = 3 := grC_bad (fun h => h2 h.2)
      rw [grV_of (by rw [hC]; omega), hC]
      clear hC h2
      go_enter Tryd.func49, Tryd.ntmps49
      go_wp2_with (first | (go_at_call 86; refine (l5Sizes_any s t _).mono ?_; rintro e u ⟨rfl, rfl⟩; rw [d1]) | (go_at_call 87; refine (l2Is_any r _).mono ?_; rintro e u ⟨rfl, rfl⟩; rw [d2]) | fail)
      refine bodyPost_ret (v := .agg #[.int .i64 3, .int .i64 0, .int .i64 0]) (by simp [results, Tryd.results49, go_sem]) rfl ⟨rfl, ?_⟩
      repeat (first | exact Below.refl _ _ | (refine Below.alloc ?_ (by (try simp) <;> omega) _) | (refine Below.setCell ?_ (by (try simp) <;> omega) _))
  · have d1 : decide ((1 ≤ t ∧ t ≤ 24) ∧ 1 ≤ s ∧ s ≤ t) = false := by simpa using h1
    have hC : grC s t r p = 3 := grC_bad (fun h => h1 h.1)
    rw [grV_of (by rw [hC]; omega), hC]
    clear hC h1
    go_enter Tryd.func49, Tryd.ntmps49
    go_wp2_with (first | (go_at_call 86; refine (l5Sizes_any s t _).mono ?_; rintro e u ⟨rfl, rfl⟩; rw [d1]) | fail)
    refine bodyPost_ret (v := .agg #[.int .i64 3, .int .i64 0, .int .i64 0]) (by simp [results, Tryd.results49, go_sem]) rfl ⟨rfl, ?_⟩
    repeat (first | exact Below.refl _ _ | (refine Below.alloc ?_ (by (try simp) <;> omega) _) | (refine Below.setCell ?_ (by (try simp) <;> omega) _))

set_option maxHeartbeats 2000000 in
theorem l5Accept_any (s first t second : Int) (x : Option Addr) (c : Nat) (p : List Int) (w : World) (hp : Has w .i64 x p.length p) (hl : p.length ≤ 1048576) (hc : p.length ≤ c) (hm : c ≤ maxLen) :
    Calls Tryd.prog 91 #[.int .i64 s, .int .i64 first, .int .i64 t, .int .i64 second, .slice x p.length c] w fun e w' => e = .returned (.bool (agB s first t second p)) ∧ Below w.heap.size w w' := by
  have GR : Hid (Calls Tryd.prog 49 #[.int .i64 s, .int .i64 t, .int .i64 first, .slice x p.length c] w fun e w' => e = .returned (.agg #[.int .i64 (grC s t first p), .int .i64 (grV s t first p).1, .int .i64 (grV s t first p).2]) ∧ Below w.heap.size w w') := specGrowRoots_any s t first x c p w hp hl hc hm
  unfold agB
  generalize grC s t first p = gc at *
  generalize (grV s t first p).1 = v1 at *
  generalize (grV s t first p).2 = v2 at *
  by_cases g0 : gc = 0
  · have b0 : (gc == 0) = true := by simpa using g0
    by_cases g1 : v1 = first
    · have b1 : (v1 == first) = true := by simpa using g1
      by_cases g2 : v2 = second
      · have b2 : (v2 == second) = true := by simpa using g2
        have e : decide (gc = 0 ∧ v1 = first ∧ v2 = second) = true := by simp [g0, g1, g2]
        rw [e]
        clear e g0 g1 g2
        go_enter Tryd.func91, Tryd.ntmps91
        go_wp2_with fail
        refine GR.out.mono ?_
        rintro e u ⟨rfl, hb1⟩
        clear GR
        go_wp2
        go_ret
        exact ⟨rfl, hb1.alloc hb1.size _⟩
      · have b2 : (v2 == second) = false := by simpa using g2
        have e : decide (gc = 0 ∧ v1 = first ∧ v2 = second) = false := by simp [g2]
        rw [e]
        clear e g0 g1 g2
        go_enter Tryd.func91, Tryd.ntmps91
        go_wp2_with fail
        refine GR.out.mono ?_
        rintro e u ⟨rfl, hb1⟩
        clear GR
        go_wp2
        go_ret
        exact ⟨rfl, hb1.alloc hb1.size _⟩
    · have b1 : (v1 == first) = false := by simpa using g1
      have e : decide (gc = 0 ∧ v1 = first ∧ v2 = second) = false := by simp [g1]
      rw [e]
      clear e g0 g1
      go_enter Tryd.func91, Tryd.ntmps91
      go_wp2_with fail
      refine GR.out.mono ?_
      rintro e u ⟨rfl, hb1⟩
      clear GR
      go_wp2
      go_ret
      exact ⟨rfl, hb1.alloc hb1.size _⟩
  · have b0 : (gc == 0) = false := by simpa using g0
    have e : decide (gc = 0 ∧ v1 = first ∧ v2 = second) = false := by simp [g0]
    rw [e]
    clear e g0
    go_enter Tryd.func91, Tryd.ntmps91
    go_wp2_with fail
    refine GR.out.mono ?_
    rintro e u ⟨rfl, hb1⟩
    clear GR
    go_wp2
    go_ret
    exact ⟨rfl, hb1.alloc hb1.size _⟩

theorem specAcceptGrowth_any (s first t second : Int) (x : Option Addr) (c : Nat) (p : List Int) (w : World) (hp : Has w .i64 x p.length p) (hl : p.length ≤ 1048576) (hc : p.length ≤ c) (hm : c ≤ maxLen) :
    Calls Tryd.prog 51 #[.int .i64 s, .int .i64 first, .int .i64 t, .int .i64 second, .slice x p.length c] w fun e w' => e = .returned (.bool (agB s first t second p)) ∧ Below w.heap.size w w' := by
  go_enter Tryd.func51, Tryd.ntmps51
  go_wp2_with fail
  refine (l5Accept_any s first t second x c p _ hp hl hc hm).mono ?_
  rintro e u ⟨rfl, hb1⟩
  go_wp2
  go_ret
  exact ⟨rfl, hb1⟩

end Go.Proofs.YtkjhcblfkpknlaaDoor
