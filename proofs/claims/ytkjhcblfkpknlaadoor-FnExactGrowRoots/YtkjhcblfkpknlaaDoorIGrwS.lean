/- Contracts: the program's GrowRoots and AcceptGrowth. -/
import Derived.Test.YtkjhcblfkpknlaaDoorIGrwR
import Derived.Test.YtkjhcblfkpknlaaDoorGrow5R
namespace Go.Proofs.YtkjhcblfkpknlaaDoor
open Go.ChangeShapes Go.WideShapes Go.ChangeAt Go.RowKit
set_option linter.unusedVariables false
set_option linter.unusedSimpArgs false

set_option maxHeartbeats 4000000 in
theorem implGrowRoots_any (s t r : Int) (x : Option Addr) (c : Nat) (p : List Int) (w : World) (hT : Tab w) (hp : Has w .i64 x p.length p) (hl : p.length ≤ 1048576) (hc : p.length ≤ c) (hm : c ≤ maxLen) :
    Calls Tryd.prog 46 #[.int .i64 s, .int .i64 t, .int .i64 r, .slice x p.length c] w fun e w' => e = .returned (.agg #[.int .i64 (grC s t r p), .int .i64 (grV s t r p).1, .int .i64 (grV s t r p).2]) ∧ Below w.heap.size w w' := by
  by_cases h1 : (1 ≤ t ∧ t ≤ 24) ∧ 1 ≤ s ∧ s ≤ t
  · have SO : Hid (∀ u : World, Calls Tryd.prog 52 #[.int .i64 s, .int .i64 t] u fun r w' => r = .returned (.agg #[.int .i64 0, .int .i64 (gsN s t true : Nat)]) ∧ Below u.heap.size u w') := by
      intro u
      have := implStepsOf_any s t u
      unfold spC spV at this
      rw [if_pos h1, if_pos h1] at this
      exact this
    have hN : gsN s t true ≤ 6 := gsN_bd 5 s t true (by omega) h1.2.1 h1.2.2 (by have : (2 : Int) ^ 5 = 32 := by decide
                                                                                 omega)
    by_cases h2 : 0 ≤ r ∧ r ≤ 65520
    · have d2 : decide (0 ≤ r ∧ r ≤ 65520) = true := by simpa using h2
      by_cases h6 : 6 < p.length
      · have h6' : (6 : Int) < (p.length : Int) := by omega
        have hC := grC_many ⟨h1, h2⟩ h6
        rw [grV_of (by rw [hC]; omega), hC]
        clear hC
        go_enter Tryd.func46, Tryd.ntmps46
        go_wp2_with fail
        refine (SO.out _).mono ?_
        rintro e u1 ⟨rfl, hb1⟩
        obtain ⟨hc1, hf1⟩ := bcell hb1
        have hz1 := hb1.size
        simp at hz1
        have y1 : w.heap.size < u1.heap.size := by omega
        have B1 : Below w.heap.size w u1 := ((Below.refl _ _).alloc (Nat.le_refl _) _).trans (hb1.mono (by simp))
        go_wp2_with (first | (go_at_call 63; refine (isSumF_any r _).mono ?_; rintro e u ⟨rfl, rfl⟩; rw [d2]) | fail)
        refine bodyPost_ret (v := .agg #[.int .i64 2, .int .i64 0, .int .i64 0]) (by simp [results, Tryd.results46, go_sem, hc1, y1]) rfl ⟨rfl, ?_⟩
        repeat (first | exact Below.refl _ _ | (refine Below.alloc ?_ (by (try simp) <;> omega) _) | (refine Below.setCell ?_ (by (try simp) <;> omega) _) | (refine Below.trans ?_ (hb1.mono (by (try simp) <;> omega))))
      · have h6' : ¬ (6 : Int) < (p.length : Int) := by omega
        cases ha : allS p
        · have hC := grC_sum ⟨h1, h2⟩ h6 ha
          have hsu : suF p = 3 := by unfold suF; rw [ha]; rfl
          rw [grV_of (by rw [hC]; omega), hC]
          clear hC
          go_enter Tryd.func46, Tryd.ntmps46
          go_wp2_with fail
          refine (SO.out _).mono ?_
          rintro e u1 ⟨rfl, hb1⟩
          obtain ⟨hc1, hf1⟩ := bcell hb1
          have hz1 := hb1.size
          simp at hz1
          have y1 : w.heap.size < u1.heap.size := by omega
          have B1 : Below w.heap.size w u1 := ((Below.refl _ _).alloc (Nat.le_refl _) _).trans (hb1.mono (by simp))
          go_wp2_with (first | (go_at_call 63; refine (isSumF_any r _).mono ?_; rintro e u ⟨rfl, rfl⟩; rw [d2]) | (go_at_call 64; refine (sumsFault_any _ _ p _ ((hp.below B1 (Nat.le_refl _)).alloc _) hl).mono ?_; rintro e u ⟨rfl, rfl⟩; rw [hsu]) | fail)
          refine bodyPost_ret (v := .agg #[.int .i64 3, .int .i64 0, .int .i64 0]) (by simp [results, Tryd.results46, go_sem, hc1, y1]) rfl ⟨rfl, ?_⟩
          repeat (first | exact Below.refl _ _ | (refine Below.alloc ?_ (by (try simp) <;> omega) _) | (refine Below.setCell ?_ (by (try simp) <;> omega) _) | (refine Below.trans ?_ (hb1.mono (by (try simp) <;> omega))))
        · have hC := grC_len ⟨h1, h2⟩ h6 ha
          have hsu : suF p = 0 := by unfold suF; rw [ha]; rfl
          by_cases hst : p.length = gsN s t true
          · rw [if_pos hst] at hC
            have hV : grV s t r p = grR nS s t true r p := by unfold grV; rw [if_pos hC]
            rw [hV, hC]
            have hst' : ((p.length : Int) != (gsN s t true : Int)) = false := by simp [hst]
            have RR : Hid (∀ wx : World, Below w.heap.size w wx → Calls Tryd.prog 83 #[.agg #[.int .i64 (s), .int .i64 (t), .bool true], .int .i64 r, .slice x p.length c] wx fun e w' => e = .returned (.complex .f64 (floatOfInt .f64 ((grR nS s t true r p).1)) (floatOfInt .f64 ((grR nS s t true r p).2))) ∧ Below wx.heap.size wx w') := fun wx h => rootsBy_any _ s t true r x c p wx (Nat.le_refl _) h1.2.1 h1.2.2 h1.1.2 (fun _ => h2) hst ha (hT.below h (Nat.le_refl _)) (hp.below h (Nat.le_refl _)) hc hm
            have hbd := grR_bd _ s t true r p (Nat.le_refl _) h1.2.1 h1.2.2 (by omega) (fun _ => h2) hst ha
            generalize grR nS s t true r p = cv at *
            obtain ⟨ca, cb⟩ := cv
            simp only at RR hbd ⊢
            have OL : Hid (∀ u : World, Calls Tryd.prog 84 #[(.complex .f64 (floatOfInt .f64 (ca)) (floatOfInt .f64 (cb)))] u fun r w' => r = .returned (.int .i64 ca) ∧ w' = u) := fun u => old_any ca cb u hbd.1.1 hbd.1.2
            have GR : Hid (∀ u : World, Calls Tryd.prog 85 #[(.complex .f64 (floatOfInt .f64 (ca)) (floatOfInt .f64 (cb)))] u fun r w' => r = .returned (.int .i64 cb) ∧ w' = u) := fun u => grown_any ca cb u hbd.2.1 hbd.2.2
            generalize floatOfInt .f64 ca = xa at *
            generalize floatOfInt .f64 cb = xb at *
            clear hC hV hst
            go_enter Tryd.func46, Tryd.ntmps46
            go_wp2_with fail
            refine (SO.out _).mono ?_
            rintro e u1 ⟨rfl, hb1⟩
            obtain ⟨hc1, hf1⟩ := bcell hb1
            have hz1 := hb1.size
            simp at hz1
            have y1 : w.heap.size < u1.heap.size := by omega
            have B1 : Below w.heap.size w u1 := ((Below.refl _ _).alloc (Nat.le_refl _) _).trans (hb1.mono (by simp))
            go_wp2_with (first | (go_at_call 63; refine (isSumF_any r _).mono ?_; rintro e u ⟨rfl, rfl⟩; rw [d2]) | (go_at_call 64; refine (sumsFault_any _ _ p _ ((hp.below B1 (Nat.le_refl _)).alloc _) hl).mono ?_; rintro e u ⟨rfl, rfl⟩; rw [hsu]) | fail)
            refine (whole_any s t _).mono ?_
            rintro e u2 ⟨rfl, hb2⟩
            have B2 : Below w.heap.size w u2 := (B1.alloc B1.size _).trans (hb2.mono (by simp; omega))
            obtain ⟨hc2, hf2⟩ := bcell hb2
            have hz2 := hb2.size
            simp at hz2
            have y2 : w.heap.size < u2.heap.size := by omega
            go_wp2_with fail
            refine (RR.out _ B2).mono ?_
            rintro e u3 ⟨rfl, hb3⟩
            have B3 : Below w.heap.size w u3 := B2.trans (hb3.mono B2.size)
            obtain ⟨hc3, hf3⟩ := bcell hb3
            have hz3 := hb3.size
            have y3 : w.heap.size < u3.heap.size := by omega
            have y4 : w.heap.size < u1.heap.size + 1 := by omega
            go_wp2_with fail
            refine (OL.out _).mono ?_
            rintro e u ⟨rfl, rfl⟩
            go_wp2_with fail
            refine (GR.out _).mono ?_
            rintro e u ⟨rfl, rfl⟩
            go_wp2
            refine bodyPost_ret (v := .agg #[.int .i64 0, .int .i64 ca, .int .i64 cb]) (by simp [results, Tryd.results46, go_sem, hc1, hc2, hc3, y1, y2, y4]) rfl ⟨rfl, ?_⟩
            repeat (first | exact B3 | (refine Below.setCell ?_ (by (try simp) <;> omega) _))
          · rw [if_neg hst] at hC
            rw [grV_of (by rw [hC]; omega), hC]
            have hst' : ((p.length : Int) != (gsN s t true : Int)) = true := by simp; omega
            clear hC hst
            go_enter Tryd.func46, Tryd.ntmps46
            go_wp2_with fail
            refine (SO.out _).mono ?_
            rintro e u1 ⟨rfl, hb1⟩
            obtain ⟨hc1, hf1⟩ := bcell hb1
            have hz1 := hb1.size
            simp at hz1
            have y1 : w.heap.size < u1.heap.size := by omega
            have B1 : Below w.heap.size w u1 := ((Below.refl _ _).alloc (Nat.le_refl _) _).trans (hb1.mono (by simp))
            go_wp2_with (first | (go_at_call 63; refine (isSumF_any r _).mono ?_; rintro e u ⟨rfl, rfl⟩; rw [d2]) | (go_at_call 64; refine (sumsFault_any _ _ p _ ((hp.below B1 (Nat.le_refl _)).alloc _) hl).mono ?_; rintro e u ⟨rfl, rfl⟩; rw [hsu]) | fail)
            refine bodyPost_ret (v := .agg #[.int .i64 8, .int .i64 0, .int .i64 0]) (by simp [results, Tryd.results46, go_sem, hc1, y1]) rfl ⟨rfl, ?_⟩
            repeat (first | exact Below.refl _ _ | (refine Below.alloc ?_ (by (try simp) <;> omega) _) | (refine Below.setCell ?_ (by (try simp) <;> omega) _) | (refine Below.trans ?_ (hb1.mono (by (try simp) <;> omega))))
    · have d2 : decide (0 ≤ r ∧ r ≤ 65520) = false := by simpa using h2
      have hC : grC s t r p = 3 := grC_bad (fun h => h2 h.2)
      rw [grV_of (by rw [hC]; omega), hC]
      clear hC h2
      go_enter Tryd.func46, Tryd.ntmps46
      go_wp2_with fail
      refine (SO.out _).mono ?_
      rintro e u1 ⟨rfl, hb1⟩
      obtain ⟨hc1, hf1⟩ := bcell hb1
      have hz1 := hb1.size
      simp at hz1
      have y1 : w.heap.size < u1.heap.size := by omega
      have B1 : Below w.heap.size w u1 := ((Below.refl _ _).alloc (Nat.le_refl _) _).trans (hb1.mono (by simp))
      go_wp2_with (first | (go_at_call 63; refine (isSumF_any r _).mono ?_; rintro e u ⟨rfl, rfl⟩; rw [d2]) | fail)
      refine bodyPost_ret (v := .agg #[.int .i64 3, .int .i64 0, .int .i64 0]) (by simp [results, Tryd.results46, go_sem, hc1, y1]) rfl ⟨rfl, ?_⟩
      repeat (first | exact Below.refl _ _ | (refine Below.alloc ?_ (by (try simp) <;> omega) _) | (refine Below.setCell ?_ (by (try simp) <;> omega) _) | (refine Below.trans ?_ (hb1.mono (by (try simp) <;> omega))))
  · have SO : Hid (∀ u : World, Calls Tryd.prog 52 #[.int .i64 s, .int .i64 t] u fun r w' => r = .returned (.agg #[.int .i64 3, .int .i64 0]) ∧ Below u.heap.size u w') := by
      intro u
      have := implStepsOf_any s t u
      unfold spC spV at this
      rw [if_neg h1, if_neg h1] at this
      exact this
    have hC : grC s t r p = 3 := grC_bad (fun h => h1 h.1)
    rw [grV_of (by rw [hC]; omega), hC]
    clear hC h1
    go_enter Tryd.func46, Tryd.ntmps46
    go_wp2_with fail
    refine (SO.out _).mono ?_
    rintro e u1 ⟨rfl, hb1⟩
    obtain ⟨hc1, hf1⟩ := bcell hb1
    have hz1 := hb1.size
    simp at hz1
    have y1 : w.heap.size < u1.heap.size := by omega
    have B1 : Below w.heap.size w u1 := ((Below.refl _ _).alloc (Nat.le_refl _) _).trans (hb1.mono (by simp))
    go_wp2_with fail
    refine bodyPost_ret (v := .agg #[.int .i64 3, .int .i64 0, .int .i64 0]) (by simp [results, Tryd.results46, go_sem, hc1, y1]) rfl ⟨rfl, ?_⟩
    repeat (first | exact Below.refl _ _ | (refine Below.alloc ?_ (by (try simp) <;> omega) _) | (refine Below.setCell ?_ (by (try simp) <;> omega) _) | (refine Below.trans ?_ (hb1.mono (by (try simp) <;> omega))))

set_option maxHeartbeats 2000000 in
theorem implAcceptGrowth_any (s first t second : Int) (x : Option Addr) (c : Nat) (p : List Int) (w : World) (hT : Tab w) (hp : Has w .i64 x p.length p) (hl : p.length ≤ 1048576) (hc : p.length ≤ c) (hm : c ≤ maxLen) :
    Calls Tryd.prog 50 #[.int .i64 s, .int .i64 first, .int .i64 t, .int .i64 second, .slice x p.length c] w fun e w' => e = .returned (.bool (agB s first t second p)) ∧ Below w.heap.size w w' := by
  have GR : Hid (Calls Tryd.prog 46 #[.int .i64 s, .int .i64 t, .int .i64 first, .slice x p.length c] w fun e w' => e = .returned (.agg #[.int .i64 (grC s t first p), .int .i64 (grV s t first p).1, .int .i64 (grV s t first p).2]) ∧ Below w.heap.size w w') := implGrowRoots_any s t first x c p w hT hp hl hc hm
  unfold agB
  generalize grC s t first p = gc at *
  generalize (grV s t first p).1 = v1 at *
  generalize (grV s t first p).2 = v2 at *
  go_enter Tryd.func50, Tryd.ntmps50
  go_wp2_with fail
  refine GR.out.mono ?_
  rintro e u ⟨rfl, hb1⟩
  clear GR
  go_wp2
  all_goals
    go_ret
    refine ⟨ret_bool ?_, hb1⟩
    go_light
    rw [Bool.eq_iff_iff]
    simp [*]

set_option maxHeartbeats 1000000 in
theorem eqGrow_any (c v v' : Int) (w : World) :
    Calls Tryd.prog 55 #[.agg #[.int .i64 c, .int .i64 v, .int .i64 v'], .agg #[.int .i64 c, .int .i64 v, .int .i64 v']] w fun r w' => r = .returned (.bool true) ∧ Below w.heap.size w w' := by
  have h1 : (c != c) = false := by simp
  have h2 : (v != v) = false := by simp
  have h3 : (v' != v') = false := by simp
  go_enter Tryd.func55, Tryd.ntmps55
  go_wp2
  go_ret
  refine ⟨rfl, ?_⟩
  repeat (first | exact Below.refl _ _ | refine Below.alloc ?_ (by simp <;> omega) _ | refine Below.setCell ?_ (by simp <;> omega) _ | refine below_drewN ?_ _ | refine Below.drew ?_)

theorem fldW0 (x y z : Int) (w : World) : (Instr.field 57 (.agg #[.int .i64 x, .int .i64 y, .int .i64 z]) 0).run Tryd.prog w = .ok (.int .i64 x) w := by kernel_rfl
theorem fldW1 (x y z : Int) (w : World) : (Instr.field 57 (.agg #[.int .i64 x, .int .i64 y, .int .i64 z]) 1).run Tryd.prog w = .ok (.int .i64 y) w := by kernel_rfl
theorem fldW2 (x y z : Int) (w : World) : (Instr.field 57 (.agg #[.int .i64 x, .int .i64 y, .int .i64 z]) 2).run Tryd.prog w = .ok (.int .i64 z) w := by kernel_rfl

end Go.Proofs.YtkjhcblfkpknlaaDoor
