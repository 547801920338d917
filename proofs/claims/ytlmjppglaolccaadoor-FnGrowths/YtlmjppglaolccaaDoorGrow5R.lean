/- Contracts: the model's GrowRoots and AcceptGrowth. -/
import Derived.Test.YtlmjppglaolccaaDoorGrow5
namespace Go.Proofs.YtlmjppglaolccaaDoor
open Go.ChangeShapes Go.WideShapes Go.ChangeAt Go.RowKit
set_option linter.unusedVariables false
set_option linter.unusedSimpArgs false

theorem grC_bad {s t r : Int} {p : List Int} (h : ¬ (((1 ≤ t ∧ t ≤ 24) ∧ 1 ≤ s ∧ s ≤ t) ∧ 0 ≤ r ∧ r ≤ 65520)) : grC s t r p = 3 := by unfold grC; rw [if_neg h]
theorem grC_many {s t r : Int} {p : List Int} (h : ((1 ≤ t ∧ t ≤ 24) ∧ 1 ≤ s ∧ s ≤ t) ∧ 0 ≤ r ∧ r ≤ 65520) (h6 : 6 < p.length) : grC s t r p = 2 := by unfold grC; rw [if_pos h, if_pos h6]
theorem grC_sum {s t r : Int} {p : List Int} (h : ((1 ≤ t ∧ t ≤ 24) ∧ 1 ≤ s ∧ s ≤ t) ∧ 0 ≤ r ∧ r ≤ 65520) (h6 : ¬ 6 < p.length) (ha : allS p = false) : grC s t r p = 3 := by unfold grC; rw [if_pos h, if_neg h6, ha]; rfl
theorem grC_len {s t r : Int} {p : List Int} (h : ((1 ≤ t ∧ t ≤ 24) ∧ 1 ≤ s ∧ s ≤ t) ∧ 0 ≤ r ∧ r ≤ 65520) (h6 : ¬ 6 < p.length) (ha : allS p = true) : grC s t r p = if p.length = gsN s t true then 0 else 8 := by unfold grC; rw [if_pos h, if_neg h6, ha]; rfl
theorem grV_of {s t r : Int} {p : List Int} (h : grC s t r p ≠ 0) : grV s t r p = (0, 0) := by unfold grV; rw [if_neg h]

set_option maxHeartbeats 4000000 in
theorem l5Roots_any (n : Nat) : ∀ (s t : Int) (wh : Bool) (r : Int) (x : Option Addr) (c : Nat) (p : List Int) (w : World), t.toNat ≤ n → 1 ≤ s → s ≤ t → t ≤ 32 → (wh = true → 0 ≤ r ∧ r ≤ 65520) → p.length = gsN s t wh → allS p = true → Has w .i64 x p.length p → p.length ≤ c → c ≤ maxLen →
    Calls Tryd.prog 46 #[.int .i64 s, .int .i64 t, .bool wh, .int .i64 r, .slice x p.length c] w fun e w' => e = .returned (.tuple #[.int .i64 (grR nS s t wh r p).1, .int .i64 (grR nS s t wh r p).2]) ∧ Below w.heap.size w w' := by
  induction n with
  | zero => intro s t wh r x c p w h _ _; omega
  | succ n ih =>
    intro s t wh r x c p w hn h0 h1 h2 hr hlen hall hp hc hm
    unfold maxLen at hm
    by_cases hs : s = t
    · have e := grR_eq nS wh r p hs
      rw [gsN_eq wh hs] at hlen
      subst hs
      have hss : (s == s) = true := by simp
      rw [e]
      clear e
      cases wh
      · simp only [Bool.false_eq_true, if_false] at hlen ⊢
        obtain ⟨b1, o1, hx, hb1, hcell⟩ : ∃ b off, x = some ⟨b, off, none⟩ ∧ b < w.heap.size ∧ ∀ i, i < p.length → w.cell? ⟨b, off + i, none⟩ = some (.int .i64 (p.getD i 0)) := by
          rcases hp.2.2 with c | h
          · omega
          · exact h
        subst hx
        have c0 := hcell 0 (by omega)
        rw [Nat.add_zero] at c0
        generalize p.getD 0 0 = v at *
        rw [hlen]
        clear hcell ih
        go_enter Tryd.func46, Tryd.ntmps46
        go_wp2_with fail
        go_quiet (fail)
        go_wp2
        exact bodyPost_ret (v := .tuple #[.int .i64 v, .int .i64 v]) (by simp [results, Tryd.results46, go_sem, nS]) rfl ⟨rfl, below_drewN (Below.refl _ _) _⟩
      · go_enter Tryd.func46, Tryd.ntmps46
        go_wp2
        exact bodyPost_ret (v := .tuple #[.int .i64 r, .int .i64 r]) (by simp [results, Tryd.results46, go_sem, nS]) rfl ⟨rfl, Below.refl _ _⟩
    · have hs' : 2 ≤ t := by omega
      obtain ⟨q1, q2, q3⟩ := splN_bd hs' h2
      have hst : (s == t) = false := by simpa using hs
      have hpos : 0 < p.length := by
        by_cases ha : s ≤ splN t
        · rw [hlen, gsN_lo wh hs' ha]; omega
        · rw [hlen, gsN_hi wh hs' ha (by omega)]; omega
      obtain ⟨m, hm1⟩ : ∃ m, p.length = m + 1 := ⟨p.length - 1, by omega⟩
      have hdl : p.dropLast = p.take m := by rw [List.dropLast_eq_take, hm1]; rfl
      have hgl : p.getLastD 0 = p[m]'(by omega) := by
        rw [List.getLastD_eq_getLast?, List.getLast?_eq_getElem?]
        simp [hm1]
      have hlast := allS_get hall m (by omega)
      have hi := hp.init m (by omega)
      have hil : (p.take m).length = m := by simp; omega
      obtain ⟨b1, o1, hx, hb1, hcell⟩ : ∃ b off, x = some ⟨b, off, none⟩ ∧ b < w.heap.size ∧ ∀ i, i < p.length → w.cell? ⟨b, off + i, none⟩ = some (.int .i64 (p.getD i 0)) := by
        rcases hp.2.2 with c | h
        · omega
        · exact h
      subst hx
      have e1 : w.cell? ⟨b1, o1 + m, none⟩ = some (.int .i64 (p[m]'(by omega))) := by rw [hcell m (by omega)]; simp [List.getD, hm1]
      have FC : ∀ wx : World, Below w.heap.size w wx → wx.cell? ⟨b1, o1 + m, none⟩ = some (.int .i64 (p[m]'(by omega))) := fun wx h => (h.cell (p := ⟨b1, o1 + m, none⟩) hb1).trans e1
      generalize hv : p[m]'(by omega) = v at *
      by_cases ha : s ≤ splN t
      · have EQ : Hid (grR nS s t wh r p = ((grR nS s (splN t) wh r (p.take m)).1, nS (grR nS s (splN t) wh r (p.take m)).2 v)) := by
          show _ = _
          rw [grR_lo nS wh r p hs' ha, hdl, hgl]
        have hl2 : (p.take m).length = gsN s (splN t) wh := by rw [hil]; rw [gsN_lo wh hs' ha] at hlen; omega
        have hbd := grR_bd _ s (splN t) wh r (p.take m) (Nat.le_refl _) h0 ha (by omega) hr hl2 (allS_take hall m)
        have IH : Hid (∀ wx : World, Below w.heap.size w wx → Calls Tryd.prog 46 #[.int .i64 s, .int .i64 (splN t), .bool wh, .int .i64 r, .slice (some ⟨b1, o1, none⟩) m c] wx fun e w' => e = .returned (.tuple #[.int .i64 (grR nS s (splN t) wh r (p.take m)).1, .int .i64 (grR nS s (splN t) wh r (p.take m)).2]) ∧ Below wx.heap.size wx w') := by
          intro wx hwx
          have := ih s (splN t) wh r (some ⟨b1, o1, none⟩) c (p.take m) wx (by omega) h0 ha (by omega) hr hl2 (allS_take hall m) (hi.below hwx (Nat.le_refl _)) (by omega) (by unfold maxLen; omega)
          rw [hil] at this
          exact this
        rw [EQ.out, hm1]
        generalize grR nS s (splN t) wh r (p.take m) = cv at EQ hbd IH
        obtain ⟨ca, cb⟩ := cv
        simp only at hbd IH ⊢
        have hm2 : (m : Int) ≤ c := by omega
        have hc' : m + 1 ≤ c := by omega
        clear EQ hv hdl hgl hi hil hcell e1 hall hp hlen hc hpos ih hm1 hl2
        go_enter Tryd.func46, Tryd.ntmps46
        go_wp2_with fail
        refine (split_any t _ (by omega) (by omega)).mono ?_
        rintro e u ⟨rfl, rfl⟩
        go_wp2_with fail
        refine (IH.out _ (Below.refl _ _)).mono ?_
        rintro e u2 ⟨rfl, hb2⟩
        have c2 := FC u2 hb2
        have z2 := hb2.size
        clear FC IH
        go_wp2_with fail
        refine (l2NodeSum_any cb v _ hbd.2.1 (by omega) hlast.1 (by omega)).mono ?_
        rintro e u3 ⟨rfl, hb3⟩
        go_wp2
        exact bodyPost_ret (v := .tuple #[.int .i64 ca, .int .i64 (nS cb v)]) (by simp [results, Tryd.results46, go_sem, nS]) rfl ⟨rfl, hb2.trans (hb3.mono hb2.size)⟩
      · have EQ : Hid (grR nS s t wh r p = (nS v (grR nS (s - splN t) (t - splN t) false r (p.take m)).1, nS v (grR nS (s - splN t) (t - splN t) false r (p.take m)).2)) := by
          show _ = _
          rw [grR_hi nS wh r p hs' ha (by omega), hdl, hgl]
        have hl2 : (p.take m).length = gsN (s - splN t) (t - splN t) false := by rw [hil]; rw [gsN_hi wh hs' ha (by omega)] at hlen; omega
        have hbd := grR_bd _ (s - splN t) (t - splN t) false r (p.take m) (Nat.le_refl _) (by omega) (by omega) (by omega) (by simp) hl2 (allS_take hall m)
        have IH : Hid (∀ wx : World, Below w.heap.size w wx → Calls Tryd.prog 46 #[.int .i64 (s - splN t), .int .i64 (t - splN t), .bool false, .int .i64 r, .slice (some ⟨b1, o1, none⟩) m c] wx fun e w' => e = .returned (.tuple #[.int .i64 (grR nS (s - splN t) (t - splN t) false r (p.take m)).1, .int .i64 (grR nS (s - splN t) (t - splN t) false r (p.take m)).2]) ∧ Below wx.heap.size wx w') := by
          intro wx hwx
          have := ih (s - splN t) (t - splN t) false r (some ⟨b1, o1, none⟩) c (p.take m) wx (by omega) (by omega) (by omega) (by omega) (by simp) hl2 (allS_take hall m) (hi.below hwx (Nat.le_refl _)) (by omega) (by unfold maxLen; omega)
          rw [hil] at this
          exact this
        rw [EQ.out, hm1]
        generalize grR nS (s - splN t) (t - splN t) false r (p.take m) = cv at EQ hbd IH
        obtain ⟨ca, cb⟩ := cv
        simp only at hbd IH ⊢
        have hm2 : (m : Int) ≤ c := by omega
        have hc' : m + 1 ≤ c := by omega
        have w1 : IntKind.i64.wrap (s - splN t) = s - splN t := by rw [IntKind.wrap_i64]; omega
        have w2 : IntKind.i64.wrap (t - splN t) = t - splN t := by rw [IntKind.wrap_i64]; omega
        clear EQ hv hdl hgl hi hil hcell e1 hall hp hlen hc hpos ih hm1 hl2
        go_enter Tryd.func46, Tryd.ntmps46
        go_wp2_with fail
        refine (split_any t _ (by omega) (by omega)).mono ?_
        rintro e u ⟨rfl, rfl⟩
        go_wp2_with fail
        refine (IH.out _ (Below.refl _ _)).mono ?_
        rintro e u2 ⟨rfl, hb2⟩
        have c2 := FC u2 hb2
        have z2 := hb2.size
        clear FC IH
        go_wp2_with fail
        have hne : Nonempty (KeptW u2) := ⟨⟨u2, Below.refl _ _⟩⟩
        have K1 := KeptW.cell c2 (Nat.lt_of_lt_of_le hb1 z2)
        refine wp_region_kept (by kernel_rfl) (by kernel_rfl) ?_
        iterate 14 (go_big_quiet_step ((first | (go_at_call_of 62 (Value.int .i64 ca); exact KeptW.calls (l2NodeSum_any v ca _ hlast.1 (by omega) hbd.1.1 (by omega))) | (go_at_call_of 62 (Value.int .i64 cb); exact KeptW.calls (l2NodeSum_any v cb _ hlast.1 (by omega) hbd.2.1 (by omega))))))
        refine wpQuiet_nil ?_
        rintro _ ⟨d, rfl⟩
        go_wp2
        exact bodyPost_ret (v := .tuple #[.int .i64 (nS v ca), .int .i64 (nS v cb)]) (by simp [results, Tryd.results46, go_sem, nS]) rfl ⟨rfl, hb2.trans (d.hb.mono hb2.size)⟩

set_option maxHeartbeats 2000000 in
theorem specGrowRoots_any (s t r : Int) (x : Option Addr) (c : Nat) (p : List Int) (w : World) (hp : Has w .i64 x p.length p) (hl : p.length ≤ 1048576) (hc : p.length ≤ c) (hm : c ≤ maxLen) :
    Calls Tryd.prog 14 #[.int .i64 s, .int .i64 t, .int .i64 r, .slice x p.length c] w fun e w' => e = .returned (.agg #[.int .i64 (grC s t r p), .int .i64 (grV s t r p).1, .int .i64 (grV s t r p).2]) ∧ Below w.heap.size w w' := by
  by_cases h1 : (1 ≤ t ∧ t ≤ 24) ∧ 1 ≤ s ∧ s ≤ t
  · have d1 : decide ((1 ≤ t ∧ t ≤ 24) ∧ 1 ≤ s ∧ s ≤ t) = true := by simpa using h1
    by_cases h2 : 0 ≤ r ∧ r ≤ 65520
    · have d2 : decide (0 ≤ r ∧ r ≤ 65520) = true := by simpa using h2
      by_cases h6 : 6 < p.length
      · have h6' : (6 : Int) < (p.length : Int) := by omega
        have hC := grC_many ⟨h1, h2⟩ h6
        rw [grV_of (by rw [hC]; omega), hC]
        clear hC
        go_enter Tryd.func14, Tryd.ntmps14
        go_wp2_with (first | (go_at_call 42; refine (l5Sizes_any s t _).mono ?_; rintro e u ⟨rfl, rfl⟩; rw [d1]) | (go_at_call 43; refine (l2Is_any r _).mono ?_; rintro e u ⟨rfl, rfl⟩; rw [d2]) | fail)
        refine bodyPost_ret (v := .agg #[.int .i64 2, .int .i64 0, .int .i64 0]) (by simp [results, Tryd.results14, go_sem]) rfl ⟨rfl, ?_⟩
        repeat (first | exact Below.refl _ _ | (refine Below.alloc ?_ (by (try simp) <;> omega) _) | (refine Below.setCell ?_ (by (try simp) <;> omega) _))
      · have h6' : ¬ (6 : Int) < (p.length : Int) := by omega
        cases ha : allS p
        · have hC := grC_sum ⟨h1, h2⟩ h6 ha
          rw [grV_of (by rw [hC]; omega), hC]
          clear hC
          go_enter Tryd.func14, Tryd.ntmps14
          go_wp2_with (first | (go_at_call 42; refine (l5Sizes_any s t _).mono ?_; rintro e u ⟨rfl, rfl⟩; rw [d1]) | (go_at_call 43; refine (l2Is_any r _).mono ?_; rintro e u ⟨rfl, rfl⟩; rw [d2]) | (go_at_call 44; refine (l1All_any _ _ p _ (hp.alloc _) hl).mono ?_; rintro e u ⟨rfl, rfl⟩; rw [ha]) | fail)
          refine bodyPost_ret (v := .agg #[.int .i64 3, .int .i64 0, .int .i64 0]) (by simp [results, Tryd.results14, go_sem]) rfl ⟨rfl, ?_⟩
          repeat (first | exact Below.refl _ _ | (refine Below.alloc ?_ (by (try simp) <;> omega) _) | (refine Below.setCell ?_ (by (try simp) <;> omega) _))
        · have hN : gsN s t true ≤ 6 := gsN_bd 5 s t true (by omega) h1.2.1 h1.2.2 (by have : (2 : Int) ^ 5 = 32 := by decide
                                                                                       omega)
          have hC := grC_len ⟨h1, h2⟩ h6 ha
          by_cases hst : p.length = gsN s t true
          · rw [if_pos hst] at hC
            have hV : grV s t r p = grR nS s t true r p := by unfold grV; rw [if_pos hC]
            rw [hV, hC]
            have hst' : ((p.length : Int) != (gsN s t true : Int)) = false := by simp [hst]
            have RR : Hid (∀ wx : World, Below w.heap.size w wx → Calls Tryd.prog 46 #[.int .i64 s, .int .i64 t, .bool true, .int .i64 r, .slice x p.length c] wx fun e w' => e = .returned (.tuple #[.int .i64 (grR nS s t true r p).1, .int .i64 (grR nS s t true r p).2]) ∧ Below wx.heap.size wx w') := fun wx h => l5Roots_any _ s t true r x c p wx (Nat.le_refl _) h1.2.1 h1.2.2 (by omega) (fun _ => h2) hst ha (hp.below h (Nat.le_refl _)) hc hm
            generalize grR nS s t true r p = cv at *
            obtain ⟨ca, cb⟩ := cv
            simp only at RR ⊢
            clear hC hV hst
            go_enter Tryd.func14, Tryd.ntmps14
            go_wp2_with (first | (go_at_call 42; refine (l5Sizes_any s t _).mono ?_; rintro e u ⟨rfl, rfl⟩; rw [d1]) | (go_at_call 43; refine (l2Is_any r _).mono ?_; rintro e u ⟨rfl, rfl⟩; rw [d2]) | (go_at_call 44; refine (l1All_any _ _ p _ (hp.alloc _) hl).mono ?_; rintro e u ⟨rfl, rfl⟩; rw [ha]) | (go_at_call 45; refine (l5Steps_any s t _ (by omega) (by omega) (by omega)).mono ?_; rintro e u ⟨rfl, rfl⟩) | fail)
            refine (RR.out _ ((Below.refl _ _).alloc (Nat.le_refl _) _)).mono ?_
            rintro e u ⟨rfl, hb1⟩
            obtain ⟨hc1, hf1⟩ := bcell hb1
            have hz1 := hb1.size
            simp at hz1
            go_wp2
            refine bodyPost_ret (v := .agg #[.int .i64 0, .int .i64 ca, .int .i64 cb]) (by simp [results, Tryd.results14, go_sem, hc1]) rfl ⟨rfl, ?_⟩
            repeat (first | exact Below.refl _ _ | (refine Below.alloc ?_ (by (try simp) <;> omega) _) | (refine Below.setCell ?_ (by (try simp) <;> omega) _) | (refine Below.trans ?_ (hb1.mono (by (try simp) <;> omega))))
          · rw [if_neg hst] at hC
            rw [grV_of (by rw [hC]; omega), hC]
            have hst' : ((p.length : Int) != (gsN s t true : Int)) = true := by simp; omega
            clear hC hst
            go_enter Tryd.func14, Tryd.ntmps14
            go_wp2_with (first | (go_at_call 42; refine (l5Sizes_any s t _).mono ?_; rintro e u ⟨rfl, rfl⟩; rw [d1]) | (go_at_call 43; refine (l2Is_any r _).mono ?_; rintro e u ⟨rfl, rfl⟩; rw [d2]) | (go_at_call 44; refine (l1All_any _ _ p _ (hp.alloc _) hl).mono ?_; rintro e u ⟨rfl, rfl⟩; rw [ha]) | (go_at_call 45; refine (l5Steps_any s t _ (by omega) (by omega) (by omega)).mono ?_; rintro e u ⟨rfl, rfl⟩) | fail)
            refine bodyPost_ret (v := .agg #[.int .i64 8, .int .i64 0, .int .i64 0]) (by simp [results, Tryd.results14, go_sem]) rfl ⟨rfl, ?_⟩
            repeat (first | exact Below.refl _ _ | (refine Below.alloc ?_ (by (try simp) <;> omega) _) | (refine Below.setCell ?_ (by (try simp) <;> omega) _))
    · have d2 : decide (0 ≤ r ∧ r ≤ 65520) = false := by simpa using h2
      have hC : grC s t r p = 3 := grC_bad (fun h => h2 h.2)
      rw [grV_of (by rw [hC]; omega), hC]
      clear hC h2
      go_enter Tryd.func14, Tryd.ntmps14
      go_wp2_with (first | (go_at_call 42; refine (l5Sizes_any s t _).mono ?_; rintro e u ⟨rfl, rfl⟩; rw [d1]) | (go_at_call 43; refine (l2Is_any r _).mono ?_; rintro e u ⟨rfl, rfl⟩; rw [d2]) | fail)
      refine bodyPost_ret (v := .agg #[.int .i64 3, .int .i64 0, .int .i64 0]) (by simp [results, Tryd.results14, go_sem]) rfl ⟨rfl, ?_⟩
      repeat (first | exact Below.refl _ _ | (refine Below.alloc ?_ (by (try simp) <;> omega) _) | (refine Below.setCell ?_ (by (try simp) <;> omega) _))
  · have d1 : decide ((1 ≤ t ∧ t ≤ 24) ∧ 1 ≤ s ∧ s ≤ t) = false := by simpa using h1
    have hC : grC s t r p = 3 := grC_bad (fun h => h1 h.1)
    rw [grV_of (by rw [hC]; omega), hC]
    clear hC h1
    go_enter Tryd.func14, Tryd.ntmps14
    go_wp2_with (first | (go_at_call 42; refine (l5Sizes_any s t _).mono ?_; rintro e u ⟨rfl, rfl⟩; rw [d1]) | fail)
    refine bodyPost_ret (v := .agg #[.int .i64 3, .int .i64 0, .int .i64 0]) (by simp [results, Tryd.results14, go_sem]) rfl ⟨rfl, ?_⟩
    repeat (first | exact Below.refl _ _ | (refine Below.alloc ?_ (by (try simp) <;> omega) _) | (refine Below.setCell ?_ (by (try simp) <;> omega) _))

set_option maxHeartbeats 2000000 in
theorem l5Accept_any (s first t second : Int) (x : Option Addr) (c : Nat) (p : List Int) (w : World) (hp : Has w .i64 x p.length p) (hl : p.length ≤ 1048576) (hc : p.length ≤ c) (hm : c ≤ maxLen) :
    Calls Tryd.prog 47 #[.int .i64 s, .int .i64 first, .int .i64 t, .int .i64 second, .slice x p.length c] w fun e w' => e = .returned (.bool (agB s first t second p)) ∧ Below w.heap.size w w' := by
  have GR : Hid (Calls Tryd.prog 14 #[.int .i64 s, .int .i64 t, .int .i64 first, .slice x p.length c] w fun e w' => e = .returned (.agg #[.int .i64 (grC s t first p), .int .i64 (grV s t first p).1, .int .i64 (grV s t first p).2]) ∧ Below w.heap.size w w') := specGrowRoots_any s t first x c p w hp hl hc hm
  unfold agB
  generalize grC s t first p = gc at *
  generalize (grV s t first p).1 = v1 at *
  generalize (grV s t first p).2 = v2 at *
  by_cases g0 : gc = 0
  · have b0 : (gc == 0) = true := by simpa using g0
    by_cases g1 : v1 = first
    · have b1 : (v1 == first) = true := by simpa using g1
      by_cases g2 : v2 = second
      · have b2 : (v2 == second) = true := by simpa using g2
        have e : decide (gc = 0 ∧ v1 = first ∧ v2 = second) = true := by simp [g0, g1, g2]
        rw [e]
        clear e g0 g1 g2
        go_enter Tryd.func47, Tryd.ntmps47
        go_wp2_with fail
        refine GR.out.mono ?_
        rintro e u ⟨rfl, hb1⟩
        clear GR
        go_wp2
        go_ret
        exact ⟨rfl, hb1.alloc hb1.size _⟩
      · have b2 : (v2 == second) = false := by simpa using g2
        have e : decide (gc = 0 ∧ v1 = first ∧ v2 = second) = false := by simp [g2]
        rw [e]
        clear e g0 g1 g2
        go_enter Tryd.func47, Tryd.ntmps47
        go_wp2_with fail
        refine GR.out.mono ?_
        rintro e u ⟨rfl, hb1⟩
        clear GR
        go_wp2
        go_ret
        exact ⟨rfl, hb1.alloc hb1.size _⟩
    · have b1 : (v1 == first) = false := by simpa using g1
      have e : decide (gc = 0 ∧ v1 = first ∧ v2 = second) = false := by simp [g1]
      rw [e]
      clear e g0 g1
      go_enter Tryd.func47, Tryd.ntmps47
      go_wp2_with fail
      refine GR.out.mono ?_
      rintro e u ⟨rfl, hb1⟩
      clear GR
      go_wp2
      go_ret
      exact ⟨rfl, hb1.alloc hb1.size _⟩
  · have b0 : (gc == 0) = false := by simpa using g0
    have e : decide (gc = 0 ∧ v1 = first ∧ v2 = second) = false := by simp [g0]
    rw [e]
    clear e g0
    go_enter Tryd.func47, Tryd.ntmps47
    go_wp2_with fail
    refine GR.out.mono ?_
    rintro e u ⟨rfl, hb1⟩
    clear GR
    go_wp2
    go_ret
    exact ⟨rfl, hb1.alloc hb1.size _⟩

theorem specAcceptGrowth_any (s first t second : Int) (x : Option Addr) (c : Nat) (p : List Int) (w : World) (hp : Has w .i64 x p.length p) (hl : p.length ≤ 1048576) (hc : p.length ≤ c) (hm : c ≤ maxLen) :
    Calls Tryd.prog 16 #[.int .i64 s, .int .i64 first, .int .i64 t, .int .i64 second, .slice x p.length c] w fun e w' => e = .returned (.bool (agB s first t second p)) ∧ Below w.heap.size w w' := by
  go_enter Tryd.func16, Tryd.ntmps16
  go_wp2_with fail
  refine (l5Accept_any s first t second x c p _ hp hl hc hm).mono ?_
  rintro e u ⟨rfl, hb1⟩
  go_wp2
  go_ret
  exact ⟨rfl, hb1⟩

end Go.Proofs.YtlmjppglaolccaaDoor
