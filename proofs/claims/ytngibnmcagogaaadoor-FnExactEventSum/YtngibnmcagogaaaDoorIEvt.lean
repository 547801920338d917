/- Contracts of the program's chapter 3: the faults of an event, events held against each other. -/
import Derived.Test.YtngibnmcagogaaaDoorSameE
import Derived.Test.YtngibnmcagogaaaDoorIClash
namespace Go.Proofs.YtngibnmcagogaaaDoor
open Go.ChangeShapes Go.WideShapes Go.ChangeAt Go.RowKit
set_option maxRecDepth 100000
set_option linter.unusedVariables false
set_option linter.unusedSimpArgs false

theorem isFrom0_any (n m : Int) (w : World) : Calls Tryd.prog 83 #[.int .i64 n, .int .i64 m] w fun r w' => r = .returned (.bool (decide (0 ≤ n ∧ n ≤ m))) ∧ w' = w := by
  by_cases h : 0 ≤ n
  · go_enter Tryd.func83, Tryd.ntmps83
    go_wp2
    go_ret
    exact ⟨ret_bool (by simp [h]), rfl⟩
  · go_enter Tryd.func83, Tryd.ntmps83
    go_wp2
    go_ret
    exact ⟨ret_bool (by simp; omega), rfl⟩

set_option maxHeartbeats 4000000 in
theorem implEventFault_any (s v k x : Int) (a : Option Addr) (n c : Nat) (w : World) (x0 : -9223372036854775808 ≤ x) (x1 : x ≤ 9223372036854775807) (hn : n ≤ 9223372036854775807) :
    Calls Tryd.prog 48 #[.agg #[.int .i64 s, .int .i64 v, .int .i64 k, .int .i64 x, .slice a n c]] w fun r w' => r = .returned (.int .i64 (evF s v k x n)) ∧ Below w.heap.size w w' := by
  have tok1 : True := trivial
  have tok2 : True := trivial
  have hnew : Nonempty (KeptW (w.alloc (.cells #[.int .i64 s, .int .i64 v, .int .i64 k, .int .i64 x, .slice a n c] 46))) := ⟨⟨_, Below.refl _ _⟩⟩
  have E0 := EvAt.new w s v k x a n c 46
  have k3 := KeptW.cell E0.c3 E0.lt
  have k4 := KeptW.cell E0.c4 E0.lt
  clear E0
  unfold evF
  by_cases hs : 0 ≤ s ∧ s ≤ 63
  · have ds : decide (0 ≤ s ∧ s ≤ 63) = true := by simpa using hs
    by_cases hv : 0 ≤ v ∧ v ≤ 999
    · have dv : decide (0 ≤ v ∧ v ≤ 999) = true := by simpa using hv
      by_cases hk : 0 ≤ k ∧ k ≤ 9
      · have dk : decide (0 ≤ k ∧ k ≤ 9) = true := by simpa using hk
        rw [if_neg (by intro q; exact q ⟨hs, hv, hk⟩)]
        clear hs hv hk
        have AR := fun (d : KeptW (w.alloc (.cells #[.int .i64 s, .int .i64 v, .int .i64 k, .int .i64 x, .slice a n c] 46))) => canon_impl x d.wd x0 x1
        have HX : Hid (_) := AR
        clear AR
        by_cases hx : x = canon x
        · rw [if_neg (by intro q; exact q hx)]
          have dx : (canon x != x) = false := by simpa using hx.symm
          clear hx
          by_cases hm : 12 < n
          · have hm' : (12 : Int) < (n : Int) := by omega
            rw [if_pos hm]
            go_enter Tryd.func48, Tryd.ntmps48
            go_wp2_with (first | (go_at_call 83; have _t := tok1; refine (isFrom0_any s 63 _).mono ?_; rintro r u ⟨rfl, rfl⟩; rw [ds]; clear tok1 _t) | (go_at_call 83; have _t := tok2; refine (isFrom0_any v 999 _).mono ?_; rintro r u ⟨rfl, rfl⟩; rw [dv]; clear tok2 _t) | (go_at_call 83; refine (isFrom0_any k 9 _).mono ?_; rintro r u ⟨rfl, rfl⟩; rw [dk]))
            refine wp_region_kept (by kernel_rfl) (by kernel_rfl) ?_
            repeat (go_big_quiet_step ((go_at_call 88; exact KeptW.calls (HX.out _))))
            refine wpQuiet_nil ?_
            rintro _ ⟨d, rfl⟩
            go_wp2
            go_ret
            exact ⟨rfl, ((Below.refl _ _).alloc (Nat.le_refl _) _).trans (d.hb.mono (by simp))⟩
          · have hm' : (n : Int) ≤ 12 := by omega
            rw [if_neg hm]
            go_enter Tryd.func48, Tryd.ntmps48
            go_wp2_with (first | (go_at_call 83; have _t := tok1; refine (isFrom0_any s 63 _).mono ?_; rintro r u ⟨rfl, rfl⟩; rw [ds]; clear tok1 _t) | (go_at_call 83; have _t := tok2; refine (isFrom0_any v 999 _).mono ?_; rintro r u ⟨rfl, rfl⟩; rw [dv]; clear tok2 _t) | (go_at_call 83; refine (isFrom0_any k 9 _).mono ?_; rintro r u ⟨rfl, rfl⟩; rw [dk]))
            refine wp_region_kept (by kernel_rfl) (by kernel_rfl) ?_
            repeat (go_big_quiet_step ((go_at_call 88; exact KeptW.calls (HX.out _))))
            refine wpQuiet_nil ?_
            rintro _ ⟨d, rfl⟩
            go_wp2
            go_ret
            exact ⟨rfl, ((Below.refl _ _).alloc (Nat.le_refl _) _).trans (d.hb.mono (by simp))⟩
        · rw [if_pos hx]
          have dx : (canon x != x) = true := by simpa using (fun h => hx h.symm)
          clear hx
          skip
          · skip
            go_enter Tryd.func48, Tryd.ntmps48
            go_wp2_with (first | (go_at_call 83; have _t := tok1; refine (isFrom0_any s 63 _).mono ?_; rintro r u ⟨rfl, rfl⟩; rw [ds]; clear tok1 _t) | (go_at_call 83; have _t := tok2; refine (isFrom0_any v 999 _).mono ?_; rintro r u ⟨rfl, rfl⟩; rw [dv]; clear tok2 _t) | (go_at_call 83; refine (isFrom0_any k 9 _).mono ?_; rintro r u ⟨rfl, rfl⟩; rw [dk]))
            refine wp_region_kept (by kernel_rfl) (by kernel_rfl) ?_
            repeat (go_big_quiet_step ((go_at_call 88; exact KeptW.calls (HX.out _))))
            refine wpQuiet_nil ?_
            rintro _ ⟨d, rfl⟩
            go_wp2
            go_ret
            exact ⟨rfl, ((Below.refl _ _).alloc (Nat.le_refl _) _).trans (d.hb.mono (by simp))⟩
      · have dk : decide (0 ≤ k ∧ k ≤ 9) = false := by simp; omega
        rw [if_pos (by intro q; exact hk q.2.2)]
        go_enter Tryd.func48, Tryd.ntmps48
        go_wp2_with (first | (go_at_call 83; have _t := tok1; refine (isFrom0_any s 63 _).mono ?_; rintro r u ⟨rfl, rfl⟩; rw [ds]; clear tok1 _t) | (go_at_call 83; have _t := tok2; refine (isFrom0_any v 999 _).mono ?_; rintro r u ⟨rfl, rfl⟩; rw [dv]; clear tok2 _t) | (go_at_call 83; refine (isFrom0_any k 9 _).mono ?_; rintro r u ⟨rfl, rfl⟩; rw [dk]))
        go_ret
        exact ⟨rfl, (Below.refl _ _).alloc (Nat.le_refl _) _⟩
    · have dv : decide (0 ≤ v ∧ v ≤ 999) = false := by simp; omega
      rw [if_pos (by intro q; exact hv q.2.1)]
      go_enter Tryd.func48, Tryd.ntmps48
      go_wp2_with (first | (go_at_call 83; have _t := tok1; refine (isFrom0_any s 63 _).mono ?_; rintro r u ⟨rfl, rfl⟩; rw [ds]; clear tok1 _t) | (go_at_call 83; have _t := tok2; refine (isFrom0_any v 999 _).mono ?_; rintro r u ⟨rfl, rfl⟩; rw [dv]; clear tok2 _t))
      go_ret
      exact ⟨rfl, (Below.refl _ _).alloc (Nat.le_refl _) _⟩
  · have ds : decide (0 ≤ s ∧ s ≤ 63) = false := by simp; omega
    rw [if_pos (by intro q; exact hs q.1)]
    go_enter Tryd.func48, Tryd.ntmps48
    go_wp2_with (go_at_call 83; have _t := tok1; refine (isFrom0_any s 63 _).mono ?_; rintro r u ⟨rfl, rfl⟩; rw [ds]; clear tok1 _t)
    go_ret
    exact ⟨rfl, (Below.refl _ _).alloc (Nat.le_refl _) _⟩

set_option maxHeartbeats 8000000 in
theorem implSameEvents_any (s v k x s' v' k' x' : Int) (a a' : Option Addr) (c c' : Nat) (zs ys : List Int) (w : World) (hz : Has w .u8 a zs.length zs) (hy : Has w .u8 a' ys.length ys) :
    Calls Tryd.prog 49 #[.agg #[.int .i64 s, .int .i64 v, .int .i64 k, .int .i64 x, .slice a zs.length c], .agg #[.int .i64 s', .int .i64 v', .int .i64 k', .int .i64 x', .slice a' ys.length c']] w fun r w' => r = .returned (.bool (sameE s v k x s' v' k' x' zs ys)) ∧ Below w.heap.size w w' := by
  have hz' := (hz.alloc (.cells #[.int .i64 s, .int .i64 v, .int .i64 k, .int .i64 x, .slice a zs.length c] 46)).alloc (.cells #[.int .i64 s', .int .i64 v', .int .i64 k', .int .i64 x', .slice a' ys.length c'] 46)
  have hy' := (hy.alloc (.cells #[.int .i64 s, .int .i64 v, .int .i64 k, .int .i64 x, .slice a zs.length c] 46)).alloc (.cells #[.int .i64 s', .int .i64 v', .int .i64 k', .int .i64 x', .slice a' ys.length c'] 46)
  clear hz hy
  by_cases es : s = s'
  · subst es
    by_cases ev : v = v'
    · subst ev
      by_cases ek : k = k'
      · subst ek
        by_cases ex : x = x'
        · subst ex
          go_enter Tryd.func49, Tryd.ntmps49
          go_wp2_with (go_at_call 60; refine (bytesEqual_any a a' c c' zs ys _ hz' hy').mono ?_; rintro r u ⟨rfl, rfl⟩)
          go_ret
          exact ⟨ret_bool (by simp [sameE]), (((Below.refl _ _).alloc (Nat.le_refl _) _).alloc (by simp) _)⟩
        · have fx : (x == x') = false := by simpa using ex
          go_enter Tryd.func49, Tryd.ntmps49
          go_wp2_with (go_at_call 60; refine (bytesEqual_any a a' c c' zs ys _ hz' hy').mono ?_; rintro r u ⟨rfl, rfl⟩)
          go_ret
          exact ⟨ret_bool (by simp [sameE, ex]), (((Below.refl _ _).alloc (Nat.le_refl _) _).alloc (by simp) _)⟩
      · have fk : (k == k') = false := by simpa using ek
        go_enter Tryd.func49, Tryd.ntmps49
        go_wp2_with (go_at_call 60; refine (bytesEqual_any a a' c c' zs ys _ hz' hy').mono ?_; rintro r u ⟨rfl, rfl⟩)
        go_ret
        exact ⟨ret_bool (by simp [sameE, ek]), (((Below.refl _ _).alloc (Nat.le_refl _) _).alloc (by simp) _)⟩
    · have fv : (v == v') = false := by simpa using ev
      go_enter Tryd.func49, Tryd.ntmps49
      go_wp2_with (go_at_call 60; refine (bytesEqual_any a a' c c' zs ys _ hz' hy').mono ?_; rintro r u ⟨rfl, rfl⟩)
      go_ret
      exact ⟨ret_bool (by simp [sameE, ev]), (((Below.refl _ _).alloc (Nat.le_refl _) _).alloc (by simp) _)⟩
  · have fs : (s == s') = false := by simpa using es
    go_enter Tryd.func49, Tryd.ntmps49
    go_wp2_with (go_at_call 60; refine (bytesEqual_any a a' c c' zs ys _ hz' hy').mono ?_; rintro r u ⟨rfl, rfl⟩)
    go_ret
    exact ⟨ret_bool (by simp [sameE, es]), (((Below.refl _ _).alloc (Nat.le_refl _) _).alloc (by simp) _)⟩

end Go.Proofs.YtngibnmcagogaaaDoor
