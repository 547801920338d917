/- Contracts: the model's walk through a list for its least or most. -/
import Derived.Test.YtinjppnnggeebaaBest
namespace Go.Proofs.Ytinjppnnggeebaa
open Go.ChangeShapes Go.WideShapes Go.ChangeAt Go.RowKit
set_option linter.unusedVariables false

set_option maxHeartbeats 4000000 in
theorem least_spec (a : Option Addr) (cap : Nat) (zs : List Int) (w : World) (h : Has w .i64 a zs.length zs) (m : Bool) :
    Calls Try.prog 42 #[.slice a zs.length cap, .bool m] w fun r w' => r = .returned (.agg #[.int .i64 (bestCode m zs), .int .i64 (bestVal m zs)]) ∧ Below w.heap.size w w' := by
  obtain ⟨_, hwf, hc⟩ := h
  by_cases hm : 40 < zs.length
  · have e1 : bestCode m zs = 2 := by unfold bestCode; rw [if_pos hm]
    have e2 : bestVal m zs = 0 := by unfold bestVal; rw [if_pos hm]
    rw [e1, e2]
    clear e1 e2 hc
    have hm' : (40 : Int) < (zs.length : Int) := by omega
    go_enter Try.func42, Try.ntmps42
    go_wp2
    refine bodyPost_ret (v := .agg #[.int .i64 2, .int .i64 0]) (by simp [results, Try.results42, go_sem]) rfl ⟨rfl, ?_⟩
    repeat (first | exact Below.refl _ _ | refine Below.alloc ?_ (by (try simp) <;> omega) _ | refine Below.setCell ?_ (by (try simp) <;> omega) _)
  · have e1 : bestCode m zs = (cells2 (best m zs)).1 := by unfold bestCode cells2; rw [if_neg hm]; cases best m zs <;> rfl
    have e2 : bestVal m zs = (cells2 (best m zs)).2 := by unfold bestVal cells2; rw [if_neg hm]; cases best m zs <;> rfl
    rw [e1, e2]
    clear e1 e2
    have hm' : (zs.length : Int) ≤ 40 := by omega
    have hd : decide ((40 : Int) < (zs.length : Int)) = false := by simp; omega
    rcases hc with h0 | ⟨b, off, rfl, hb, hcell⟩
    · obtain rfl : zs = [] := List.eq_nil_of_length_eq_zero h0
      clear h0 hm hm' hd
      have ee : best m [] = none := rfl
      rw [ee]
      simp only [List.length_nil]
      go_enter Try.func42, Try.ntmps42
      go_wp2
      refine wp_loop_rounds 1 ?_
      rw [rounds_succ]
      go_wp2
      refine bodyPost_ret (v := .agg #[.int .i64 4, .int .i64 0]) (by simp [results, Try.results42, go_sem]) rfl ⟨rfl, ?_⟩
      repeat (first | exact Below.refl _ _ | refine Below.alloc ?_ (by (try simp) <;> omega) _ | refine Below.setCell ?_ (by (try simp) <;> omega) _)
    · have hbest : best m (zs.take zs.length) = best m zs := by rw [List.take_length]
      have HB : Hid (_) := hbest
      clear hbest
      go_enter Try.func42, Try.ntmps42
      go_wp2
      go_loopw [5, 6] (fun s i wr => ∃ k : Nat, k ≤ zs.length ∧ i = .int .i64 k ∧ Below (w.heap.size + 1) (w.alloc (.cells #[.int .i64 0, .int .i64 0] 29)) wr ∧ ((s = .int .i64 (-1) ∧ best m (zs.take k) = none) ∨ ∃ (jn : Nat) (c : Int), s = .int .i64 jn ∧ jn < k ∧ zs[jn]? = some c ∧ best m (zs.take k) = some c)) (fun _ i _ => zs.length - (intOf i).toNat)
      case atStart => exact ⟨0, Nat.zero_le _, rfl, Below.refl _ _, .inl ⟨rfl, rfl⟩⟩
      case round =>
        obtain ⟨k, hk, rfl, hbel, hst⟩ := hrel
        have hcells : ∀ i (hi : i < zs.length), wr.cell? ⟨b, off + i, none⟩ = some (.int .i64 zs[i]) := fun i hi => (cell_keep hbel hb).trans (by rw [hcell i hi]; simp [List.getD, hi])
        by_cases hlt : k < zs.length
        · have hx := hcells k hlt
          have hbd := bounds_i64 (hwf zs[k] (List.getElem_mem hlt))
          have hS := best_succ m zs k hlt
          have hlt' : (k : Int) < (zs.length : Int) := by omega
          rcases hst with ⟨rfl, hs⟩ | ⟨jn, c, rfl, hj, hjc, hs⟩
          · rw [hs] at hS
            by_cases hn : nanB zs[k] = true
            · rw [step_nan hn] at hS
              have HS : Hid (_) := hS
              clear hS hs hcells
              go_wp2_with (go_at_call 47; refine (nan_any _ _ hbd.1 hbd.2).mono ?_; rintro r u1 ⟨rfl, rfl⟩)
              go_roundw
              case rel => exact ⟨k + 1, by omega, by go_num, hbel, .inl ⟨rfl, HS.out⟩⟩
              case measure => simp [intOf]; omega
            · have hn' : nanB zs[k] = false := by simpa using hn
              rw [step_none hn'] at hS
              have HS : Hid (_) := hS
              clear hS hs hcells hn
              go_wp2_with (go_at_call 47; refine (nan_any _ _ hbd.1 hbd.2).mono ?_; rintro r u1 ⟨rfl, rfl⟩)
              go_quiet (fail)
              go_wp2
              go_roundw
              case rel => exact ⟨k + 1, by omega, by go_num, below_drewN hbel _, .inr ⟨k, zs[k], rfl, by omega, by simp [hlt], HS.out⟩⟩
              case measure => simp [intOf]; omega
          · rw [hs] at hS
            have hjl : jn < zs.length := by omega
            have hjc' : zs[jn] = c := by simpa [hjl] using hjc
            have hxj := hcells jn hjl
            rw [hjc'] at hxj
            have hcd := bounds_i64 (hwf c (by rw [← hjc']; exact List.getElem_mem hjl))
            have hjl' : (jn : Int) < (zs.length : Int) := by omega
            have hj0 : decide ((jn : Int) < 0) = false := by simp
            by_cases hn : nanB zs[k] = true
            · rw [step_nan hn] at hS
              have HS : Hid (_) := hS
              have HJ : Hid (_) := hjc
              clear hS hs hcells hjc hjc'
              go_wp2_with (go_at_call 47; refine (nan_any _ _ hbd.1 hbd.2).mono ?_; rintro r u1 ⟨rfl, rfl⟩)
              go_roundw
              case rel => exact ⟨k + 1, by omega, by go_num, hbel, .inr ⟨jn, c, rfl, by omega, HJ.out, HS.out⟩⟩
              case measure => simp [intOf]; omega
            · have hn' : nanB zs[k] = false := by simpa using hn
              by_cases hy : better m zs[k] c = true
              · rw [step_yes hn' hy] at hS
                have HS : Hid (_) := hS
                clear hS hs hcells hn hjc hjc'
                cases m
                · have hya : aheadB zs[k] c = true := hy
                  clear hy
                  go_wp2_with (go_at_call 47; refine (nan_any _ _ hbd.1 hbd.2).mono ?_; rintro r u1 ⟨rfl, rfl⟩)
                  go_quiet ((go_at_call 38; exact Calls.quiet_of_same (ahead_spec1 _ _ _ hbd.1 hbd.2 hcd.1 hcd.2)))
                  go_wp2
                  go_roundw
                  case rel => exact ⟨k + 1, by omega, by go_num, below_drewN hbel _, .inr ⟨k, zs[k], rfl, by omega, by simp [hlt], HS.out⟩⟩
                  case measure => simp [intOf]; omega
                · have hya : aheadB c zs[k] = true := hy
                  clear hy
                  go_wp2_with (go_at_call 47; refine (nan_any _ _ hbd.1 hbd.2).mono ?_; rintro r u1 ⟨rfl, rfl⟩)
                  go_quiet ((go_at_call 38; exact Calls.quiet_of_same (ahead_spec1 _ _ _ hcd.1 hcd.2 hbd.1 hbd.2)))
                  go_wp2
                  go_roundw
                  case rel => exact ⟨k + 1, by omega, by go_num, below_drewN hbel _, .inr ⟨k, zs[k], rfl, by omega, by simp [hlt], HS.out⟩⟩
                  case measure => simp [intOf]; omega
              · have hy' : better m zs[k] c = false := by simpa using hy
                rw [step_no hn' hy'] at hS
                have HS : Hid (_) := hS
                have HJ : Hid (_) := hjc
                clear hS hs hcells hn hjc hjc' hy
                cases m
                · have hya : aheadB zs[k] c = false := hy'
                  clear hy'
                  go_wp2_with (go_at_call 47; refine (nan_any _ _ hbd.1 hbd.2).mono ?_; rintro r u1 ⟨rfl, rfl⟩)
                  go_quiet ((go_at_call 38; exact Calls.quiet_of_same (ahead_spec1 _ _ _ hbd.1 hbd.2 hcd.1 hcd.2)))
                  go_wp2
                  go_roundw
                  case rel => exact ⟨k + 1, by omega, by go_num, below_drewN hbel _, .inr ⟨jn, c, rfl, by omega, HJ.out, HS.out⟩⟩
                  case measure => simp [intOf]; omega
                · have hya : aheadB c zs[k] = false := hy'
                  clear hy'
                  go_wp2_with (go_at_call 47; refine (nan_any _ _ hbd.1 hbd.2).mono ?_; rintro r u1 ⟨rfl, rfl⟩)
                  go_quiet ((go_at_call 38; exact Calls.quiet_of_same (ahead_spec1 _ _ _ hcd.1 hcd.2 hbd.1 hbd.2)))
                  go_wp2
                  go_roundw
                  case rel => exact ⟨k + 1, by omega, by go_num, below_drewN hbel _, .inr ⟨jn, c, rfl, by omega, HJ.out, HS.out⟩⟩
                  case measure => simp [intOf]; omega
        · have hkk : k = zs.length := by omega
          have HK : Hid (k = zs.length) := hkk
          clear hkk
          obtain ⟨hr0, hr1, hr2, hr3⟩ := res_keep hbel
          rcases hst with ⟨rfl, hs⟩ | ⟨jn, c, rfl, hj, hjc, hs⟩
          · rw [HK.out, HB.out] at hs
            have HS : Hid (_) := hs
            clear hs hcells
            go_wp2
            refine bodyPost_ret (v := .agg #[.int .i64 4, .int .i64 0]) (by simp [results, Try.results42, go_sem, hr0, hr1]) rfl ⟨by rw [HS.out]; rfl, ?_⟩
            exact ((((Below.refl _ _).alloc (Nat.le_refl _) _).trans (hbel.mono (by omega))).setCell (by simp) _).setCell (by simp) _
          · rw [HK.out, HB.out] at hs
            have hjl : jn < zs.length := by omega
            have hjc' : zs[jn] = c := by simpa [hjl] using hjc
            have hxj := hcells jn hjl
            rw [hjc'] at hxj
            have HS : Hid (_) := hs
            have hjl' : (jn : Int) < (zs.length : Int) := by omega
            clear hs hcells hjc hjc'
            go_wp2
            refine bodyPost_ret (v := .agg #[.int .i64 0, .int .i64 c]) (by simp [results, Try.results42, go_sem, hr0, hr1]) rfl ⟨by rw [HS.out]; rfl, ?_⟩
            exact ((((Below.refl _ _).alloc (Nat.le_refl _) _).trans (hbel.mono (by omega))).setCell (by simp) _).setCell (by simp) _

set_option maxHeartbeats 1000000 in
theorem LeastOf_spec (a : Option Addr) (cap : Nat) (zs : List Int) (w : World) (h : Has w .i64 a zs.length zs) :
    Calls Try.prog 25 #[.slice a zs.length cap] w fun r w' => r = .returned (.agg #[.int .i64 (bestCode false zs), .int .i64 (bestVal false zs)]) ∧ Below w.heap.size w w' := by
  have h' : Has (w.alloc (.cells #[.int .i64 0, .int .i64 0] 29)) .i64 a zs.length zs := h.below ((Below.refl _ _).alloc (Nat.le_refl _) _) (Nat.le_refl _)
  go_enter Try.func25, Try.ntmps25
  go_wp2_with (go_at_call 42; refine (least_spec a cap zs _ h' false).mono ?_; rintro r u1 ⟨rfl, hb1⟩; obtain ⟨hc1, hf1⟩ := bcell hb1; have hz1 := hb1.size; (try simp at hz1))
  refine bodyPost_ret (v := .agg #[.int .i64 (bestCode false zs), .int .i64 (bestVal false zs)]) (by simp [results, Try.results25, go_sem, hc1]) rfl ⟨rfl, ?_⟩
  repeat (first | exact Below.refl _ _ | (refine Below.alloc ?_ (by (try simp) <;> omega) _) | (refine Below.setCell ?_ (by (try simp) <;> omega) _) | (refine Below.trans ?_ (hb1.mono (by (try simp) <;> omega))))

set_option maxHeartbeats 1000000 in
theorem MostOf_spec (a : Option Addr) (cap : Nat) (zs : List Int) (w : World) (h : Has w .i64 a zs.length zs) :
    Calls Try.prog 26 #[.slice a zs.length cap] w fun r w' => r = .returned (.agg #[.int .i64 (bestCode true zs), .int .i64 (bestVal true zs)]) ∧ Below w.heap.size w w' := by
  have h' : Has (w.alloc (.cells #[.int .i64 0, .int .i64 0] 29)) .i64 a zs.length zs := h.below ((Below.refl _ _).alloc (Nat.le_refl _) _) (Nat.le_refl _)
  go_enter Try.func26, Try.ntmps26
  go_wp2_with (go_at_call 42; refine (least_spec a cap zs _ h' true).mono ?_; rintro r u1 ⟨rfl, hb1⟩; obtain ⟨hc1, hf1⟩ := bcell hb1; have hz1 := hb1.size; (try simp at hz1))
  refine bodyPost_ret (v := .agg #[.int .i64 (bestCode true zs), .int .i64 (bestVal true zs)]) (by simp [results, Try.results26, go_sem, hc1]) rfl ⟨rfl, ?_⟩
  repeat (first | exact Below.refl _ _ | (refine Below.alloc ?_ (by (try simp) <;> omega) _) | (refine Below.setCell ?_ (by (try simp) <;> omega) _) | (refine Below.trans ?_ (hb1.mono (by (try simp) <;> omega))))

set_option maxHeartbeats 1000000 in
theorem LeastOf_impl (a : Option Addr) (cap : Nat) (zs : List Int) (w : World) (h : Has w .i64 a zs.length zs) :
    Calls Try.prog 23 #[.slice a zs.length cap] w fun r w' => r = .returned (.agg #[.int .i64 (bestCode false zs), .int .i64 (bestVal false zs)]) ∧ Below w.heap.size w w' := by
  have h' : Has (w.alloc (.cells #[.int .i64 0, .int .i64 0] 29)) .i64 a zs.length zs := h.below ((Below.refl _ _).alloc (Nat.le_refl _) _) (Nat.le_refl _)
  go_enter Try.func23, Try.ntmps23
  go_wp2_with (go_at_call 40; refine (first_least a cap zs _ h').mono ?_; rintro r u1 ⟨rfl, hb1⟩; obtain ⟨hc1, hf1⟩ := bcell hb1; have hz1 := hb1.size; (try simp at hz1))
  refine bodyPost_ret (v := .agg #[.int .i64 (bestCode false zs), .int .i64 (bestVal false zs)]) (by simp [results, Try.results23, go_sem, hc1]) rfl ⟨rfl, ?_⟩
  repeat (first | exact Below.refl _ _ | (refine Below.alloc ?_ (by (try simp) <;> omega) _) | (refine Below.setCell ?_ (by (try simp) <;> omega) _) | (refine Below.trans ?_ (hb1.mono (by (try simp) <;> omega))))

set_option maxHeartbeats 1000000 in
theorem MostOf_impl (a : Option Addr) (cap : Nat) (zs : List Int) (w : World) (h : Has w .i64 a zs.length zs) :
    Calls Try.prog 24 #[.slice a zs.length cap] w fun r w' => r = .returned (.agg #[.int .i64 (bestCode true zs), .int .i64 (bestVal true zs)]) ∧ Below w.heap.size w w' := by
  have h' : Has (w.alloc (.cells #[.int .i64 0, .int .i64 0] 29)) .i64 a zs.length zs := h.below ((Below.refl _ _).alloc (Nat.le_refl _) _) (Nat.le_refl _)
  go_enter Try.func24, Try.ntmps24
  go_wp2_with (go_at_call 40; refine (first_most a cap zs _ h').mono ?_; rintro r u1 ⟨rfl, hb1⟩; obtain ⟨hc1, hf1⟩ := bcell hb1; have hz1 := hb1.size; (try simp at hz1))
  refine bodyPost_ret (v := .agg #[.int .i64 (bestCode true zs), .int .i64 (bestVal true zs)]) (by simp [results, Try.results24, go_sem, hc1]) rfl ⟨rfl, ?_⟩
  repeat (first | exact Below.refl _ _ | (refine Below.alloc ?_ (by (try simp) <;> omega) _) | (refine Below.setCell ?_ (by (try simp) <;> omega) _) | (refine Below.trans ?_ (hb1.mono (by (try simp) <;> omega))))

end Go.Proofs.Ytinjppnnggeebaa
