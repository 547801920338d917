/- Contracts of the laws' own functions over results of slots: held against each other, marked, still there. -/
import Derived.Test.YtcngdbbfogdnhaaSlL
namespace Go.Proofs.Ytcngdbbfogdnhaa
open Go.ChangeShapes Go.WideShapes Go.ChangeAt Go.RowKit
set_option linter.unusedVariables false
set_option linter.unusedSimpArgs false

set_option maxHeartbeats 2000000 in
theorem markSlotS_any (base : Nat) (a : Option Addr) (c : Nat) (k : Int) (l : List Sl) (w : World) (hown : OwnS w base (.slice a l.length c) l) (hl : l.length ≤ 1048576) (k0 : 0 ≤ k) (k1 : k ≤ 8388608) :
    Calls Try.prog 12 #[.slice a l.length c, .int .i64 k] w fun r w' => r = .returned (.int .i64 (k + (l.length * 2 : Nat))) ∧ w'.ownsRow base 31 2 (.slice a l.length c) l.length ((markN k (l.length * 2)).map (.int .i64)) ∧ Mk a w w' := by
  have fl := flat_len l
  have PZ : Hid (markQ k (flat l) 0 = (flat l).map (.int .i64)) := markQ_zero k (flat l)
  have PA : Hid (markQ k (flat l) (l.length * 2) = (markN k (l.length * 2)).map (.int .i64)) := by
    have := markQ_all k (flat l)
    rw [fl] at this
    exact this
  have FL : Hid ((flat l).length = l.length * 2) := fl
  clear fl
  have hown' : w.ownsRow base 31 2 (.slice a l.length c) l.length ((flat l).map (.int .i64)) := hown
  rw [← PZ.out] at hown'
  rcases hown.2 with ⟨e, h0⟩ | ⟨g, cap, cur, e, _⟩
  · obtain rfl : l = [] := List.eq_nil_of_length_eq_zero h0
    simp at e
    obtain ⟨rfl, rfl⟩ := e
    have HO : Hid (_) := hown'
    clear hown hown'
    simp only [List.length_nil] at *
    go_enter Try.func12, Try.ntmps12
    go_wp2
    refine wp_loop_rounds 1 ?_
    rw [rounds_succ]
    go_wp2
    go_ret
    refine ⟨ret_int (by simp), ?_, Mk.refl _ _⟩
    exact ⟨by simp [markN], .inl ⟨rfl, rfl⟩⟩
  · simp at e
    obtain ⟨rfl, rfl⟩ := e
    clear hown
    go_enter Try.func12, Try.ntmps12
    go_wp2
    go_loopw [1, 5] (fun kk i wr => ∃ j : Nat, j ≤ l.length ∧ i = .int .i64 j ∧ kk = .int .i64 (k + (j * 2 : Nat)) ∧ wr.ownsRow base 31 2 (.slice (some ⟨g, 0, none⟩) l.length c) l.length (markQ k (flat l) (j * 2)) ∧ Mk (some ⟨g, 0, none⟩) w wr) (fun _ i _ => l.length - (intOf i).toNat)
    case atStart => exact ⟨0, Nat.zero_le _, rfl, by simp, hown', Mk.refl _ _⟩
    case round =>
      clear hown'
      obtain ⟨j, hj, rfl, rfl, hown, hmk⟩ := hrel
      by_cases hlt : j < l.length
      · have hlt' : (j : Int) < (l.length : Int) := by omega
        have p1 : j * 2 < (flat l).length := by rw [FL.out]; omega
        have p2 : j * 2 + 1 < (flat l).length := by rw [FL.out]; omega
        have c1 : wr.cell? ⟨g, j * 2, none⟩ = some (.int .i64 (flat l)[j * 2]) := (hown.cellAt (j * 2) (by omega)).trans (markQ_cell k _ _ p1)
        have f1 := hown.frozenAt (j * 2)
        have s1 := (hown.stored (j * 2) (.int .i64 (k + ((j * 2 : Nat) : Int)))).1
        rw [markQ_set k _ _ p1] at s1
        have c2 : (wr.setCell ⟨g, j * 2, none⟩ (.int .i64 (k + ((j * 2 : Nat) : Int)))).cell? ⟨g, j * 2 + 1, none⟩ = some (.int .i64 (flat l)[j * 2 + 1]) := (s1.cellAt (j * 2 + 1) (by omega)).trans (markQ_cell k _ _ p2)
        have f2 := s1.frozenAt (j * 2 + 1)
        have s2 := (s1.stored (j * 2 + 1) (.int .i64 (k + ((j * 2 + 1 : Nat) : Int)))).1
        rw [markQ_set k _ _ p2] at s2
        have e2 : k + ((j * 2 : Nat) : Int) + 1 = k + ((j * 2 + 1 : Nat) : Int) := by omega
        rw [← e2] at s2
        have HST : Hid (_) := s2
        generalize (flat l)[j * 2] = x at c1
        generalize (flat l)[j * 2 + 1] = y at c2
        have hkj : k + ((j * 2 : Nat) : Int) = k + ((j : Int) * 2) := by omega
        clear s1 s2 hown p1 p2 e2
        rw [hkj] at HST c2 f2 ⊢
        clear hkj
        go_wp2
        go_roundw
        case rel => exact ⟨j + 1, by omega, by go_num, by go_num, by have := HST.out; rw [show (j + 1) * 2 = j * 2 + 1 + 1 by omega]; exact this, (hmk.store _).store _⟩
        case measure => simp [intOf]; omega
      · have hjj : j = l.length := by omega
        have HK : Hid (j = l.length) := hjj
        clear hjj
        go_wp2
        go_ret
        refine ⟨ret_int (by rw [HK.out]), ?_, hmk⟩
        rw [HK.out, PA.out] at hown
        exact hown

set_option maxHeartbeats 2000000 in
theorem heldSlotS_any (a : Option Addr) (c : Nat) (k : Int) (n : Nat) (w : World) (h : Has w .i64 a (n * 2) (markN k (n * 2))) (hl : n ≤ 1048576) (k0 : 0 ≤ k) (k1 : k ≤ 8388608) :
    Calls Try.prog 29 #[.slice a n c, .int .i64 k] w fun r w' => r = .returned (.int .i64 (k + (n * 2 : Nat))) ∧ Below w.heap.size w w' := by
  have hc := h.2.2
  rcases hc with h0 | ⟨b, off, rfl, hb, hcell⟩
  · obtain rfl : n = 0 := by omega
    go_enter Try.func29, Try.ntmps29
    go_wp2
    refine wp_loop_rounds 1 ?_
    rw [rounds_succ]
    go_wp2
    go_ret
    exact ⟨ret_int (by simp), Below.refl _ _⟩
  · clear h
    go_enter Try.func29, Try.ntmps29
    go_wp2
    go_loopw [1, 5] (fun kk i wr => ∃ j m : Nat, j ≤ n ∧ i = .int .i64 j ∧ kk = .int .i64 (k + (j * 2 : Nat)) ∧ wr = w.drewN m) (fun _ i _ => n - (intOf i).toNat)
    case atStart => exact ⟨0, 0, Nat.zero_le _, rfl, by simp, rfl⟩
    case round =>
      obtain ⟨j, m, hj, rfl, rfl, rfl⟩ := hrel
      have hkj : k + ((j * 2 : Nat) : Int) = k + ((j : Int) * 2) := by omega
      rw [hkj]
      by_cases hlt : j < n
      · have hlt' : (j : Int) < (n : Int) := by omega
        have e1 : w.cell? ⟨b, off + j * 2, none⟩ = some (.int .i64 (k + (j : Int) * 2)) := by rw [hcell (j * 2) (by omega), markN_get k (n * 2) (j * 2) (by omega)]; congr 2 <;> omega
        have e2 : w.cell? ⟨b, off + j * 2 + 1, none⟩ = some (.int .i64 (k + (j : Int) * 2 + 1)) := by rw [Nat.add_assoc, hcell (j * 2 + 1) (by omega), markN_get k (n * 2) (j * 2 + 1) (by omega)]; congr 2 <;> omega
        have e3 : (k + (j : Int) * 2 != k + (j : Int) * 2) = false := by simp
        have e4 : (k + (j : Int) * 2 + 1 != k + (j : Int) * 2 + 1) = false := by simp
        clear hcell hkj
        go_wp2
        try go_quiet (fail)
        try go_wp2
        try go_quiet (fail)
        try go_wp2
        go_roundw
        case rel => exact ⟨j + 1, _, by omega, by go_num, by go_num, rfl⟩
        case measure => simp [intOf]; omega
      · have hjj : j = n := by omega
        subst hjj
        clear hkj
        go_wp2
        go_ret
        exact ⟨ret_int (by omega), below_drewN (Below.refl _ _) _⟩

set_option maxHeartbeats 1000000 in
theorem eqSlotsR_any (cd : Int) (a b : Option Addr) (ca cb : Nat) (l : List Sl) (w : World) (ha : HasS w a l) (hb : HasS w b l) (hl : l.length ≤ 1048576) :
    Calls Try.prog 10 #[.agg #[.int .i64 cd, .slice a l.length ca], .agg #[.int .i64 cd, .slice b l.length cb]] w fun r w' => r = .returned (.bool true) ∧ Below w.heap.size w w' := by
  have hcc : (cd != cd) = false := by simp
  have A := (ha.alloc (.cells #[.int .i64 cd, .slice a l.length ca] 28)).alloc (.cells #[.int .i64 cd, .slice b l.length cb] 28)
  have B := (hb.alloc (.cells #[.int .i64 cd, .slice a l.length ca] 28)).alloc (.cells #[.int .i64 cd, .slice b l.length cb] 28)
  go_enter Try.func10, Try.ntmps10
  go_wp2_with (go_at_call 11; refine (eqSlotS_any a b ca cb l _ A B hl).mono ?_; rintro r u1 ⟨rfl, hb1⟩)
  go_ret
  exact ⟨rfl, (((Below.refl _ _).alloc (Nat.le_refl _) _).alloc (by simp) _).trans (hb1.mono (by simp; omega))⟩

set_option maxHeartbeats 1000000 in
theorem markSlotsR_any (base : Nat) (cd : Int) (a : Option Addr) (c : Nat) (l : List Sl) (w : World) (hown : OwnS w base (.slice a l.length c) l) (hl : l.length ≤ 1048576) :
    Calls Try.prog 13 #[.agg #[.int .i64 cd, .slice a l.length c], .int .i64 1] w fun r w' => r = .returned (.int .i64 (1 + (l.length * 2 : Nat))) ∧ w'.ownsRow base 31 2 (.slice a l.length c) l.length ((markN 1 (l.length * 2)).map (.int .i64)) ∧ Mk a (w.alloc (.cells #[.int .i64 cd, .slice a l.length c] 28)) w' := by
  go_enter Try.func13, Try.ntmps13
  go_wp2_with (go_at_call 12; refine (markSlotS_any base a c 1 l _ (own2_below hown ((Below.refl _ _).alloc (Nat.le_refl _) _)) hl (by omega) (by omega)).mono ?_; rintro r u1 ⟨rfl, ho1, hm1⟩)
  go_ret
  exact ⟨rfl, ho1, hm1⟩

set_option maxHeartbeats 1000000 in
theorem heldSlotsR_any (cd : Int) (a : Option Addr) (c : Nat) (n : Nat) (w : World) (h : Has w .i64 a (n * 2) (markN 1 (n * 2))) (hl : n ≤ 1048576) :
    Calls Try.prog 14 #[.agg #[.int .i64 cd, .slice a n c], .int .i64 1] w fun r w' => r = .returned (.int .i64 (1 + (n * 2 : Nat))) ∧ Below w.heap.size w w' := by
  have hn : ¬ (1 + ((n * 2 : Nat) : Int)) < 0 := by omega
  have hn' : (0 : Int) ≤ 1 + ((n * 2 : Nat) : Int) := by omega
  go_enter Try.func14, Try.ntmps14
  go_wp2_with (go_at_call 29; refine (heldSlotS_any a c 1 n _ (h.alloc _) hl (by omega) (by omega)).mono ?_; rintro r u1 ⟨rfl, hb1⟩)
  go_ret
  exact ⟨rfl, ((Below.refl _ _).alloc (Nat.le_refl _) _).trans (hb1.mono (by simp))⟩

end Go.Proofs.Ytcngdbbfogdnhaa
