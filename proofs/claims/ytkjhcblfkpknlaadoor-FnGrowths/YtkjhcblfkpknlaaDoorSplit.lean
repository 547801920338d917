/- Contracts: the fault of a list of leaves. Contracts: the split of a size. -/
import Derived.Test.YtkjhcblfkpknlaaDoorInts
import Derived.Test.YtkjhcblfkpknlaaDoorIn
import Derived.Test.YtkjhcblfkpknlaaDoorGrowD
namespace Go.Proofs.YtkjhcblfkpknlaaDoor
open Go.ChangeShapes Go.WideShapes Go.ChangeAt Go.RowKit
set_option linter.unusedVariables false
set_option linter.unusedSimpArgs false

/-- Whether all numbers of a list are sums. -/
def allS (zs : List Int) : Bool := zs.all fun z => decide (0 ≤ z ∧ z ≤ 65520)
theorem allS_take {zs : List Int} (h : allS zs = true) (k : Nat) : allS (zs.take k) = true := by
  unfold allS at *; rw [List.all_eq_true] at *; exact fun x hx => h x (List.mem_of_mem_take hx)
theorem allS_drop {zs : List Int} (h : allS zs = true) (k : Nat) : allS (zs.drop k) = true := by
  unfold allS at *; rw [List.all_eq_true] at *; exact fun x hx => h x (List.mem_of_mem_drop hx)
theorem allS_get {zs : List Int} (h : allS zs = true) (k : Nat) (hk : k < zs.length) : 0 ≤ zs[k] ∧ zs[k] ≤ 65520 := by
  unfold allS at h; rw [List.all_eq_true] at h; exact of_decide_eq_true (h _ (List.getElem_mem hk))
theorem allS_snoc (zs : List Int) (k : Nat) (hk : k < zs.length) : allS (zs.take (k + 1)) = (allS (zs.take k) && decide (0 ≤ zs[k] ∧ zs[k] ≤ 65520)) := by
  unfold allS; rw [List.take_succ_eq_append_getElem hk, List.all_append]; simp
/-- The fault of a list of leaves. -/
def lvF (zs : List Int) : Int := if 24 < zs.length then 2 else if allS zs = true then 0 else 3
/-- The fault of a list of sums, however many. -/
def suF (zs : List Int) : Int := if allS zs = true then 0 else 3

theorem isSumF_any (v : Int) (w : World) : Calls Tryd.prog 63 #[.int .i64 v] w fun r w' => r = .returned (.bool (decide (0 ≤ v ∧ v ≤ 65520))) ∧ w' = w := by
  by_cases h : 0 ≤ v
  · go_enter Tryd.func63, Tryd.ntmps63
    go_wp2
    go_ret
    exact ⟨ret_bool (by simp [h]), rfl⟩
  · go_enter Tryd.func63, Tryd.ntmps63
    go_wp2
    go_ret
    exact ⟨ret_bool (by simp; omega), rfl⟩

theorem allS_false {zs : List Int} {k : Nat} (hk : k < zs.length) (h : decide (0 ≤ zs[k] ∧ zs[k] ≤ 65520) = false) : allS zs = false := by
  rw [Bool.eq_false_iff]; intro e; have := allS_get e k hk; simp at h; omega

set_option maxHeartbeats 1000000 in
theorem l1All_any (a : Option Addr) (c : Nat) (zs : List Int) (w : World) (h : Has w .i64 a zs.length zs) (hl : zs.length ≤ 1048576) :
    Calls Tryd.prog 88 #[.slice a zs.length c, .int .i64 0, .int .i64 65520] w fun r w' => r = .returned (.bool (allS zs)) ∧ w' = w := by
  obtain ⟨_, _, h⟩ := h
  rcases h with h0 | ⟨b1, o1, rfl, _, hc1⟩
  · obtain rfl : zs = [] := List.eq_nil_of_length_eq_zero h0
    clear h0
    simp only [List.length_nil] at *
    go_enter Tryd.func88, Tryd.ntmps88
    go_wp2
    refine wp_loop_rounds 1 ?_
    rw [rounds_succ]
    go_wp2
    go_ret
    exact ⟨ret_bool rfl, rfl⟩
  · go_enter Tryd.func88, Tryd.ntmps88
    go_wp2
    go_loop [7] (fun i => ∃ k : Nat, k ≤ zs.length ∧ i = .int .i64 k ∧ allS (zs.take k) = true) (fun i => zs.length - (intOf i).toNat)
    case atStart => exact ⟨0, Nat.zero_le _, rfl, rfl⟩
    case round =>
      obtain ⟨k, hk, rfl, ha⟩ := hrel
      have HA : Hid (allS (zs.take k) = true) := ha
      clear ha
      by_cases hlt : k < zs.length
      · have e1 : w.cell? ⟨b1, o1 + k, none⟩ = some (.int .i64 zs[k]) := by rw [hc1 k hlt]; simp [List.getD, hlt]
        have hlt' : (k : Int) < (zs.length : Int) := by omega
        have HS : Hid (_) := allS_snoc zs k hlt
        cases hd : decide (0 ≤ zs[k] ∧ zs[k] ≤ 65520)
        · have HF : Hid (allS zs = false) := allS_false hlt hd
          go_wp2_with (go_at_call 75; refine (in_any _ 0 65520 _).mono ?_; rintro r u1 ⟨rfl, rfl⟩; rw [hd])
          go_ret
          exact ⟨ret_bool HF.out.symm, rfl⟩
        · have HD : Hid (decide (0 ≤ zs[k] ∧ zs[k] ≤ 65520) = true) := hd
          go_wp2_with (go_at_call 75; refine (in_any _ 0 65520 _).mono ?_; rintro r u1 ⟨rfl, rfl⟩; rw [hd])
          go_round
          case rel => exact ⟨k + 1, by omega, by go_num, by rw [HS.out, HA.out, HD.out]; rfl⟩
          case measure => simp [intOf]; omega
      · have hkk : k = zs.length := by omega
        have HK : Hid (k = zs.length) := hkk
        clear hkk
        go_wp2
        go_ret
        exact ⟨ret_bool (by have := HA.out; rw [HK.out, List.take_length] at this; exact this.symm), rfl⟩

set_option maxHeartbeats 1000000 in
theorem sumsFault_any (a : Option Addr) (c : Nat) (zs : List Int) (w : World) (h : Has w .i64 a zs.length zs) (hl : zs.length ≤ 1048576) :
    Calls Tryd.prog 64 #[.slice a zs.length c] w fun r w' => r = .returned (.int .i64 (suF zs)) ∧ w' = w := by
  obtain ⟨_, _, h⟩ := h
  rcases h with h0 | ⟨b1, o1, rfl, _, hc1⟩
  · obtain rfl : zs = [] := List.eq_nil_of_length_eq_zero h0
    clear h0
    simp only [List.length_nil] at *
    go_enter Tryd.func64, Tryd.ntmps64
    go_wp2
    refine wp_loop_rounds 1 ?_
    rw [rounds_succ]
    go_wp2
    go_ret
    exact ⟨ret_int rfl, rfl⟩
  · go_enter Tryd.func64, Tryd.ntmps64
    go_wp2
    go_loop [7] (fun i => ∃ k : Nat, k ≤ zs.length ∧ i = .int .i64 k ∧ allS (zs.take k) = true) (fun i => zs.length - (intOf i).toNat)
    case atStart => exact ⟨0, Nat.zero_le _, rfl, rfl⟩
    case round =>
      obtain ⟨k, hk, rfl, ha⟩ := hrel
      have HA : Hid (allS (zs.take k) = true) := ha
      clear ha
      by_cases hlt : k < zs.length
      · have e1 : w.cell? ⟨b1, o1 + k, none⟩ = some (.int .i64 zs[k]) := by rw [hc1 k hlt]; simp [List.getD, hlt]
        have hlt' : (k : Int) < (zs.length : Int) := by omega
        have HS : Hid (_) := allS_snoc zs k hlt
        cases hd : decide (0 ≤ zs[k] ∧ zs[k] ≤ 65520)
        · have HF : Hid (allS zs = false) := allS_false hlt hd
          go_wp2_with (go_at_call 63; refine (isSumF_any _ _).mono ?_; rintro r u1 ⟨rfl, rfl⟩; rw [hd])
          go_ret
          exact ⟨ret_int (by unfold suF; rw [if_neg (by rw [HF.out]; simp)]), rfl⟩
        · have HD : Hid (decide (0 ≤ zs[k] ∧ zs[k] ≤ 65520) = true) := hd
          go_wp2_with (go_at_call 63; refine (isSumF_any _ _).mono ?_; rintro r u1 ⟨rfl, rfl⟩; rw [hd])
          go_round
          case rel => exact ⟨k + 1, by omega, by go_num, by rw [HS.out, HA.out, HD.out]; rfl⟩
          case measure => simp [intOf]; omega
      · have hkk : k = zs.length := by omega
        have HK : Hid (k = zs.length) := hkk
        clear hkk
        go_wp2
        go_ret
        exact ⟨ret_int (by unfold suF; rw [if_pos (by have := HA.out; rw [HK.out, List.take_length] at this; exact this)]), rfl⟩

theorem l4Fault_any (a : Option Addr) (c : Nat) (zs : List Int) (w : World) (h : Has w .i64 a zs.length zs) (hl : zs.length ≤ 1048576) :
    Calls Tryd.prog 74 #[.slice a zs.length c] w fun r w' => r = .returned (.int .i64 (lvF zs)) ∧ w' = w := by
  unfold lvF
  by_cases h24 : 24 < zs.length
  · have h24' : (24 : Int) < (zs.length : Int) := by omega
    rw [if_pos h24]
    go_enter Tryd.func74, Tryd.ntmps74
    go_wp2
    go_ret
    exact ⟨rfl, rfl⟩
  · have h24' : ¬ (24 : Int) < (zs.length : Int) := by omega
    rw [if_neg h24]
    cases ha : allS zs
    · go_enter Tryd.func74, Tryd.ntmps74
      go_wp2_with (go_at_call 88; refine (l1All_any _ _ zs _ h hl).mono ?_; rintro r u1 ⟨rfl, rfl⟩; rw [ha])
      go_ret
      exact ⟨rfl, rfl⟩
    · go_enter Tryd.func74, Tryd.ntmps74
      go_wp2_with (go_at_call 88; refine (l1All_any _ _ zs _ h hl).mono ?_; rintro r u1 ⟨rfl, rfl⟩; rw [ha])
      go_ret
      exact ⟨rfl, rfl⟩

theorem specLeavesFault_any (a : Option Addr) (c : Nat) (zs : List Int) (w : World) (h : Has w .i64 a zs.length zs) (hl : zs.length ≤ 1048576) :
    Calls Tryd.prog 24 #[.slice a zs.length c] w fun r w' => r = .returned (.int .i64 (lvF zs)) ∧ w' = w := by
  go_enter Tryd.func24, Tryd.ntmps24
  go_wp2_with (go_at_call 74; refine (l4Fault_any _ _ zs _ h hl).mono ?_; rintro r u1 ⟨rfl, rfl⟩)
  go_ret
  exact ⟨rfl, rfl⟩

theorem implLeavesFault_any (a : Option Addr) (c : Nat) (zs : List Int) (w : World) (h : Has w .i64 a zs.length zs) (hl : zs.length ≤ 1048576) :
    Calls Tryd.prog 23 #[.slice a zs.length c] w fun r w' => r = .returned (.int .i64 (lvF zs)) ∧ w' = w := by
  unfold lvF
  by_cases h24 : 24 < zs.length
  · have h24' : (24 : Int) < (zs.length : Int) := by omega
    rw [if_pos h24]
    go_enter Tryd.func23, Tryd.ntmps23
    go_wp2
    go_ret
    exact ⟨rfl, rfl⟩
  · have h24' : ¬ (24 : Int) < (zs.length : Int) := by omega
    rw [if_neg h24, show (if allS zs = true then (0 : Int) else 3) = suF zs from rfl]
    go_enter Tryd.func23, Tryd.ntmps23
    go_wp2_with (go_at_call 64; refine (sumsFault_any _ _ zs _ h hl).mono ?_; rintro r u1 ⟨rfl, rfl⟩)
    go_ret
    exact ⟨ret_int rfl, rfl⟩

end Go.Proofs.YtkjhcblfkpknlaaDoor

namespace Go.Proofs.YtkjhcblfkpknlaaDoor
open Go.ChangeShapes Go.WideShapes Go.ChangeAt Go.RowKit
set_option linter.unusedVariables false
set_option linter.unusedSimpArgs false

theorem split_any (n : Int) (w : World) (h0 : 0 ≤ n) (h : n ≤ 32) :
    Calls Tryd.prog 76 #[.int .i64 n] w fun r w' => r = .returned (.int .i64 (splN n)) ∧ w' = w := by
  go_enter Tryd.func76, Tryd.ntmps76
  go_wp2
  go_loop [3] (fun t => ∃ k : Int, IsPow k ∧ (k = 1 ∨ k < n) ∧ t = .int .i64 k) (fun t => (32 - intOf t).toNat)
  case atStart => exact ⟨1, .inl rfl, .inl rfl, rfl⟩
  case round =>
    obtain ⟨k, hp, hk, rfl⟩ := hrel
    have hb : 1 ≤ k ∧ k ≤ 16 := by unfold IsPow at hp; omega
    obtain ⟨hb1, hb2⟩ := hb
    have HK : Hid (k = 1 ∨ k < n) := hk
    have HP : Hid (IsPow k) := hp
    clear hk hp
    by_cases hlt : 2 * k < n
    · go_wp2
      go_round
      case rel => exact ⟨2 * k, splN_step HP.out h hlt, .inr hlt, rfl⟩
      case measure => simp [intOf]; omega
    · go_wp2
      go_ret
      exact ⟨ret_int (splN_end HP.out HK.out h (by omega)), rfl⟩

theorem specSplit_any (n : Int) (w : World) :
    Calls Tryd.prog 30 #[.int .i64 n] w fun r w' => r = .returned (.agg #[.int .i64 (if 2 ≤ n ∧ n ≤ 24 then 0 else 3), .int .i64 (if 2 ≤ n ∧ n ≤ 24 then splN n else 0)]) ∧ Below w.heap.size w w' := by
  by_cases hin : 2 ≤ n ∧ n ≤ 24
  · rw [if_pos hin, if_pos hin]
    have hd : decide (2 ≤ n ∧ n ≤ 24) = true := by simpa using hin
    go_enter Tryd.func30, Tryd.ntmps30
    go_wp2_with (first | (go_at_call 75; refine (in_any n 2 24 _).mono ?_; rintro r u1 ⟨rfl, rfl⟩; rw [hd]) | (go_at_call 76; refine (split_any n _ (by omega) (by omega)).mono ?_; rintro r u2 ⟨rfl, rfl⟩))
    exact bodyPost_ret (v := .agg #[.int .i64 0, .int .i64 (splN n)]) (by simp [results, Tryd.results30, go_sem]) rfl ⟨rfl, by repeat (first | exact Below.refl _ _ | refine Below.alloc ?_ (by simp) _ | refine Below.setCell ?_ (by simp) _)⟩
  · rw [if_neg hin, if_neg hin]
    have hd : decide (2 ≤ n ∧ n ≤ 24) = false := by simpa using hin
    clear hin
    go_enter Tryd.func30, Tryd.ntmps30
    go_wp2_with (first | (go_at_call 75; refine (in_any n 2 24 _).mono ?_; rintro r u1 ⟨rfl, rfl⟩; rw [hd]))
    exact bodyPost_ret (v := .agg #[.int .i64 3, .int .i64 0]) (by simp [results, Tryd.results30, go_sem]) rfl ⟨rfl, by repeat (first | exact Below.refl _ _ | refine Below.alloc ?_ (by simp) _ | refine Below.setCell ?_ (by simp) _)⟩

theorem implSplit_any (n : Int) (w : World) :
    Calls Tryd.prog 29 #[.int .i64 n] w fun r w' => r = .returned (.agg #[.int .i64 (if 2 ≤ n ∧ n ≤ 24 then 0 else 3), .int .i64 (if 2 ≤ n ∧ n ≤ 24 then splN n else 0)]) ∧ Below w.heap.size w w' := by
  by_cases hin : 2 ≤ n ∧ n ≤ 24
  · rw [if_pos hin, if_pos hin]
    obtain ⟨h2, h24⟩ := hin
    have h2' : ¬ n < 2 := by omega
    have h24' : ¬ 24 < n := by omega
    go_enter Tryd.func29, Tryd.ntmps29
    go_wp2
    go_loop [3] (fun t => ∃ k : Int, IsPow k ∧ (k = 1 ∨ k < n) ∧ t = .int .i64 k) (fun t => (32 - intOf t).toNat)
    case atStart => exact ⟨1, .inl rfl, .inl rfl, rfl⟩
    case round =>
      obtain ⟨k, hp, hk, rfl⟩ := hrel
      have hb : 1 ≤ k ∧ k ≤ 16 := by unfold IsPow at hp; omega
      obtain ⟨hb1, hb2⟩ := hb
      have HK : Hid (k = 1 ∨ k < n) := hk
      have HP : Hid (IsPow k) := hp
      clear hk hp
      by_cases hlt : 2 * k < n
      · go_wp2
        go_round
        case rel => exact ⟨2 * k, splN_step HP.out (by omega) hlt, .inr hlt, by first | rfl | go_num⟩
        case measure => simp [intOf]; omega
      · go_wp2
        have e := splN_end HP.out HK.out (by omega) (by omega)
        rw [← e]
        exact bodyPost_ret (v := .agg #[.int .i64 0, .int .i64 k]) (by simp [results, Tryd.results29, go_sem]) rfl ⟨rfl, by repeat (first | exact Below.refl _ _ | refine Below.alloc ?_ (by simp) _ | refine Below.setCell ?_ (by simp) _)⟩
  · rw [if_neg hin, if_neg hin]
    by_cases h2 : n < 2
    all_goals
      (try have h24 : 24 < n := by omega)
      clear hin
      go_enter Tryd.func29, Tryd.ntmps29
      go_wp2
      exact bodyPost_ret (v := .agg #[.int .i64 3, .int .i64 0]) (by simp [results, Tryd.results29, go_sem]) rfl ⟨rfl, by repeat (first | exact Below.refl _ _ | refine Below.alloc ?_ (by simp) _ | refine Below.setCell ?_ (by simp) _)⟩

end Go.Proofs.YtkjhcblfkpknlaaDoor
