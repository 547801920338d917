/- Contracts of the program's chapter 3: a number as eight bytes, and back. -/
import Derived.Test.YtngibnmcagogaaaDoorGet
namespace Go.Proofs.YtngibnmcagogaaaDoor
open Go.ChangeShapes Go.WideShapes Go.ChangeAt Go.RowKit
set_option maxRecDepth 100000
set_option linter.unusedVariables false
set_option linter.unusedSimpArgs false

/-- What is left of a number behind m bytes. -/
def uM (n : Int) (m : Nat) : Int := n % 18446744073709551616 / 2 ^ (8 * m)
theorem uM_zero (n : Int) : uM n 0 = n % 18446744073709551616 := by simp [uM]
theorem uM_bd (n : Int) (m : Nat) : 0 ≤ uM n m ∧ uM n m ≤ 18446744073709551615 := by
  unfold uM
  have h0 : 0 ≤ n % 18446744073709551616 := by omega
  have h1 : n % 18446744073709551616 ≤ 18446744073709551615 := by omega
  have hp : (0 : Int) < 2 ^ (8 * m) := by have := Nat.two_pow_pos (8 * m); rw [show (2 : Int) ^ (8 * m) = ((2 ^ (8 * m) : Nat) : Int) by simp]; omega
  exact ⟨Int.ediv_nonneg h0 (Int.le_of_lt hp), Int.le_trans (Int.ediv_le_self _ h0) h1⟩
theorem uM_succ (n : Int) (m : Nat) : uM n m / 256 = uM n (m + 1) := by
  unfold uM
  rw [Int.ediv_ediv_of_nonneg (by rw [show (2 : Int) ^ (8 * m) = ((2 ^ (8 * m) : Nat) : Int) by simp]; exact Int.natCast_nonneg _)]
  rw [show 8 * (m + 1) = 8 * m + 8 by omega, Int.pow_add]
  rfl
theorem uM_byte (n : Int) (m : Nat) (h : m < 8) : uM n m % 256 = (putL n 8).getD (7 - m) 0 := by
  unfold uM putL
  match m, h with
  | 0, _ => simp [List.getD, List.range_succ] <;> omega
  | 1, _ => simp [List.getD, List.range_succ]; omega
  | 2, _ => simp [List.getD, List.range_succ]; omega
  | 3, _ => simp [List.getD, List.range_succ]; omega
  | 4, _ => simp [List.getD, List.range_succ]; omega
  | 5, _ => simp [List.getD, List.range_succ]; omega
  | 6, _ => simp [List.getD, List.range_succ]; omega
  | 7, _ => simp [List.getD, List.range_succ]; omega

/-- The last m numbers, and nothing yet ahead of them. -/
def backP (ys : List Int) (m : Nat) : List Value := (List.replicate (ys.length - m) 0 ++ ys.drop (ys.length - m)).map (.int .u8)
theorem backP_zero (ys : List Int) : (madeCells (Value.int .u8 0).cells (ys.length * 1)).toList = backP ys 0 := by
  rw [partB_zero]
  simp [partB, backP]
theorem backP_all (ys : List Int) : backP ys ys.length = ys.map (.int .u8) := by simp [backP]
theorem backP_set (ys : List Int) (m : Nat) (h : m < ys.length) : (backP ys m).set (ys.length - 1 - m) (.int .u8 (ys.getD (ys.length - 1 - m) 0)) = backP ys (m + 1) := by
  unfold backP
  have e1 : ys.length - m = (ys.length - (m + 1)) + 1 := by omega
  have e2 : ys.length - 1 - m = ys.length - (m + 1) := by omega
  have e3 : ys.length - (m + 1) < ys.length := by omega
  rw [← List.map_set, e2]
  congr 1
  rw [e1, List.replicate_succ', List.append_assoc, List.set_append_right _ _ (by simp), List.length_replicate, Nat.sub_self]
  simp only [List.singleton_append, List.set_cons_zero]
  rw [List.drop_eq_getElem_cons e3]
  simp [List.getD, e3]
theorem backP_cell (ys : List Int) (m : Nat) (h : m < ys.length) : (backP ys m)[ys.length - 1 - m]? = some (.int .u8 0) := by
  unfold backP
  rw [List.getElem?_map, List.getElem?_append_left (by simp; omega)]
  simp [List.getElem?_replicate]
  omega

set_option maxHeartbeats 2000000 in
theorem implPutInt_any (n : Int) (w : World) (n0 : -9223372036854775808 ≤ n) (n1 : n ≤ 9223372036854775807) :
    Calls Tryd.prog 44 #[.int .i64 n] w fun r w' => ∃ a' c', r = .returned (.agg #[.int .i64 0, .slice a' 8 c']) ∧ w'.ownsRow w.heap.size 5 1 (.slice a' 8 c') 8 ((putL n 8).map (.int .u8)) ∧ Below w.heap.size w w' := by
  obtain ⟨i0, hi, hz0, hz1, hz2⟩ := info_parts info8
  have hl := putL_len n 8
  have PZ : Hid ((madeCells (Value.int .u8 0).cells (8 * 1)).toList = backP (putL n 8) 0) := by have := backP_zero (putL n 8); rwa [hl] at this
  have PA : Hid (backP (putL n 8) 8 = (putL n 8).map (.int .u8)) := by have := backP_all (putL n 8); rwa [hl] at this
  have PS : Hid (∀ m, m < 8 → (backP (putL n 8) m).set (8 - 1 - m) (.int .u8 ((putL n 8).getD (8 - 1 - m) 0)) = backP (putL n 8) (m + 1)) := by intro m h; have := backP_set (putL n 8) m (by omega); rwa [hl] at this
  have PC : Hid (∀ m, m < 8 → (backP (putL n 8) m)[8 - 1 - m]? = some (.int .u8 0)) := by intro m h; have := backP_cell (putL n 8) m (by omega); rwa [hl] at this
  have PB : Hid (_) := fun m (h : m < 8) => uM_byte n m h
  have U0 : Hid (_) := uM_zero n
  generalize putL n 8 = ys at *
  clear hl
  go_enter Tryd.func44, Tryd.ntmps44
  go_wp2_with (at_make; refine wpList_make_full _ rfl _ _ 22 rfl (w.heap.size + 1) 5 i0 (.int .u8 0) 1 Tryd.underlying22 hi hz0 hz1 _ _ _ _ 8 rfl rfl rfl rfl (by rw [hz2]; omega) (by unfold maxLen; omega) (by simp) ?_; intro w1 hown hgrow)
  rw [PZ.out] at hown
  have hbel : Below (w.heap.size + 1) (w.alloc (.cells #[.int .i64 0, .slice none 0 0] 30)) w1 := (Below.refl _ _).grown hgrow (by simp) (by intro k hk; cases hk)
  obtain ⟨g, hg⟩ : ∃ g, g = (w.alloc (.cells #[.int .i64 0, .slice none 0 0] 30)).heap.size := ⟨_, rfl⟩
  rw [← hg] at hown
  have hg' : g = w.heap.size + 1 := by rw [hg]; simp
  clear hg
  subst hg'
  clear hgrow
  go_loopw [4, 5] (fun u i wr => ∃ m : Nat, m ≤ 8 ∧ i = .int .i64 (7 - (m : Int)) ∧ u = .int .u64 (uM n m) ∧ wr.ownsRow (w.heap.size + 1) 5 1 (.slice (some ⟨w.heap.size + 1, 0, none⟩) 8 8) 8 (backP ys m) ∧ Below (w.heap.size + 1) (w.alloc (.cells #[.int .i64 0, .slice none 0 0] 30)) wr) (fun _ i _ => (intOf i + 1).toNat)
  case atStart => exact ⟨0, by omega, by simp, by rw [U0.out]; rfl, hown, hbel⟩
  case round =>
    clear hown hbel
    obtain ⟨m, hm8, rfl, rfl, hown, hbel⟩ := hrel
    by_cases hm : m < 8
    · have hm' : (0 : Int) ≤ 7 - (m : Int) := by omega
      have ei : (7 - (m : Int)) = ((7 - m : Nat) : Int) := by omega
      have hub := uM_bd n m
      have hy : wr.cell? ⟨w.heap.size + 1, 7 - m, none⟩ = some (.int .u8 0) := (hown.cellAt (7 - m) (by omega)).trans (PC.out m hm)
      have hf := hown.frozenAt (7 - m)
      have hst := hown.stored (7 - m) (.int .u8 (uM n m % 256))
      have e8 : uM n m % 256 = ys.getD (8 - 1 - m) 0 := PB.out m hm
      have hset : (backP ys m).set (7 - m) (.int .u8 (uM n m % 256)) = backP ys (m + 1) := by rw [e8]; exact PS.out m hm
      rw [hset] at hst
      have HST : Hid (_ ∧ _) := hst
      have US : Hid (_) := uM_succ n m
      clear hst hown e8 hset
      generalize uM n m = u at *
      have EI : Hid (_) := ei
      rw [ei]
      clear ei
      have hlt : 7 - m < 8 := by omega
      generalize hk : 7 - m = k at *
      go_wp2
      go_roundw
      case rel => exact ⟨m + 1, by omega, by congr 1; omega, by rw [US.out], HST.out.1, hbel.setCell (Nat.le_refl _) _⟩
      case measure => simp [intOf] <;> omega
    · obtain rfl : m = 8 := by omega
      have r0 := (hbel.cell (p := ⟨w.heap.size, 0, none⟩) (by simp)).trans (show _ = some (.int .i64 0) by simp [go_sem])
      have r1 := (hbel.cell (p := ⟨w.heap.size, 1, none⟩) (by simp)).trans (show _ = some (.slice none 0 0) by simp [go_sem])
      have f0 := (hbel.frozen (p := ⟨w.heap.size, 0, none⟩) (by simp)).trans (show _ = false by simp [go_sem])
      have f1 := (hbel.frozen (p := ⟨w.heap.size, 1, none⟩) (by simp)).trans (show _ = false by simp [go_sem])
      rw [PA.out] at hown
      go_wp2
      refine bodyPost_ret (v := .agg #[.int .i64 0, .slice (some ⟨w.heap.size + 1, 0, none⟩) 8 8]) (by simp [results, Tryd.results44, go_sem, r0, r1]) rfl ⟨_, _, rfl, ?_, ?_⟩
      · exact own_mono (own_set (own_set hown (by simp) _) (by simp) _) (by simp)
      · repeat (first | exact Below.refl _ _ | (refine Below.alloc ?_ (by (try simp) <;> omega) _) | (refine Below.setCell ?_ (by (try simp) <;> omega) _) | (refine Below.trans ?_ (hbel.mono (by omega))))

theorem or_stepU (g y : Int) (h0 : 0 ≤ y) (h1 : y ≤ 255) : bits .or .u64 ((g % 18446744073709551616 * 256) % 18446744073709551616) y = (g * 256 + y) % 18446744073709551616 := by
  have hA : ((BitVec.ofInt 64 ((g % 18446744073709551616 * 256) % 18446744073709551616)).toNat : Int) = (g * 256) % 18446744073709551616 := by
    rw [BitVec.toNat_ofInt]
    omega
  have hB : ((BitVec.ofInt 64 y).toNat : Int) = y := by
    rw [BitVec.toNat_ofInt]
    omega
  show IntKind.u64.wrap ((BitVec.ofInt 64 ((g % 18446744073709551616 * 256) % 18446744073709551616) ||| BitVec.ofInt 64 y).toNat : Int) = _
  rw [BitVec.toNat_or]
  generalize (BitVec.ofInt 64 ((g % 18446744073709551616 * 256) % 18446744073709551616)).toNat = A at hA
  generalize (BitVec.ofInt 64 y).toNat = B at hB
  have hd : A = 2 ^ 8 * (A / 256) := by omega
  have hor : A ||| B = A + B := by
    rw [hd, ← Nat.two_pow_add_eq_or_of_lt (by omega)]
  rw [hor]
  show ((A + B : Nat) : Int) % 18446744073709551616 = _
  omega

set_option maxHeartbeats 2000000 in
theorem numberOf_any (a : Option Addr) (cap : Nat) (zs : List Int) (w : World) (h : Has w .u8 a zs.length zs) (hl : zs.length ≤ 1048576) :
    Calls Tryd.prog 84 #[.slice a zs.length cap] w fun r w' => r = .returned (.int .i64 (wrap64 (getN zs zs.length))) ∧ w' = w := by
  obtain ⟨_, hwf, hc⟩ := h
  rcases hc with h0 | ⟨b, off, rfl, hb, hcell⟩
  · obtain rfl : zs = [] := List.eq_nil_of_length_eq_zero h0
    simp only [List.length_nil] at *
    go_enter Tryd.func84, Tryd.ntmps84
    go_wp2
    refine wp_loop_rounds 1 ?_
    rw [rounds_succ]
    go_wp2
    go_ret
    exact ⟨ret_int (by simp [getN, wrap64]), rfl⟩
  · go_enter Tryd.func84, Tryd.ntmps84
    go_wp2
    go_loop [3, 8] (fun u i => ∃ (j : Nat), j ≤ zs.length ∧ i = .int .i64 j ∧ u = .int .u64 (getN zs j % 18446744073709551616)) (fun _ i => zs.length - (intOf i).toNat)
    case atStart => exact ⟨0, by omega, rfl, by simp [getN]⟩
    case round =>
      obtain ⟨j, hj8, rfl, rfl⟩ := hrel
      by_cases hj : j < zs.length
      · have hx := hcell j (by omega)
        have hj' : (j : Int) < (zs.length : Int) := by omega
        have hyb : 0 ≤ zs.getD j 0 ∧ zs.getD j 0 ≤ 255 := by
          have := range_u8 hwf j
          simpa [List.getD] using this
        have HS : Hid (getN zs (j + 1) = getN zs j * 256 + zs.getD j 0) := rfl
        generalize zs.getD j 0 = y at hx hyb HS
        have HO : Hid (_) := or_stepU (getN zs j) y hyb.1 hyb.2
        generalize getN zs j = g at HS HO
        have hgb : 0 ≤ g % 18446744073709551616 ∧ g % 18446744073709551616 ≤ 18446744073709551615 := by omega
        clear hcell
        go_wp2
        go_round
        case rel => exact ⟨j + 1, by omega, by go_num, by rw [HS.out, ← HO.out]; rfl⟩
        case measure => simp [intOf]; omega
      · obtain rfl : j = zs.length := by omega
        go_wp2
        go_ret
        exact ⟨ret_int (by unfold wrap64; omega), rfl⟩

theorem isFrom_any (n m : Int) (w : World) : Calls Tryd.prog 83 #[.int .i64 n, .int .i64 m] w fun r w' => r = .returned (.bool (decide (0 ≤ n ∧ n ≤ m))) ∧ w' = w := by
  by_cases h : 0 ≤ n
  · go_enter Tryd.func83, Tryd.ntmps83
    go_wp2
    go_ret
    exact ⟨ret_bool (by simp [h]), rfl⟩
  · go_enter Tryd.func83, Tryd.ntmps83
    go_wp2
    go_ret
    exact ⟨ret_bool (by simp; omega), rfl⟩

theorem getN_take (zs : List Int) (m j : Nat) (h : j ≤ m) : getN (zs.take m) j = getN zs j := by
  induction j with
  | zero => rfl
  | succ j ih =>
    show getN (zs.take m) j * 256 + (zs.take m).getD j 0 = getN zs j * 256 + zs.getD j 0
    rw [ih (by omega)]
    simp [List.getD, List.getElem?_take, show j < m by omega]

set_option maxHeartbeats 2000000 in
theorem implGetInt_any (a : Option Addr) (cap : Nat) (zs : List Int) (k : Int) (w : World) (h : Has w .u8 a zs.length zs) (hl : zs.length ≤ 2097152) (hcap : zs.length ≤ cap) (hcm : cap ≤ maxLen) :
    Calls Tryd.prog 43 #[.slice a zs.length cap, .int .i64 k] w fun r w' => r = .returned (.agg #[.int .i64 (getC zs k), .int .i64 (getV zs k)]) ∧ Below w.heap.size w w' := by
  have h' := h.alloc (.cells #[.int .i64 0, .int .i64 0] 37)
  unfold getC getV
  by_cases h0 : k < 0 ∨ (zs.length : Int) - 8 < k
  · rw [if_pos h0, if_pos h0]
    have hd : decide (0 ≤ k ∧ k ≤ (zs.length : Int) - 8) = false := by simp; omega
    go_enter Tryd.func43, Tryd.ntmps43
    go_wp2_with (go_at_call 83; refine (isFrom_any k ((zs.length : Int) - 8) _).mono ?_; rintro r u ⟨rfl, rfl⟩; rw [hd])
    refine bodyPost_ret (v := .agg #[.int .i64 3, .int .i64 0]) (by simp [results, Tryd.results43, go_sem]) rfl ⟨rfl, ?_⟩
    repeat (first | exact Below.refl _ _ | refine Below.alloc ?_ (by (try simp) <;> omega) _ | refine Below.setCell ?_ (by (try simp) <;> omega) _)
  · rw [if_neg h0, if_neg h0]
    have hd : decide (0 ≤ k ∧ k ≤ (zs.length : Int) - 8) = true := by simp; omega
    obtain ⟨j, rfl⟩ := Int.eq_ofNat_of_zero_le (show 0 ≤ k by omega)
    obtain ⟨_, hwf, hc⟩ := h'
    rcases hc with hz | ⟨b, off, rfl, hb, hcell⟩
    · omega
    have hj8 : j + 8 ≤ zs.length := by omega
    have hne : ¬ j = cap := by omega
    have hjc : (j : Int) ≤ (cap : Int) := by omega
    have hjl : (j : Int) ≤ (zs.length : Int) := by omega
    have hj8c : (j : Int) + 8 ≤ (cap : Int) := by omega
    have hjm : (j : Int) ≤ 2097152 := by omega
    unfold maxLen at hcm
    go_enter Tryd.func43, Tryd.ntmps43
    go_wp2_with (go_at_call 83; refine (isFrom_any j ((zs.length : Int) - 8) _).mono ?_; rintro r u ⟨rfl, rfl⟩; rw [hd])
    have e8 : ((zs.drop j).take 8).length = 8 := by simp; omega
    have hn := numberOf_any (some ⟨b, off + j, none⟩) (cap - j) ((zs.drop j).take 8) (w.alloc (.cells #[.int .i64 0, .int .i64 0] 37)) ?hh (by omega)
    case hh =>
      refine ⟨rfl, fun n hn => hwf n (List.mem_of_mem_drop (List.mem_of_mem_take hn)), .inr ⟨b, off + j, rfl, hb, fun i hi => ?_⟩⟩
      rw [e8] at hi
      have := hcell (j + i) (by omega)
      rw [show off + j + i = off + (j + i) by omega, this]
      simp [List.getD, List.getElem?_take, hi]
    rw [e8, getN_take _ _ _ (Nat.le_refl _)] at hn
    refine hn.mono ?_
    rintro r u1 ⟨rfl, rfl⟩
    go_wp2
    refine bodyPost_ret (v := .agg #[.int .i64 0, .int .i64 (wrap64 (getN (zs.drop j) 8))]) (by simp [results, Tryd.results43, go_sem]) rfl ⟨rfl, ?_⟩
    repeat (first | exact Below.refl _ _ | refine Below.alloc ?_ (by (try simp) <;> omega) _ | refine Below.setCell ?_ (by (try simp) <;> omega) _)

end Go.Proofs.YtngibnmcagogaaaDoor
