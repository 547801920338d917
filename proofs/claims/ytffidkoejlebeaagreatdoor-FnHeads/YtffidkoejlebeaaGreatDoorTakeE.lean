/- Contracts of the model's chapter 3: a number as eight bytes. Contracts of the model's chapter 3: eight bytes as a number. Contracts of the program's chapter 3: a number as eight bytes, and back. Contracts of the model's chapter 3: an event as bytes. Contracts of the model's chapter 3: PackEvent. Contracts of the program's chapter 3: an event as bytes. What the model reads of bytes, in plain words; bytes that are too short; parts of a row. Contracts of the program's chapter 3: a reader that takes bytes. Contracts of the program's chapter 3: an event taken from a reader. -/
import Derived.Test.YtffidkoejlebeaaGreatDoorRegB
import Derived.Test.YtffidkoejlebeaaGreatDoorHdD
import Derived.Laws.Bits64b
import Derived.Test.YtffidkoejlebeaaGreatDoorLvl
import Derived.Test.YtffidkoejlebeaaGreatDoorIEvt
import Derived.Test.YtffidkoejlebeaaGreatDoorPath4S
import Derived.Laws.CopyOwn
namespace Go.Proofs.YtffidkoejlebeaaGreatDoor
open Go.ChangeShapes Go.WideShapes Go.ChangeAt Go.RowKit
set_option maxRecDepth 100000
set_option linter.unusedVariables false
set_option linter.unusedSimpArgs false

/-- The first j of the eight bytes of a number, the highest first. -/
def putL (n : Int) (j : Nat) : List Int := (List.range j).map fun (i : Nat) => (n / 2 ^ (56 - 8 * i)) % 256
theorem putL_len (n : Int) (j : Nat) : (putL n j).length = j := by simp [putL]
theorem putL_wf (n : Int) (j : Nat) : ∀ y ∈ putL n j, (Lit.int .u8 y).wf = true := by
  intro y hy
  simp [putL] at hy
  obtain ⟨i, _, rfl⟩ := hy
  exact wf_u8 (by omega) (by omega)
theorem putL_succ (n : Int) (j : Nat) : putL n (j + 1) = putL n j ++ [(n / 2 ^ (56 - 8 * j)) % 256] := by simp [putL, List.range_succ]

end Go.Proofs.YtffidkoejlebeaaGreatDoor

namespace Go.Proofs.YtffidkoejlebeaaGreatDoor
open Go.ChangeShapes Go.WideShapes Go.ChangeAt Go.RowKit
set_option maxRecDepth 100000
set_option linter.unusedVariables false
set_option linter.unusedSimpArgs false

/-- The first j bytes as one number, the highest first. -/
def getN (zs : List Int) : Nat → Int
  | 0 => 0
  | j + 1 => getN zs j * 256 + zs.getD j 0
theorem or_step (g y : Int) (h0 : 0 ≤ y) (h1 : y ≤ 255) : bits .or .i64 (wrap64 (wrap64 g * 256)) y = wrap64 (g * 256 + y) := by
  have hA : ((BitVec.ofInt 64 (wrap64 (wrap64 g * 256))).toNat : Int) = (g * 256) % 18446744073709551616 := by
    rw [BitVec.toNat_ofInt]
    unfold wrap64
    omega
  have hB : ((BitVec.ofInt 64 y).toNat : Int) = y := by
    rw [BitVec.toNat_ofInt]
    omega
  show IntKind.i64.wrap ((BitVec.ofInt 64 (wrap64 (wrap64 g * 256)) ||| BitVec.ofInt 64 y).toNat : Int) = _
  rw [BitVec.toNat_or]
  generalize (BitVec.ofInt 64 (wrap64 (wrap64 g * 256))).toNat = A at hA
  generalize (BitVec.ofInt 64 y).toNat = B at hB
  have hd : A = 2 ^ 8 * (A / 256) := by omega
  have hor : A ||| B = A + B := by
    rw [hd, ← Nat.two_pow_add_eq_or_of_lt (by omega)]
  rw [hor]
  rw [IntKind.wrap_i64]
  unfold wrap64
  omega

/-- The code and the value of the eight bytes at a place. -/
def getC (zs : List Int) (at' : Int) : Int := if at' < 0 ∨ (zs.length : Int) - 8 < at' then 3 else 0
def getV (zs : List Int) (at' : Int) : Int := if at' < 0 ∨ (zs.length : Int) - 8 < at' then 0 else wrap64 (getN (zs.drop at'.toNat) 8)

end Go.Proofs.YtffidkoejlebeaaGreatDoor

namespace Go.Proofs.YtffidkoejlebeaaGreatDoor
open Go.ChangeShapes Go.WideShapes Go.ChangeAt Go.RowKit
set_option maxRecDepth 100000
set_option linter.unusedVariables false
set_option linter.unusedSimpArgs false

/-- What is left of a number behind m bytes. -/
def uM (n : Int) (m : Nat) : Int := n % 18446744073709551616 / 2 ^ (8 * m)
theorem uM_zero (n : Int) : uM n 0 = n % 18446744073709551616 := by simp [uM]
theorem uM_bd (n : Int) (m : Nat) : 0 ≤ uM n m ∧ uM n m ≤ 18446744073709551615 := by
  unfold uM
  have h0 : 0 ≤ n % 18446744073709551616 := by omega
  have h1 : n % 18446744073709551616 ≤ 18446744073709551615 := by omega
  have hp : (0 : Int) < 2 ^ (8 * m) := by have := Nat.two_pow_pos (8 * m); rw [show (2 : Int) ^ (8 * m) = ((2 ^ (8 * m) : Nat) : Int) by simp]; omega
  exact ⟨Int.ediv_nonneg h0 (Int.le_of_lt hp), Int.le_trans (Int.ediv_le_self _ h0) h1⟩
theorem uM_succ (n : Int) (m : Nat) : uM n m / 256 = uM n (m + 1) := by
  unfold uM
  rw [Int.ediv_ediv_of_nonneg (by rw [show (2 : Int) ^ (8 * m) = ((2 ^ (8 * m) : Nat) : Int) by simp]; exact Int.natCast_nonneg _)]
  rw [show 8 * (m + 1) = 8 * m + 8 by omega, Int.pow_add]
  rfl
theorem uM_byte (n : Int) (m : Nat) (h : m < 8) : uM n m % 256 = (putL n 8).getD (7 - m) 0 := by
  unfold uM putL
  match m, h with
  | 0, _ => simp [List.getD, List.range_succ] <;> omega
  | 1, _ => simp [List.getD, List.range_succ]; omega
  | 2, _ => simp [List.getD, List.range_succ]; omega
  | 3, _ => simp [List.getD, List.range_succ]; omega
  | 4, _ => simp [List.getD, List.range_succ]; omega
  | 5, _ => simp [List.getD, List.range_succ]; omega
  | 6, _ => simp [List.getD, List.range_succ]; omega
  | 7, _ => simp [List.getD, List.range_succ]; omega

/-- The last m numbers, and nothing yet ahead of them. -/
def backP (ys : List Int) (m : Nat) : List Value := (List.replicate (ys.length - m) 0 ++ ys.drop (ys.length - m)).map (.int .u8)
theorem backP_zero (ys : List Int) : (madeCells (Value.int .u8 0).cells (ys.length * 1)).toList = backP ys 0 := by
  rw [partB_zero]
  simp [partB, backP]
theorem backP_all (ys : List Int) : backP ys ys.length = ys.map (.int .u8) := by simp [backP]
theorem backP_set (ys : List Int) (m : Nat) (h : m < ys.length) : (backP ys m).set (ys.length - 1 - m) (.int .u8 (ys.getD (ys.length - 1 - m) 0)) = backP ys (m + 1) := by
  unfold backP
  have e1 : ys.length - m = (ys.length - (m + 1)) + 1 := by omega
  have e2 : ys.length - 1 - m = ys.length - (m + 1) := by omega
  have e3 : ys.length - (m + 1) < ys.length := by omega
  rw [← List.map_set, e2]
  congr 1
  rw [e1, List.replicate_succ', List.append_assoc, List.set_append_right _ _ (by simp), List.length_replicate, Nat.sub_self]
  simp only [List.singleton_append, List.set_cons_zero]
  rw [List.drop_eq_getElem_cons e3]
  simp [List.getD, e3]
theorem backP_cell (ys : List Int) (m : Nat) (h : m < ys.length) : (backP ys m)[ys.length - 1 - m]? = some (.int .u8 0) := by
  unfold backP
  rw [List.getElem?_map, List.getElem?_append_left (by simp; omega)]
  simp [List.getElem?_replicate]
  omega

theorem or_stepU (g y : Int) (h0 : 0 ≤ y) (h1 : y ≤ 255) : bits .or .u64 ((g % 18446744073709551616 * 256) % 18446744073709551616) y = (g * 256 + y) % 18446744073709551616 := by
  have hA : ((BitVec.ofInt 64 ((g % 18446744073709551616 * 256) % 18446744073709551616)).toNat : Int) = (g * 256) % 18446744073709551616 := by
    rw [BitVec.toNat_ofInt]
    omega
  have hB : ((BitVec.ofInt 64 y).toNat : Int) = y := by
    rw [BitVec.toNat_ofInt]
    omega
  show IntKind.u64.wrap ((BitVec.ofInt 64 ((g % 18446744073709551616 * 256) % 18446744073709551616) ||| BitVec.ofInt 64 y).toNat : Int) = _
  rw [BitVec.toNat_or]
  generalize (BitVec.ofInt 64 ((g % 18446744073709551616 * 256) % 18446744073709551616)).toNat = A at hA
  generalize (BitVec.ofInt 64 y).toNat = B at hB
  have hd : A = 2 ^ 8 * (A / 256) := by omega
  have hor : A ||| B = A + B := by
    rw [hd, ← Nat.two_pow_add_eq_or_of_lt (by omega)]
  rw [hor]
  show ((A + B : Nat) : Int) % 18446744073709551616 = _
  omega

set_option maxHeartbeats 2000000 in
theorem numberOf_any (a : Option Addr) (cap : Nat) (zs : List Int) (w : World) (h : Has w .u8 a zs.length zs) (hl : zs.length ≤ 1048576) :
    Calls Tryz.prog 97 #[.slice a zs.length cap] w fun r w' => r = .returned (.int .i64 (wrap64 (getN zs zs.length))) ∧ w' = w := by
  obtain ⟨_, hwf, hc⟩ := h
  rcases hc with h0 | ⟨b, off, rfl, hb, hcell⟩
  · obtain rfl : zs = [] := List.eq_nil_of_length_eq_zero h0
    simp only [List.length_nil] at *
    go_enter Tryz.func97, Tryz.ntmps97
    go_wp2
    refine wp_loop_rounds 1 ?_
    rw [rounds_succ]
    go_wp2
    go_ret
    exact ⟨ret_int (by simp [getN, wrap64]), rfl⟩
  · go_enter Tryz.func97, Tryz.ntmps97
    go_wp2
    go_loop [3, 8] (fun u i => ∃ (j : Nat), j ≤ zs.length ∧ i = .int .i64 j ∧ u = .int .u64 (getN zs j % 18446744073709551616)) (fun _ i => zs.length - (intOf i).toNat)
    case atStart => exact ⟨0, by omega, rfl, by simp [getN]⟩
    case round =>
      obtain ⟨j, hj8, rfl, rfl⟩ := hrel
      by_cases hj : j < zs.length
      · have hx := hcell j (by omega)
        have hj' : (j : Int) < (zs.length : Int) := by omega
        have hyb : 0 ≤ zs.getD j 0 ∧ zs.getD j 0 ≤ 255 := by
          have := range_u8 hwf j
          simpa [List.getD] using this
        have HS : Hid (getN zs (j + 1) = getN zs j * 256 + zs.getD j 0) := rfl
        generalize zs.getD j 0 = y at hx hyb HS
        have HO : Hid (_) := or_stepU (getN zs j) y hyb.1 hyb.2
        generalize getN zs j = g at HS HO
        have hgb : 0 ≤ g % 18446744073709551616 ∧ g % 18446744073709551616 ≤ 18446744073709551615 := by omega
        clear hcell
        go_wp2
        go_round
        case rel => exact ⟨j + 1, by omega, by go_num, by rw [HS.out, ← HO.out]; rfl⟩
        case measure => simp [intOf]; omega
      · obtain rfl : j = zs.length := by omega
        go_wp2
        go_ret
        exact ⟨ret_int (by unfold wrap64; omega), rfl⟩

theorem isFromP_any (n m : Int) (w : World) : Calls Tryz.prog 65 #[.int .i64 n, .int .i64 m] w fun r w' => r = .returned (.bool (decide (0 ≤ n ∧ n ≤ m))) ∧ w' = w := by
  by_cases h : 0 ≤ n
  · go_enter Tryz.func65, Tryz.ntmps65
    go_wp2
    go_ret
    exact ⟨ret_bool (by simp [h]), rfl⟩
  · go_enter Tryz.func65, Tryz.ntmps65
    go_wp2
    go_ret
    exact ⟨ret_bool (by simp; omega), rfl⟩

theorem getN_take (zs : List Int) (m j : Nat) (h : j ≤ m) : getN (zs.take m) j = getN zs j := by
  induction j with
  | zero => rfl
  | succ j ih =>
    show getN (zs.take m) j * 256 + (zs.take m).getD j 0 = getN zs j * 256 + zs.getD j 0
    rw [ih (by omega)]
    simp [List.getD, List.getElem?_take, show j < m by omega]

end Go.Proofs.YtffidkoejlebeaaGreatDoor

namespace Go.Proofs.YtffidkoejlebeaaGreatDoor
open Go.ChangeShapes Go.WideShapes Go.ChangeAt Go.RowKit
set_option maxRecDepth 100000
set_option linter.unusedVariables false
set_option linter.unusedSimpArgs false

/-- The bytes of an event. -/
def packL (s v k x : Int) (zs : List Int) : List Int := [s, v / 256, v % 256] ++ [k] ++ putL x 8 ++ [(zs.length : Int)] ++ zs
theorem packL_len (s v k x : Int) (zs : List Int) : (packL s v k x zs).length = 13 + zs.length := by simp [packL, putL_len]; omega

theorem wrap_u8 {y : Int} (h0 : 0 ≤ y) (h1 : y ≤ 255) : IntKind.u8.wrap y = y := by simp [IntKind.wrap, IntKind.bits, IntKind.signed]; omega
theorem one_has (w : World) (y : Int) (T : Nat) (h : 0 ≤ y ∧ y ≤ 255) : Has (w.alloc (.cells #[.int .u8 y] T)) .u8 (some ⟨w.heap.size, 0, none⟩) [y].length [y] := has_one w T h

end Go.Proofs.YtffidkoejlebeaaGreatDoor

namespace Go.Proofs.YtffidkoejlebeaaGreatDoor
open Go.ChangeShapes Go.WideShapes Go.ChangeAt Go.RowKit
set_option maxRecDepth 100000
set_option linter.unusedVariables false
set_option linter.unusedSimpArgs false

/-- The bytes of an event, or none where it has a fault. -/
def packB (s v k x : Int) (zs : List Int) : List Int := if evF s v k x zs.length = 0 then packL s v k x zs else []
theorem evF_zero {s v k x : Int} {n : Nat} (h : evF s v k x n = 0) : (0 ≤ s ∧ s ≤ 63) ∧ (0 ≤ v ∧ v ≤ 999) ∧ (0 ≤ k ∧ k ≤ 9) ∧ n ≤ 12 ∧ x = canon x := by
  unfold evF at h
  split at h
  · simp at h
  · split at h
    · simp at h
    · split at h
      · simp at h
      · rename_i h1 h2 h3
        have h1' := Classical.not_not.1 h1
        exact ⟨h1'.1, h1'.2.1, h1'.2.2, by omega, Classical.not_not.1 h2⟩
theorem packB_wf {s v k x : Int} {zs : List Int} (hz : ∀ n ∈ zs, (Lit.int .u8 n).wf = true) : ∀ n ∈ packB s v k x zs, (Lit.int .u8 n).wf = true := by
  unfold packB
  split
  · rename_i h
    obtain ⟨hs, hv, hk, hn, _⟩ := evF_zero h
    intro n hn'
    unfold packL at hn'
    simp only [List.mem_append, List.mem_cons, List.not_mem_nil, or_false] at hn'
    rcases hn' with (((h | h) | h) | h) | h
    · rcases h with rfl | rfl | rfl <;> exact wf_u8 (by omega) (by omega)
    · subst h; exact wf_u8 (by omega) (by omega)
    · exact putL_wf x 8 n h
    · subst h; exact wf_u8 (by omega) (by omega)
    · exact hz n h
  · simp
theorem packB_len {s v k x : Int} {zs : List Int} : (packB s v k x zs).length ≤ 25 := by
  unfold packB
  split
  · rename_i h
    have := (evF_zero h).2.2.2.1
    rw [packL_len]; omega
  · simp

end Go.Proofs.YtffidkoejlebeaaGreatDoor

namespace Go.Proofs.YtffidkoejlebeaaGreatDoor
open Go.ChangeShapes Go.WideShapes Go.ChangeAt Go.RowKit
set_option maxRecDepth 100000
set_option linter.unusedVariables false
set_option linter.unusedSimpArgs false

/-- A row of N bytes that begins with P, nothing yet behind it. -/
def fillP (P : List Int) (N : Nat) : List Int := P ++ List.replicate (N - P.length) 0
theorem fillP_len (P : List Int) (N : Nat) (h : P.length ≤ N) : (fillP P N).length = N := by simp [fillP]; omega
theorem fillP_set (P : List Int) (N : Nat) (y : Int) (h : P.length < N) : ((fillP P N).map (Value.int .u8)).set P.length (.int .u8 y) = (fillP (P ++ [y]) N).map (.int .u8) := by
  rw [← List.map_set]
  congr 1
  unfold fillP
  rw [List.set_append_right _ _ (Nat.le_refl _), Nat.sub_self, List.append_assoc]
  congr 1
  obtain ⟨m, hm⟩ : ∃ m, N - P.length = m + 1 := ⟨N - P.length - 1, by omega⟩
  have : N - (P ++ [y]).length = m := by simp; omega
  rw [hm, this, List.replicate_succ]
  rfl
theorem fillP_splice (P cs : List Int) (N : Nat) (h : P.length + cs.length ≤ N) : splice ((fillP P N).map (Value.int .u8)) P.length (cs.map (.int .u8)) = (fillP (P ++ cs) N).map (.int .u8) := by
  unfold splice
  rw [← List.map_take, ← List.map_drop, List.length_map, ← List.map_append, ← List.map_append]
  congr 1
  unfold fillP
  rw [List.take_append_of_le_length (Nat.le_refl _), List.take_length, List.append_assoc]
  congr 2
  rw [List.drop_append, List.drop_of_length_le (by omega), List.nil_append, List.drop_replicate]
  congr 1
  simp
  omega
theorem fillP_cell (P : List Int) (N j : Nat) (h0 : P.length ≤ j) (h1 : j < N) : ((fillP P N).map (Value.int .u8))[j]? = some (.int .u8 0) := by
  unfold fillP
  rw [List.getElem?_map, List.getElem?_append_right h0, List.getElem?_replicate, if_pos (by omega)]
  rfl
theorem fillP_all (P : List Int) : fillP P P.length = P := by simp [fillP]
theorem own_heap {w : World} {base e g n : Nat} {xs : List Value} (h : w.ownsRow base e 1 (.slice (some ⟨g, 0, none⟩) n n) n xs) : w.heap[g]? = some (.cells xs.toArray e (0, 0)) := by
  rcases h.2 with ⟨e1, _⟩ | ⟨g', cap, cur, e1, _, hg, _, _, hs, ht⟩
  · simp at e1
  · simp at e1
    obtain ⟨rfl, rfl⟩ := e1
    rw [hg, ← ht, List.take_of_length_le (by simp; omega)]
theorem heap_own {w : World} {base e g n : Nat} {xs : List Value} (h : w.heap[g]? = some (.cells xs.toArray e (0, 0))) (hb : base ≤ g) (hl : xs.length = n) (hm : n ≤ maxLen) : w.ownsRow base e 1 (.slice (some ⟨g, 0, none⟩) n n) n xs :=
  ⟨by omega, .inr ⟨g, n, xs.toArray, rfl, hb, h, Nat.le_refl _, hm, by simp; omega, by simp [← hl]⟩⟩
theorem made_fill (N : Nat) : (madeCells (Value.int .u8 0).cells (N * 1)).toList = (fillP [] N).map (.int .u8) := by
  have := partB_zero (List.replicate N 0)
  simp at this
  rw [show N * 1 = N by omega]
  simpa [fillP, partB] using this

theorem fld_bytes (y : Int) (a : Option Addr) (n c : Nat) (w : World) : (Instr.field 32 (.agg #[.int .i64 y, .slice a n c]) 1).run Tryz.prog w = .ok (.slice a n c) w := by kernel_rfl
theorem src_of {w : World} {k : IntKind} {a : Option Addr} {zs : List Int} (h : Has w k a zs.length zs) (h0 : 0 < zs.length) : ∃ ad, a = some ad ∧ ∀ (j : Nat) (v : Value), (zs.map (.int k))[j]? = some v → w.cell? (ad.add j) = some v := by
  cases a with
  | none =>
    rcases h.2.2 with c | ⟨_, _, c, _⟩
    · omega
    · cases c
  | some ad => exact ⟨ad, rfl, h.news⟩

end Go.Proofs.YtffidkoejlebeaaGreatDoor

namespace Go.Proofs.YtffidkoejlebeaaGreatDoor
open Go.ChangeShapes Go.WideShapes Go.ChangeAt Go.RowKit
set_option maxRecDepth 100000
set_option linter.unusedVariables false
set_option linter.unusedSimpArgs false

def zAt (zs : List Int) (i : Nat) : Int := zs.getD i 0
def rdM (zs : List Int) : Nat := (zAt zs 12).toNat
def rdV (zs : List Int) : Int := 256 * zAt zs 1 + zAt zs 2
def rdX (zs : List Int) : Int := wrap64 (getN (zs.drop 4) 8)
def rdZ (zs : List Int) : List Int := (zs.drop 13).take (rdM zs)
/-- There is an event at the beginning. -/
def rdLong (zs : List Int) : Prop := 13 ≤ zs.length ∧ 13 + rdM zs ≤ zs.length
theorem zAt_bd {zs : List Int} (hwf : ∀ n ∈ zs, (Lit.int .u8 n).wf = true) (i : Nat) : 0 ≤ zAt zs i ∧ zAt zs i ≤ 255 := by
  have := range_u8 hwf i
  simpa [zAt, List.getD] using this
theorem rdM_eq {zs : List Int} (hwf : ∀ n ∈ zs, (Lit.int .u8 n).wf = true) : (rdM zs : Int) = zAt zs 12 := by
  have := zAt_bd hwf 12
  unfold rdM; omega
theorem rdX_bd (zs : List Int) : -9223372036854775808 ≤ rdX zs ∧ rdX zs ≤ 9223372036854775807 := by
  unfold rdX wrap64; omega
theorem rdZ_len {zs : List Int} (h : rdLong zs) : (rdZ zs).length = rdM zs := by
  unfold rdZ; have := h.2; simp; omega

theorem Has.drop {w : World} {k : IntKind} {b off : Nat} {zs : List Int} (h : Has w k (some ⟨b, off, none⟩) zs.length zs) (i n : Nat) (hn : i + n ≤ zs.length) : Has w k (some ⟨b, off + i, none⟩) ((zs.drop i).take n).length ((zs.drop i).take n) := by
  refine ⟨rfl, fun x hx => h.2.1 x (List.mem_of_mem_drop (List.mem_of_mem_take hx)), ?_⟩
  by_cases h0 : n = 0
  · exact .inl (by simp [h0])
  · rcases h.2.2 with c | ⟨b', off', e, hlt, hc⟩
    · omega
    · simp at e
      obtain ⟨rfl, rfl⟩ := e
      refine .inr ⟨b, off + i, rfl, hlt, fun j hj => ?_⟩
      simp at hj
      have := hc (i + j) (by omega)
      rw [show off + i + j = off + (i + j) by omega, this]
      simp [List.getD, List.getElem?_take, List.getElem?_drop, show j < n by omega]
theorem wrap_i64' {y : Int} (h0 : -9223372036854775808 ≤ y) (h1 : y ≤ 9223372036854775807) : IntKind.i64.wrap y = y := by rw [IntKind.wrap_i64]; omega
theorem EvAt.set {w : World} {b g o : Nat} {s v k x : Int} {a : Option Addr} {n c : Nat} (h : EvAt w b s v k x a n c) (hne : b ≠ g) (u : Value) : EvAt (w.setCell ⟨g, o, none⟩ u) b s v k x a n c := by
  have hb := Below.heap_setCell w ⟨g, o, none⟩ u b hne
  exact ⟨(World.cell?_of_block (w := w) (a := ⟨b, 0, none⟩) hb).trans h.c0, (World.cell?_of_block (w := w) (a := ⟨b, 1, none⟩) hb).trans h.c1, (World.cell?_of_block (w := w) (a := ⟨b, 2, none⟩) hb).trans h.c2, (World.cell?_of_block (w := w) (a := ⟨b, 3, none⟩) hb).trans h.c3, (World.cell?_of_block (w := w) (a := ⟨b, 4, none⟩) hb).trans h.c4, by simpa using h.lt⟩
theorem Has.nil {w : World} {k : IntKind} {a : Option Addr} : Has w k a ([] : List Int).length [] := ⟨rfl, by simp, .inl rfl⟩

end Go.Proofs.YtffidkoejlebeaaGreatDoor

namespace Go.Proofs.YtffidkoejlebeaaGreatDoor
open Go.ChangeShapes Go.WideShapes Go.ChangeAt Go.RowKit
set_option maxRecDepth 100000
set_option linter.unusedVariables false
set_option linter.unusedSimpArgs false

/-- A reader at block p: what is left of the bytes, how many were used, whether it was cut. -/
structure RdAt (w : World) (B p : Nat) (rs : List Int) (u : Int) (k : Bool) : Prop where
  ex : ∃ b off c, w.cell? ⟨p, 0, none⟩ = some (.slice (some ⟨b, off, none⟩) rs.length c) ∧ rs.length ≤ c ∧ c ≤ maxLen ∧ HasIn B w (some ⟨b, off, none⟩) rs
  c1 : w.cell? ⟨p, 1, none⟩ = some (.int .i64 u)
  c2 : w.cell? ⟨p, 2, none⟩ = some (.bool k)
  f0 : w.frozen? ⟨p, 0, none⟩ = false
  f1 : w.frozen? ⟨p, 1, none⟩ = false
  f2 : w.frozen? ⟨p, 2, none⟩ = false
  base : B ≤ p
  lt : p < w.heap.size
theorem RdAt.below {w w' : World} {B p : Nat} {rs : List Int} {u : Int} {k : Bool} (h : RdAt w B p rs u k) (hb : Below w.heap.size w w') : RdAt w' B p rs u k := by
  obtain ⟨b, off, c, e1, e2, e3, e4⟩ := h.ex
  have := h.base
  have := h.lt
  exact ⟨⟨b, off, c, (hb.cell (p := ⟨p, 0, none⟩) h.lt).trans e1, e2, e3, e4.below (hb.mono (by omega))⟩, (hb.cell (p := ⟨p, 1, none⟩) h.lt).trans h.c1, (hb.cell (p := ⟨p, 2, none⟩) h.lt).trans h.c2, (hb.frozen (p := ⟨p, 0, none⟩) h.lt).trans h.f0, (hb.frozen (p := ⟨p, 1, none⟩) h.lt).trans h.f1, (hb.frozen (p := ⟨p, 2, none⟩) h.lt).trans h.f2, h.base, Nat.lt_of_lt_of_le h.lt hb.size⟩

/-- A copy into a row of one's own, at the run. -/
theorem run_splice {P : Program} (w : World) (dT sT ty elem : TypeId) (hu : P.underlying dT = some (.slice elem)) (hsz : (P.info? elem).map (·.size) = some 1) (dp sp : Option Addr) (dLen dCap sLen sCap : Nat)
    (g off : Nat) (cur : List Value) (t : TypeId) (hg : w.heap[g]? = some (.cells cur.toArray t (0, 0))) (cs : List Value) (hn : cs.length = Nat.min sLen dLen)
    (hpos : 0 < cs.length → dp = some ⟨g, off, none⟩ ∧ ∃ ad, sp = some ad ∧ ∀ (j : Nat) (v : Value), cs[j]? = some v → w.cell? (ad.add j) = some v)
    (hfit : off + cs.length ≤ cur.length) (h1 : ∀ v ∈ cs, v.oneCell' = true) (B : Nat) (w0 : World) (hb : Below B w0 w) (hBg : B ≤ g) :
    ∃ w', (Builtin.copy_ #[dT, sT] ty #[.slice dp dLen dCap, .slice sp sLen sCap]).run P w = .ok (goInt cs.length) w' ∧ w'.heap[g]? = some (.cells (splice cur off cs).toArray t (0, 0)) ∧ Below B w0 w' := by
  by_cases h0 : cs.length = 0
  · obtain rfl : cs = [] := List.eq_nil_of_length_eq_zero h0
    exact ⟨w, run_copy_none (P := P) w dT sT ty elem dp sp dLen dCap sLen sCap hu hsz (by simpa using hn.symm), by simpa [splice] using hg, hb⟩
  · obtain ⟨rfl, ad, rfl, hsrc⟩ := hpos (by omega)
    exact ⟨_, run_copy_row (P := P) w dT sT ty elem g off dLen dCap ad sLen sCap cur.toArray t cs hu hsz hg hn hsrc (by simpa using hfit) h1, by simpa [splice] using setRow_heap w g _ _ t _ hg, below_setRow hb hBg _⟩
theorem RdAt.cut {w : World} {B p : Nat} {rs : List Int} {u : Int} {k : Bool} (h : RdAt w B p rs u k) : RdAt (w.setCell ⟨p, 2, none⟩ (.bool true)) B p rs u true := by
  obtain ⟨⟨b, off, c, e0, ec, ecm, hd⟩, e1, e2, f0, f1, f2, hbs, hlt⟩ := h
  refine ⟨⟨b, off, c, by simp [go_sem, e0], ec, ecm, ?_⟩, by simp [go_sem, e1], by simp [go_sem, e2], by simpa [go_sem] using f0, by simpa [go_sem] using f1, by simpa [go_sem] using f2, hbs, by simpa using hlt⟩
  exact hd.below ((Below.refl _ _).setCell (p := ⟨p, 2, none⟩) hbs _)
theorem RdAt.step {w : World} {B p : Nat} {rs : List Int} {u u' : Int} {k : Bool} (h : RdAt w B p rs u k) (n : Nat) (b' off' : Nat) (c' : Nat) (hc : rs.length - n ≤ c') (hcm : c' ≤ maxLen) (hh : HasIn B w (some ⟨b', off', none⟩) (rs.drop n)) : RdAt ((w.setCell ⟨p, 0, none⟩ (.slice (some ⟨b', off', none⟩) (rs.length - n) c')).setCell ⟨p, 1, none⟩ (.int .i64 u')) B p (rs.drop n) u' k := by
  obtain ⟨⟨b, off, c, e0, ec, ecm, hd⟩, e1, e2, f0, f1, f2, hbs, hlt⟩ := h
  have hl : (rs.drop n).length = rs.length - n := by simp
  refine ⟨⟨b', off', c', by simp [go_sem, e0], by rw [hl]; exact hc, hcm, ?_⟩, by simp [go_sem, e1], by simp [go_sem, e2], by simpa [go_sem] using f0, by simpa [go_sem] using f1, by simpa [go_sem] using f2, hbs, by simpa using hlt⟩
  exact hh.below (((Below.refl _ _).setCell (p := ⟨p, 0, none⟩) hbs _).setCell (p := ⟨p, 1, none⟩) hbs _)

theorem takeHas {w : World} {k : IntKind} {b off : Nat} {zs : List Int} (h : Has w k (some ⟨b, off, none⟩) zs.length zs) (n : Nat) (hn : n ≤ zs.length) : Has w k (some ⟨b, off, none⟩) (zs.take n).length (zs.take n) := by
  have := Has.drop h 0 n (by omega)
  simpa using this
theorem dropIn {B : Nat} {w : World} {b off : Nat} {zs : List Int} (h : HasIn B w (some ⟨b, off, none⟩) zs) (n : Nat) : HasIn B w (some ⟨b, off + n, none⟩) (zs.drop n) := by
  refine ⟨fun x hx => h.1 x (List.mem_of_mem_drop hx), ?_⟩
  by_cases h0 : (zs.drop n).length = 0
  · exact .inl h0
  · simp at h0
    rcases h.2 with c | ⟨b', off', e, hlt, hc⟩
    · omega
    · simp at e
      obtain ⟨rfl, rfl⟩ := e
      refine .inr ⟨b, off + n, rfl, hlt, fun i hi => ?_⟩
      simp at hi
      have := hc (n + i) (by omega)
      rw [show off + n + i = off + (n + i) by omega, this]
      simp [List.getD]
theorem own_setNe {w : World} {e n g g' o c : Nat} {base : Nat} {xs : List Value} (h : w.ownsRow base e 1 (.slice (some ⟨g, 0, none⟩) n c) n xs) (hg : g' ≠ g) (u : Value) : (w.setCell ⟨g', o, none⟩ u).ownsRow base e 1 (.slice (some ⟨g, 0, none⟩) n c) n xs := by
  refine ⟨h.1, h.2.imp id ?_⟩
  rintro ⟨g2, cap, cur, e1, e2, e3, e4⟩
  have : g2 = g := by simp at e1; exact e1.1.symm
  subst this
  exact ⟨g2, cap, cur, e1, e2, (Below.heap_setCell w ⟨g', o, none⟩ u g2 (by show g2 ≠ g'; omega)).trans e3, e4⟩

set_option maxHeartbeats 2000000 in
theorem take_cut (B p n : Nat) (rs : List Int) (u : Int) (k : Bool) (w : World) (h : RdAt w B p rs u k) (hn : n ≤ 255) (hl : rs.length ≤ 1048576) (hc : rs.length < n) :
    Calls Tryz.prog 98 #[.pointer (some ⟨p, 0, none⟩), .int .i64 n] w fun r w' => r = .returned (.slice none 0 0) ∧ RdAt w' B p rs u true ∧ Only p w w' := by
  obtain ⟨i0, hi, hz0, hz1, hz2⟩ := info_parts info8
  have hsz : (Tryz.prog.info? 5).map (·.size) = some 1 := by rw [hi]; simp [hz1]
  have PZ : Hid (_) := made_fill n
  have H := h
  obtain ⟨⟨b, off, c, e0, ec, ecm, hd⟩, e1, e2, f0, f1, f2, hbs, hlt⟩ := h
  have hn0 : (0 : Int) ≤ (n : Int) := by omega
  have hcn : (rs.length : Int) < (n : Int) := by omega
  go_enter Tryz.func98, Tryz.ntmps98
  go_wp2_with (at_make; refine wpList_make_full _ rfl _ _ 22 rfl w.heap.size 5 i0 (.int .u8 0) 1 Tryz.underlying22 hi hz0 hz1 _ _ _ _ n rfl rfl rfl rfl (by rw [hz2]; omega) (by unfold maxLen; omega) (Nat.le_refl _) ?_; intro u2 hown hgrow; rw [PZ.out] at hown; have B2 : Below w.heap.size w u2 := (Below.refl _ _).grown hgrow (Nat.le_refl _) (by intro k hk; cases hk); have z2 := B2.size; have q0 := (B2.cell (p := ⟨p, 0, none⟩) hlt).trans e0; obtain ⟨u3, hcp, H3, B3⟩ := run_splice (P := Tryz.prog) u2 22 22 3 5 Tryz.underlying22 hsz (some ⟨w.heap.size, 0, none⟩) (some ⟨b, off, none⟩) n n rs.length c w.heap.size 0 ((fillP [] n).map (.int .u8)) 5 (own_heap hown) (rs.map (.int .u8)) (by rw [List.length_map]; simp [Nat.min_def]; omega) (fun hp => ⟨rfl, src_of ((hd.below (B2.mono (by omega))).has (by omega)) (by simpa using hp)⟩) (by rw [List.length_map, List.length_map, fillP_len _ _ (by simp)]; omega) (by intro v hv; simp at hv; obtain ⟨m, _, rfl⟩ := hv; rfl) w.heap.size w B2 (Nat.le_refl _); rw [List.length_map] at hcp; have q2 := (B3.cell (p := ⟨p, 2, none⟩) hlt).trans e2; have q2f := (B3.frozen (p := ⟨p, 2, none⟩) hlt).trans f2; have RR := H.below B3; clear hgrow hown H3)
  go_ret
  exact ⟨rfl, RR.cut, (Only.of_below B3).store _⟩

set_option maxHeartbeats 2000000 in
theorem take_ok (B p n : Nat) (rs : List Int) (u : Int) (k : Bool) (w : World) (h : RdAt w B p rs u k) (hn : n ≤ 255) (hl : rs.length ≤ 1048576) (hc : n ≤ rs.length) (u0 : 0 ≤ u) (u1 : u ≤ 1048576) :
    Calls Tryz.prog 98 #[.pointer (some ⟨p, 0, none⟩), .int .i64 n] w fun r w' => r = .returned (.slice (some ⟨w.heap.size, 0, none⟩) n n) ∧ w'.ownsRow w.heap.size 5 1 (.slice (some ⟨w.heap.size, 0, none⟩) n n) n ((rs.take n).map (.int .u8)) ∧ RdAt w' B p (rs.drop n) (u + n) k ∧ Only p w w' := by
  obtain ⟨i0, hi, hz0, hz1, hz2⟩ := info_parts info8
  have hsz : (Tryz.prog.info? 5).map (·.size) = some 1 := by rw [hi]; simp [hz1]
  have PZ : Hid (_) := made_fill n
  have H := h
  obtain ⟨⟨b, off, c, e0, ec, ecm, hd⟩, e1, e2, f0, f1, f2, hbs, hlt⟩ := h
  have hn0 : (0 : Int) ≤ (n : Int) := by omega
  have hcn : (n : Int) ≤ (rs.length : Int) := by omega
  have hcc : (rs.length : Int) ≤ (c : Int) := by omega
  have hnc : (n : Int) ≤ (c : Int) := by omega
  have hnn : ¬ (n : Int) < (n : Int) := by omega
  unfold maxLen at ecm
  obtain ⟨ts, hts⟩ : ∃ ts, ts = rs.take n := ⟨_, rfl⟩
  rw [← hts]
  have hl' : ts.length = n := by rw [hts]; simp; omega
  have HT : Hid (ts = rs.take n) := hts
  clear hts
  by_cases hcn' : c = n
  · have hcn2 := hcn'.symm
    clear hcn'
    subst hcn2
    go_enter Tryz.func98, Tryz.ntmps98
    go_wp2_with (at_make; refine wpList_make_full _ rfl _ _ 22 rfl w.heap.size 5 i0 (.int .u8 0) 1 Tryz.underlying22 hi hz0 hz1 _ _ _ _ n rfl rfl rfl rfl (by rw [hz2]; omega) (by unfold maxLen; omega) (Nat.le_refl _) ?_; intro u2 hown hgrow; rw [PZ.out] at hown; have B2 : Below w.heap.size w u2 := (Below.refl _ _).grown hgrow (Nat.le_refl _) (by intro k hk; cases hk); have z2 := B2.size; have q0 := (B2.cell (p := ⟨p, 0, none⟩) hlt).trans e0; obtain ⟨u3, hcp, H3, B3⟩ := run_splice (P := Tryz.prog) u2 22 22 3 5 Tryz.underlying22 hsz (some ⟨w.heap.size, 0, none⟩) (some ⟨b, off, none⟩) n n rs.length n w.heap.size 0 ((fillP [] n).map (.int .u8)) 5 (own_heap hown) (ts.map (.int .u8)) (by rw [List.length_map, hl']; simp [Nat.min_def]; omega) (fun hp => ⟨rfl, _, rfl, (show Has _ _ _ ts.length ts by rw [HT.out]; exact takeHas ((hd.below (B2.mono (by omega))).has (by omega)) n hc).news⟩) (by rw [List.length_map, List.length_map, fillP_len _ _ (by simp), hl']; omega) (by intro v hv; rw [List.mem_map] at hv; obtain ⟨m, _, rfl⟩ := hv; rfl) w.heap.size w B2 (Nat.le_refl _); rw [List.length_map, hl'] at hcp; have q2 := (B3.cell (p := ⟨p, 0, none⟩) hlt).trans e0; have q2f := (B3.frozen (p := ⟨p, 0, none⟩) hlt).trans f0; have q3 := (B3.cell (p := ⟨p, 1, none⟩) hlt).trans e1; have q3f := (B3.frozen (p := ⟨p, 1, none⟩) hlt).trans f1; have HH3 : Hid (u3.heap[w.heap.size]? = _) := H3; have RR := H.below B3; clear hgrow hown H3)
    go_ret
    have RS := RR.step (u' := u + n) n b off 0 (by omega) (by unfold maxLen; omega) ⟨fun x hx => hd.1 x (List.mem_of_mem_drop hx), .inl (by simp; omega)⟩
    rw [show rs.length - n = 0 by omega] at RS
    refine ⟨rfl, ?_, RS, ((Only.of_below B3).store _).store _⟩
    · refine own_setNe (own_setNe ?_ (by omega) _) (by omega) _
      have e : splice ((fillP [] n).map (Value.int .u8)) 0 (ts.map (.int .u8)) = ts.map (.int .u8) := by
        have := fillP_splice [] ts n (by simp; omega)
        simp only [List.length_nil, List.nil_append] at this
        rw [this, show fillP ts n = ts by have q := fillP_all ts; rwa [hl'] at q]
      rw [e] at HH3
      exact heap_own HH3.out (Nat.le_refl _) (by simp; omega) (by unfold maxLen; omega)
  · skip
    go_enter Tryz.func98, Tryz.ntmps98
    go_wp2_with (at_make; refine wpList_make_full _ rfl _ _ 22 rfl w.heap.size 5 i0 (.int .u8 0) 1 Tryz.underlying22 hi hz0 hz1 _ _ _ _ n rfl rfl rfl rfl (by rw [hz2]; omega) (by unfold maxLen; omega) (Nat.le_refl _) ?_; intro u2 hown hgrow; rw [PZ.out] at hown; have B2 : Below w.heap.size w u2 := (Below.refl _ _).grown hgrow (Nat.le_refl _) (by intro k hk; cases hk); have z2 := B2.size; have q0 := (B2.cell (p := ⟨p, 0, none⟩) hlt).trans e0; obtain ⟨u3, hcp, H3, B3⟩ := run_splice (P := Tryz.prog) u2 22 22 3 5 Tryz.underlying22 hsz (some ⟨w.heap.size, 0, none⟩) (some ⟨b, off, none⟩) n n rs.length c w.heap.size 0 ((fillP [] n).map (.int .u8)) 5 (own_heap hown) (ts.map (.int .u8)) (by rw [List.length_map, hl']; simp [Nat.min_def]; omega) (fun hp => ⟨rfl, _, rfl, (show Has _ _ _ ts.length ts by rw [HT.out]; exact takeHas ((hd.below (B2.mono (by omega))).has (by omega)) n hc).news⟩) (by rw [List.length_map, List.length_map, fillP_len _ _ (by simp), hl']; omega) (by intro v hv; rw [List.mem_map] at hv; obtain ⟨m, _, rfl⟩ := hv; rfl) w.heap.size w B2 (Nat.le_refl _); rw [List.length_map, hl'] at hcp; have q2 := (B3.cell (p := ⟨p, 0, none⟩) hlt).trans e0; have q2f := (B3.frozen (p := ⟨p, 0, none⟩) hlt).trans f0; have q3 := (B3.cell (p := ⟨p, 1, none⟩) hlt).trans e1; have q3f := (B3.frozen (p := ⟨p, 1, none⟩) hlt).trans f1; have HH3 : Hid (u3.heap[w.heap.size]? = _) := H3; have RR := H.below B3; clear hgrow hown H3)
    go_ret
    refine ⟨rfl, ?_, RR.step n _ _ _ (by omega) (by unfold maxLen; omega) ?_, ((Only.of_below B3).store _).store _⟩
    · refine own_setNe (own_setNe ?_ (by omega) _) (by omega) _
      have e : splice ((fillP [] n).map (Value.int .u8)) 0 (ts.map (.int .u8)) = ts.map (.int .u8) := by
        have := fillP_splice [] ts n (by simp; omega)
        simp only [List.length_nil, List.nil_append] at this
        rw [this, show fillP ts n = ts by have q := fillP_all ts; rwa [hl'] at q]
      rw [e] at HH3
      exact heap_own HH3.out (Nat.le_refl _) (by simp; omega) (by unfold maxLen; omega)
    · exact dropIn (hd.below (B3.mono (by omega))) n

end Go.Proofs.YtffidkoejlebeaaGreatDoor

namespace Go.Proofs.YtffidkoejlebeaaGreatDoor
open Go.ChangeShapes Go.WideShapes Go.ChangeAt Go.RowKit
set_option maxRecDepth 100000
set_option linter.unusedVariables false
set_option linter.unusedSimpArgs false

/-- What a reader has behind a take of n bytes: the number they tell, what is left, how many were used, whether it was cut. -/
structure Rd where
  rs : List Int
  u : Int
  k : Bool
def Rd.cutB (d : Rd) (n : Nat) : Bool := decide (d.rs.length < n)
def Rd.num (d : Rd) (n : Nat) : Int := if d.rs.length < n then 0 else wrap64 (getN (d.rs.take n) n)
def Rd.next (d : Rd) (n : Nat) : Rd := if d.rs.length < n then ⟨d.rs, d.u, true⟩ else ⟨d.rs.drop n, d.u + n, d.k⟩
def Rd.note (d : Rd) (n : Nat) : List Int := if d.rs.length < n then [] else d.rs.take n
theorem getN_nil : wrap64 (getN [] 0) = 0 := by simp [getN, wrap64]
theorem Rd.next_len (d : Rd) (n : Nat) : (d.next n).rs.length ≤ d.rs.length := by unfold Rd.next; split <;> simp
theorem Rd.next_u (d : Rd) (n : Nat) (h0 : 0 ≤ d.u) : 0 ≤ (d.next n).u ∧ (d.next n).u ≤ d.u + n := by unfold Rd.next; split <;> simp <;> omega
theorem Only.below' {p B : Nat} {w w' : World} (h : Only p w w') (hp : B ≤ p) (hw : B ≤ w.heap.size) : Below B w w' := h.below hp hw

theorem takeR_any (B p n : Nat) (d : Rd) (w : World) (h : RdAt w B p d.rs d.u d.k) (hn : n ≤ 255) (hl : d.rs.length ≤ 1048576) (u0 : 0 ≤ d.u) (u1 : d.u ≤ 1048576) :
    Calls Tryz.prog 98 #[.pointer (some ⟨p, 0, none⟩), .int .i64 n] w fun r w' => ∃ a' c', r = .returned (.slice a' (d.note n).length c') ∧ w'.ownsRow w.heap.size 5 1 (.slice a' (d.note n).length c') (d.note n).length ((d.note n).map (.int .u8)) ∧ RdAt w' B p (d.next n).rs (d.next n).u (d.next n).k ∧ Only p w w' := by
  unfold Rd.note Rd.next
  by_cases hc : d.rs.length < n
  · rw [if_pos hc, if_pos hc]
    refine (take_cut B p n d.rs d.u d.k w h hn hl hc).mono ?_
    rintro r w' ⟨rfl, h1, h2⟩
    exact ⟨none, 0, rfl, nil_own _ _ _, h1, h2⟩
  · rw [if_neg hc, if_neg hc]
    refine (take_ok B p n d.rs d.u d.k w h hn hl (by omega) u0 u1).mono ?_
    rintro r w' ⟨rfl, h1, h2, h3⟩
    have e : (d.rs.take n).length = n := by simp; omega
    rw [e]
    exact ⟨_, _, rfl, h1, h2, h3⟩

theorem note_wf (d : Rd) (n : Nat) (h : ∀ x ∈ d.rs, (Lit.int .u8 x).wf = true) : ∀ x ∈ d.note n, (Lit.int .u8 x).wf = true := by
  unfold Rd.note
  split
  · simp
  · exact fun x hx => h x (List.mem_of_mem_take hx)
theorem num_eq (d : Rd) (n : Nat) : wrap64 (getN (d.note n) (d.note n).length) = d.num n := by
  unfold Rd.note Rd.num
  split
  · exact getN_nil
  · have e : (d.rs.take n).length = n := by simp; omega
    rw [e]
theorem RdAt.wf {w : World} {B p : Nat} {rs : List Int} {u : Int} {k : Bool} (h : RdAt w B p rs u k) : ∀ x ∈ rs, (Lit.int .u8 x).wf = true := by
  obtain ⟨_, _, _, _, _, _, hd⟩ := h.ex
  exact hd.1

set_option maxHeartbeats 1000000 in
theorem takeNumber_any (B p n : Nat) (d : Rd) (w : World) (h : RdAt w B p d.rs d.u d.k) (hn : n ≤ 255) (hl : d.rs.length ≤ 1048576) (u0 : 0 ≤ d.u) (u1 : d.u ≤ 1048576) :
    Calls Tryz.prog 64 #[.pointer (some ⟨p, 0, none⟩), .int .i64 n] w fun r w' => r = .returned (.int .i64 (d.num n)) ∧ RdAt w' B p (d.next n).rs (d.next n).u (d.next n).k ∧ Only p w w' := by
  have hnl : (d.note n).length ≤ 255 := by unfold Rd.note; split <;> simp; omega
  have NW : Hid (∀ x ∈ d.note n, (Lit.int .u8 x).wf = true) := note_wf d n h.wf
  have NE : Hid (wrap64 (getN (d.note n) (d.note n).length) = d.num n) := num_eq d n
  go_enter Tryz.func64, Tryz.ntmps64
  go_wp2_with fail
  refine (takeR_any B p n d w h hn hl u0 u1).mono ?_
  rintro r u2 ⟨a2, c2, rfl, O2, R2, Y2⟩
  have P2 := has_of_own O2 NW.out
  clear O2 h
  go_wp2_with fail
  refine (numberOf_any a2 c2 (d.note n) _ P2 (by omega)).mono ?_
  rintro r u3 ⟨rfl, rfl⟩
  go_wp2
  go_ret
  exact ⟨ret_int NE.out, R2, Y2⟩

end Go.Proofs.YtffidkoejlebeaaGreatDoor
