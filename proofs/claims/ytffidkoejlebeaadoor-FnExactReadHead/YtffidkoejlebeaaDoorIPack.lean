/- Contracts of the model's chapter 3: a number as eight bytes. Contracts of the model's chapter 3: eight bytes as a number. Contracts of the program's chapter 3: a number as eight bytes, and back. Contracts of the model's chapter 3: the faults of an event. Contracts of the model's chapter 3: an event as bytes. Contracts of the model's chapter 3: PackEvent. Contracts of the model's chapter 3: events held against each other. Contracts of the program's chapter 2: whether two pieces clash. Contracts of the program's chapter 3: the faults of an event, events held against each other. Contracts of the program's chapter 3: an event as bytes. -/
import Derived.Test.YtffidkoejlebeaaDoorSource
import Derived.Test.YtffidkoejlebeaaDoorISums
import Derived.Laws.Bits64b
import Derived.Test.YtffidkoejlebeaaDoorCanon
import Derived.Test.YtffidkoejlebeaaDoorIn
import Derived.Test.YtffidkoejlebeaaDoorKeep
import Derived.Test.YtffidkoejlebeaaDoorLvl
import Derived.Test.YtffidkoejlebeaaDoorPath4S
import Derived.Test.YtffidkoejlebeaaDoorExc
import Derived.Deep.RegionHeld3
import Derived.Deep.DeepCutAuto
import Derived.Laws.CopyOwn
namespace Go.Proofs.YtffidkoejlebeaaDoor
open Go.ChangeShapes Go.WideShapes Go.ChangeAt Go.RowKit
set_option maxRecDepth 100000
set_option linter.unusedVariables false
set_option linter.unusedSimpArgs false

/-- The first j of the eight bytes of a number, the highest first. -/
def putL (n : Int) (j : Nat) : List Int := (List.range j).map fun (i : Nat) => (n / 2 ^ (56 - 8 * i)) % 256
theorem putL_len (n : Int) (j : Nat) : (putL n j).length = j := by simp [putL]
theorem putL_wf (n : Int) (j : Nat) : ∀ y ∈ putL n j, (Lit.int .u8 y).wf = true := by
  intro y hy
  simp [putL] at hy
  obtain ⟨i, _, rfl⟩ := hy
  exact wf_u8 (by omega) (by omega)
theorem putL_succ (n : Int) (j : Nat) : putL n (j + 1) = putL n j ++ [(n / 2 ^ (56 - 8 * j)) % 256] := by simp [putL, List.range_succ]

end Go.Proofs.YtffidkoejlebeaaDoor

namespace Go.Proofs.YtffidkoejlebeaaDoor
open Go.ChangeShapes Go.WideShapes Go.ChangeAt Go.RowKit
set_option maxRecDepth 100000
set_option linter.unusedVariables false
set_option linter.unusedSimpArgs false

/-- The first j bytes as one number, the highest first. -/
def getN (zs : List Int) : Nat → Int
  | 0 => 0
  | j + 1 => getN zs j * 256 + zs.getD j 0
theorem or_step (g y : Int) (h0 : 0 ≤ y) (h1 : y ≤ 255) : bits .or .i64 (wrap64 (wrap64 g * 256)) y = wrap64 (g * 256 + y) := by
  have hA : ((BitVec.ofInt 64 (wrap64 (wrap64 g * 256))).toNat : Int) = (g * 256) % 18446744073709551616 := by
    rw [BitVec.toNat_ofInt]
    unfold wrap64
    omega
  have hB : ((BitVec.ofInt 64 y).toNat : Int) = y := by
    rw [BitVec.toNat_ofInt]
    omega
  show IntKind.i64.wrap ((BitVec.ofInt 64 (wrap64 (wrap64 g * 256)) ||| BitVec.ofInt 64 y).toNat : Int) = _
  rw [BitVec.toNat_or]
  generalize (BitVec.ofInt 64 (wrap64 (wrap64 g * 256))).toNat = A at hA
  generalize (BitVec.ofInt 64 y).toNat = B at hB
  have hd : A = 2 ^ 8 * (A / 256) := by omega
  have hor : A ||| B = A + B := by
    rw [hd, ← Nat.two_pow_add_eq_or_of_lt (by omega)]
  rw [hor]
  rw [IntKind.wrap_i64]
  unfold wrap64
  omega

/-- The code and the value of the eight bytes at a place. -/
def getC (zs : List Int) (at' : Int) : Int := if at' < 0 ∨ (zs.length : Int) - 8 < at' then 3 else 0
def getV (zs : List Int) (at' : Int) : Int := if at' < 0 ∨ (zs.length : Int) - 8 < at' then 0 else wrap64 (getN (zs.drop at'.toNat) 8)

end Go.Proofs.YtffidkoejlebeaaDoor

namespace Go.Proofs.YtffidkoejlebeaaDoor
open Go.ChangeShapes Go.WideShapes Go.ChangeAt Go.RowKit
set_option maxRecDepth 100000
set_option linter.unusedVariables false
set_option linter.unusedSimpArgs false

/-- What is left of a number behind m bytes. -/
def uM (n : Int) (m : Nat) : Int := n % 18446744073709551616 / 2 ^ (8 * m)
theorem uM_zero (n : Int) : uM n 0 = n % 18446744073709551616 := by simp [uM]
theorem uM_bd (n : Int) (m : Nat) : 0 ≤ uM n m ∧ uM n m ≤ 18446744073709551615 := by
  unfold uM
  have h0 : 0 ≤ n % 18446744073709551616 := by omega
  have h1 : n % 18446744073709551616 ≤ 18446744073709551615 := by omega
  have hp : (0 : Int) < 2 ^ (8 * m) := by have := Nat.two_pow_pos (8 * m); rw [show (2 : Int) ^ (8 * m) = ((2 ^ (8 * m) : Nat) : Int) by simp]; omega
  exact ⟨Int.ediv_nonneg h0 (Int.le_of_lt hp), Int.le_trans (Int.ediv_le_self _ h0) h1⟩
theorem uM_succ (n : Int) (m : Nat) : uM n m / 256 = uM n (m + 1) := by
  unfold uM
  rw [Int.ediv_ediv_of_nonneg (by rw [show (2 : Int) ^ (8 * m) = ((2 ^ (8 * m) : Nat) : Int) by simp]; exact Int.natCast_nonneg _)]
  rw [show 8 * (m + 1) = 8 * m + 8 by omega, Int.pow_add]
  rfl
theorem uM_byte (n : Int) (m : Nat) (h : m < 8) : uM n m % 256 = (putL n 8).getD (7 - m) 0 := by
  unfold uM putL
  match m, h with
  | 0, _ => simp [List.getD, List.range_succ] <;> omega
  | 1, _ => simp [List.getD, List.range_succ]; omega
  | 2, _ => simp [List.getD, List.range_succ]; omega
  | 3, _ => simp [List.getD, List.range_succ]; omega
  | 4, _ => simp [List.getD, List.range_succ]; omega
  | 5, _ => simp [List.getD, List.range_succ]; omega
  | 6, _ => simp [List.getD, List.range_succ]; omega
  | 7, _ => simp [List.getD, List.range_succ]; omega

/-- The last m numbers, and nothing yet ahead of them. -/
def backP (ys : List Int) (m : Nat) : List Value := (List.replicate (ys.length - m) 0 ++ ys.drop (ys.length - m)).map (.int .u8)
theorem backP_zero (ys : List Int) : (madeCells (Value.int .u8 0).cells (ys.length * 1)).toList = backP ys 0 := by
  rw [partB_zero]
  simp [partB, backP]
theorem backP_all (ys : List Int) : backP ys ys.length = ys.map (.int .u8) := by simp [backP]
theorem backP_set (ys : List Int) (m : Nat) (h : m < ys.length) : (backP ys m).set (ys.length - 1 - m) (.int .u8 (ys.getD (ys.length - 1 - m) 0)) = backP ys (m + 1) := by
  unfold backP
  have e1 : ys.length - m = (ys.length - (m + 1)) + 1 := by omega
  have e2 : ys.length - 1 - m = ys.length - (m + 1) := by omega
  have e3 : ys.length - (m + 1) < ys.length := by omega
  rw [← List.map_set, e2]
  congr 1
  rw [e1, List.replicate_succ', List.append_assoc, List.set_append_right _ _ (by simp), List.length_replicate, Nat.sub_self]
  simp only [List.singleton_append, List.set_cons_zero]
  rw [List.drop_eq_getElem_cons e3]
  simp [List.getD, e3]
theorem backP_cell (ys : List Int) (m : Nat) (h : m < ys.length) : (backP ys m)[ys.length - 1 - m]? = some (.int .u8 0) := by
  unfold backP
  rw [List.getElem?_map, List.getElem?_append_left (by simp; omega)]
  simp [List.getElem?_replicate]
  omega

theorem or_stepU (g y : Int) (h0 : 0 ≤ y) (h1 : y ≤ 255) : bits .or .u64 ((g % 18446744073709551616 * 256) % 18446744073709551616) y = (g * 256 + y) % 18446744073709551616 := by
  have hA : ((BitVec.ofInt 64 ((g % 18446744073709551616 * 256) % 18446744073709551616)).toNat : Int) = (g * 256) % 18446744073709551616 := by
    rw [BitVec.toNat_ofInt]
    omega
  have hB : ((BitVec.ofInt 64 y).toNat : Int) = y := by
    rw [BitVec.toNat_ofInt]
    omega
  show IntKind.u64.wrap ((BitVec.ofInt 64 ((g % 18446744073709551616 * 256) % 18446744073709551616) ||| BitVec.ofInt 64 y).toNat : Int) = _
  rw [BitVec.toNat_or]
  generalize (BitVec.ofInt 64 ((g % 18446744073709551616 * 256) % 18446744073709551616)).toNat = A at hA
  generalize (BitVec.ofInt 64 y).toNat = B at hB
  have hd : A = 2 ^ 8 * (A / 256) := by omega
  have hor : A ||| B = A + B := by
    rw [hd, ← Nat.two_pow_add_eq_or_of_lt (by omega)]
  rw [hor]
  show ((A + B : Nat) : Int) % 18446744073709551616 = _
  omega

set_option maxHeartbeats 2000000 in
theorem numberOf_any (a : Option Addr) (cap : Nat) (zs : List Int) (w : World) (h : Has w .u8 a zs.length zs) (hl : zs.length ≤ 1048576) :
    Calls Tryd.prog 97 #[.slice a zs.length cap] w fun r w' => r = .returned (.int .i64 (wrap64 (getN zs zs.length))) ∧ w' = w := by
  obtain ⟨_, hwf, hc⟩ := h
  rcases hc with h0 | ⟨b, off, rfl, hb, hcell⟩
  · obtain rfl : zs = [] := List.eq_nil_of_length_eq_zero h0
    simp only [List.length_nil] at *
    go_enter Tryd.func97, Tryd.ntmps97
    go_wp2
    refine wp_loop_rounds 1 ?_
    rw [rounds_succ]
    go_wp2
    go_ret
    exact ⟨ret_int (by simp [getN, wrap64]), rfl⟩
  · go_enter Tryd.func97, Tryd.ntmps97
    go_wp2
    go_loop [3, 8] (fun u i => ∃ (j : Nat), j ≤ zs.length ∧ i = .int .i64 j ∧ u = .int .u64 (getN zs j % 18446744073709551616)) (fun _ i => zs.length - (intOf i).toNat)
    case atStart => exact ⟨0, by omega, rfl, by simp [getN]⟩
    case round =>
      obtain ⟨j, hj8, rfl, rfl⟩ := hrel
      by_cases hj : j < zs.length
      · have hx := hcell j (by omega)
        have hj' : (j : Int) < (zs.length : Int) := by omega
        have hyb : 0 ≤ zs.getD j 0 ∧ zs.getD j 0 ≤ 255 := by
          have := range_u8 hwf j
          simpa [List.getD] using this
        have HS : Hid (getN zs (j + 1) = getN zs j * 256 + zs.getD j 0) := rfl
        generalize zs.getD j 0 = y at hx hyb HS
        have HO : Hid (_) := or_stepU (getN zs j) y hyb.1 hyb.2
        generalize getN zs j = g at HS HO
        have hgb : 0 ≤ g % 18446744073709551616 ∧ g % 18446744073709551616 ≤ 18446744073709551615 := by omega
        clear hcell
        go_wp2
        go_round
        case rel => exact ⟨j + 1, by omega, by go_num, by rw [HS.out, ← HO.out]; rfl⟩
        case measure => simp [intOf]; omega
      · obtain rfl : j = zs.length := by omega
        go_wp2
        go_ret
        exact ⟨ret_int (by unfold wrap64; omega), rfl⟩

theorem isFrom_any (n m : Int) (w : World) : Calls Tryd.prog 66 #[.int .i64 n, .int .i64 m] w fun r w' => r = .returned (.bool (decide (0 ≤ n ∧ n ≤ m))) ∧ w' = w := by
  by_cases h : 0 ≤ n
  · go_enter Tryd.func66, Tryd.ntmps66
    go_wp2
    go_ret
    exact ⟨ret_bool (by simp [h]), rfl⟩
  · go_enter Tryd.func66, Tryd.ntmps66
    go_wp2
    go_ret
    exact ⟨ret_bool (by simp; omega), rfl⟩

theorem getN_take (zs : List Int) (m j : Nat) (h : j ≤ m) : getN (zs.take m) j = getN zs j := by
  induction j with
  | zero => rfl
  | succ j ih =>
    show getN (zs.take m) j * 256 + (zs.take m).getD j 0 = getN zs j * 256 + zs.getD j 0
    rw [ih (by omega)]
    simp [List.getD, List.getElem?_take, show j < m by omega]

end Go.Proofs.YtffidkoejlebeaaDoor

namespace Go.Proofs.YtffidkoejlebeaaDoor
open Go.ChangeShapes Go.WideShapes Go.ChangeAt Go.RowKit
set_option maxRecDepth 100000
set_option linter.unusedVariables false
set_option linter.unusedSimpArgs false

/-- An event at block b. -/
structure EvAt (w : World) (b : Nat) (s v k x : Int) (a : Option Addr) (n c : Nat) : Prop where
  c0 : w.cell? ⟨b, 0, none⟩ = some (.int .i64 s)
  c1 : w.cell? ⟨b, 1, none⟩ = some (.int .i64 v)
  c2 : w.cell? ⟨b, 2, none⟩ = some (.int .i64 k)
  c3 : w.cell? ⟨b, 3, none⟩ = some (.int .i64 x)
  c4 : w.cell? ⟨b, 4, none⟩ = some (.slice a n c)
  lt : b < w.heap.size
theorem EvAt.below {w w' : World} {b : Nat} {s v k x : Int} {a : Option Addr} {n c : Nat} (h : EvAt w b s v k x a n c) (hb : Below w.heap.size w w') : EvAt w' b s v k x a n c :=
  ⟨(hb.cell (p := ⟨b, 0, none⟩) h.lt).trans h.c0, (hb.cell (p := ⟨b, 1, none⟩) h.lt).trans h.c1, (hb.cell (p := ⟨b, 2, none⟩) h.lt).trans h.c2, (hb.cell (p := ⟨b, 3, none⟩) h.lt).trans h.c3, (hb.cell (p := ⟨b, 4, none⟩) h.lt).trans h.c4, Nat.lt_of_lt_of_le h.lt hb.size⟩
theorem EvAt.new (w : World) (s v k x : Int) (a : Option Addr) (n c T : Nat) : EvAt (w.alloc (.cells #[.int .i64 s, .int .i64 v, .int .i64 k, .int .i64 x, .slice a n c] T)) w.heap.size s v k x a n c := by
  constructor <;> simp [go_sem]

/-- The first code of an event that is so. -/
def evF (s v k x : Int) (n : Nat) : Int := if ¬ ((0 ≤ s ∧ s ≤ 63) ∧ (0 ≤ v ∧ v ≤ 999) ∧ 0 ≤ k ∧ k ≤ 9) then 3 else if ¬ x = canon x then 1 else if 12 < n then 2 else 0

end Go.Proofs.YtffidkoejlebeaaDoor

namespace Go.Proofs.YtffidkoejlebeaaDoor
open Go.ChangeShapes Go.WideShapes Go.ChangeAt Go.RowKit
set_option maxRecDepth 100000
set_option linter.unusedVariables false
set_option linter.unusedSimpArgs false

/-- The bytes of an event. -/
def packL (s v k x : Int) (zs : List Int) : List Int := [s, v / 256, v % 256] ++ [k] ++ putL x 8 ++ [(zs.length : Int)] ++ zs
theorem packL_len (s v k x : Int) (zs : List Int) : (packL s v k x zs).length = 13 + zs.length := by simp [packL, putL_len]; omega

theorem wrap_u8 {y : Int} (h0 : 0 ≤ y) (h1 : y ≤ 255) : IntKind.u8.wrap y = y := by simp [IntKind.wrap, IntKind.bits, IntKind.signed]; omega
theorem one_has (w : World) (y : Int) (T : Nat) (h : 0 ≤ y ∧ y ≤ 255) : Has (w.alloc (.cells #[.int .u8 y] T)) .u8 (some ⟨w.heap.size, 0, none⟩) [y].length [y] := has_one w T h

end Go.Proofs.YtffidkoejlebeaaDoor

namespace Go.Proofs.YtffidkoejlebeaaDoor
open Go.ChangeShapes Go.WideShapes Go.ChangeAt Go.RowKit
set_option maxRecDepth 100000
set_option linter.unusedVariables false
set_option linter.unusedSimpArgs false

/-- The bytes of an event, or none where it has a fault. -/
def packB (s v k x : Int) (zs : List Int) : List Int := if evF s v k x zs.length = 0 then packL s v k x zs else []
theorem evF_zero {s v k x : Int} {n : Nat} (h : evF s v k x n = 0) : (0 ≤ s ∧ s ≤ 63) ∧ (0 ≤ v ∧ v ≤ 999) ∧ (0 ≤ k ∧ k ≤ 9) ∧ n ≤ 12 ∧ x = canon x := by
  unfold evF at h
  split at h
  · simp at h
  · split at h
    · simp at h
    · split at h
      · simp at h
      · rename_i h1 h2 h3
        have h1' := Classical.not_not.1 h1
        exact ⟨h1'.1, h1'.2.1, h1'.2.2, by omega, Classical.not_not.1 h2⟩
theorem packB_wf {s v k x : Int} {zs : List Int} (hz : ∀ n ∈ zs, (Lit.int .u8 n).wf = true) : ∀ n ∈ packB s v k x zs, (Lit.int .u8 n).wf = true := by
  unfold packB
  split
  · rename_i h
    obtain ⟨hs, hv, hk, hn, _⟩ := evF_zero h
    intro n hn'
    unfold packL at hn'
    simp only [List.mem_append, List.mem_cons, List.not_mem_nil, or_false] at hn'
    rcases hn' with (((h | h) | h) | h) | h
    · rcases h with rfl | rfl | rfl <;> exact wf_u8 (by omega) (by omega)
    · subst h; exact wf_u8 (by omega) (by omega)
    · exact putL_wf x 8 n h
    · subst h; exact wf_u8 (by omega) (by omega)
    · exact hz n h
  · simp
theorem packB_len {s v k x : Int} {zs : List Int} : (packB s v k x zs).length ≤ 25 := by
  unfold packB
  split
  · rename_i h
    have := (evF_zero h).2.2.2.1
    rw [packL_len]; omega
  · simp

end Go.Proofs.YtffidkoejlebeaaDoor

namespace Go.Proofs.YtffidkoejlebeaaDoor
open Go.ChangeShapes Go.WideShapes Go.ChangeAt Go.RowKit
set_option maxRecDepth 100000
set_option linter.unusedVariables false
set_option linter.unusedSimpArgs false

/-- Whether two events are the same. -/
def sameE (s v k x s' v' k' x' : Int) (zs ys : List Int) : Bool := decide (s = s') && (decide (v = v') && (decide (k = k') && (decide (x = x') && decide (zs = ys))))

end Go.Proofs.YtffidkoejlebeaaDoor

namespace Go.Proofs.YtffidkoejlebeaaDoor
open Go.ChangeShapes Go.WideShapes Go.ChangeAt Go.RowKit
set_option maxRecDepth 100000
set_option linter.unusedVariables false
set_option linter.unusedSimpArgs false

theorem bytesEqual_any (a b : Option Addr) (ca cb : Nat) (zs ys : List Int) (w : World) (ha : Has w .u8 a zs.length zs) (hb : Has w .u8 b ys.length ys) :
    Calls Tryd.prog 40 #[.slice a zs.length ca, .slice b ys.length cb] w fun r w' => r = .returned (.bool (decide (zs = ys))) ∧ w' = w := by
  have s1 := ha.str ca
  have s2 := hb.str cb
  have hst := str_beq ha.2.1 hb.2.1
  have HS : Hid (_) := hst
  clear hst
  go_enter Tryd.func40, Tryd.ntmps40
  go_wp2
  go_ret
  exact ⟨ret_bool HS.out, rfl⟩

theorem Has.drew {w : World} {k : IntKind} {a : Option Addr} {len : Nat} {zs : List Int} (h : Has w k a len zs) : Has w.drew k a len zs := h.below (Below.refl _ _).drew (Nat.le_refl _)

theorem bsize {W w1 : World} (hb : Below W.heap.size W w1) : (∀ x : Nat, x < W.heap.size → ¬ x = w1.heap.size) ∧ (∀ x : Nat, x < W.heap.size → ¬ w1.heap.size = x) ∧ (∀ x : Nat, x < W.heap.size → x < w1.heap.size) := by
  have := hb.size
  exact ⟨fun x h => by omega, fun x h => by omega, fun x h => by omega⟩

end Go.Proofs.YtffidkoejlebeaaDoor

namespace Go.Proofs.YtffidkoejlebeaaDoor
open Go.ChangeShapes Go.WideShapes Go.ChangeAt Go.RowKit
set_option maxRecDepth 100000
set_option linter.unusedVariables false
set_option linter.unusedSimpArgs false

theorem isFrom0_any (n m : Int) (w : World) : Calls Tryd.prog 66 #[.int .i64 n, .int .i64 m] w fun r w' => r = .returned (.bool (decide (0 ≤ n ∧ n ≤ m))) ∧ w' = w := by
  by_cases h : 0 ≤ n
  · go_enter Tryd.func66, Tryd.ntmps66
    go_wp2
    go_ret
    exact ⟨ret_bool (by simp [h]), rfl⟩
  · go_enter Tryd.func66, Tryd.ntmps66
    go_wp2
    go_ret
    exact ⟨ret_bool (by simp; omega), rfl⟩

end Go.Proofs.YtffidkoejlebeaaDoor

namespace Go.Proofs.YtffidkoejlebeaaDoor
open Go.ChangeShapes Go.WideShapes Go.ChangeAt Go.RowKit
set_option maxRecDepth 100000
set_option linter.unusedVariables false
set_option linter.unusedSimpArgs false

/-- A row of N bytes that begins with P, nothing yet behind it. -/
def fillP (P : List Int) (N : Nat) : List Int := P ++ List.replicate (N - P.length) 0
theorem fillP_len (P : List Int) (N : Nat) (h : P.length ≤ N) : (fillP P N).length = N := by simp [fillP]; omega
theorem fillP_set (P : List Int) (N : Nat) (y : Int) (h : P.length < N) : ((fillP P N).map (Value.int .u8)).set P.length (.int .u8 y) = (fillP (P ++ [y]) N).map (.int .u8) := by
  rw [← List.map_set]
  congr 1
  unfold fillP
  rw [List.set_append_right _ _ (Nat.le_refl _), Nat.sub_self, List.append_assoc]
  congr 1
  obtain ⟨m, hm⟩ : ∃ m, N - P.length = m + 1 := ⟨N - P.length - 1, by omega⟩
  have : N - (P ++ [y]).length = m := by simp; omega
  rw [hm, this, List.replicate_succ]
  rfl
theorem fillP_splice (P cs : List Int) (N : Nat) (h : P.length + cs.length ≤ N) : splice ((fillP P N).map (Value.int .u8)) P.length (cs.map (.int .u8)) = (fillP (P ++ cs) N).map (.int .u8) := by
  unfold splice
  rw [← List.map_take, ← List.map_drop, List.length_map, ← List.map_append, ← List.map_append]
  congr 1
  unfold fillP
  rw [List.take_append_of_le_length (Nat.le_refl _), List.take_length, List.append_assoc]
  congr 2
  rw [List.drop_append, List.drop_of_length_le (by omega), List.nil_append, List.drop_replicate]
  congr 1
  simp
  omega
theorem fillP_cell (P : List Int) (N j : Nat) (h0 : P.length ≤ j) (h1 : j < N) : ((fillP P N).map (Value.int .u8))[j]? = some (.int .u8 0) := by
  unfold fillP
  rw [List.getElem?_map, List.getElem?_append_right h0, List.getElem?_replicate, if_pos (by omega)]
  rfl
theorem fillP_all (P : List Int) : fillP P P.length = P := by simp [fillP]
theorem own_heap {w : World} {base e g n : Nat} {xs : List Value} (h : w.ownsRow base e 1 (.slice (some ⟨g, 0, none⟩) n n) n xs) : w.heap[g]? = some (.cells xs.toArray e (0, 0)) := by
  rcases h.2 with ⟨e1, _⟩ | ⟨g', cap, cur, e1, _, hg, _, _, hs, ht⟩
  · simp at e1
  · simp at e1
    obtain ⟨rfl, rfl⟩ := e1
    rw [hg, ← ht, List.take_of_length_le (by simp; omega)]
theorem heap_own {w : World} {base e g n : Nat} {xs : List Value} (h : w.heap[g]? = some (.cells xs.toArray e (0, 0))) (hb : base ≤ g) (hl : xs.length = n) (hm : n ≤ maxLen) : w.ownsRow base e 1 (.slice (some ⟨g, 0, none⟩) n n) n xs :=
  ⟨by omega, .inr ⟨g, n, xs.toArray, rfl, hb, h, Nat.le_refl _, hm, by simp; omega, by simp [← hl]⟩⟩
theorem made_fill (N : Nat) : (madeCells (Value.int .u8 0).cells (N * 1)).toList = (fillP [] N).map (.int .u8) := by
  have := partB_zero (List.replicate N 0)
  simp at this
  rw [show N * 1 = N by omega]
  simpa [fillP, partB] using this

theorem fld_bytes (y : Int) (a : Option Addr) (n c : Nat) (w : World) : (Instr.field 26 (.agg #[.int .i64 y, .slice a n c]) 1).run Tryd.prog w = .ok (.slice a n c) w := by kernel_rfl
theorem src_of {w : World} {k : IntKind} {a : Option Addr} {zs : List Int} (h : Has w k a zs.length zs) (h0 : 0 < zs.length) : ∃ ad, a = some ad ∧ ∀ (j : Nat) (v : Value), (zs.map (.int k))[j]? = some v → w.cell? (ad.add j) = some v := by
  cases a with
  | none =>
    rcases h.2.2 with c | ⟨_, _, c, _⟩
    · omega
    · cases c
  | some ad => exact ⟨ad, rfl, h.news⟩

end Go.Proofs.YtffidkoejlebeaaDoor
