/- Plain facts on 64-bit numbers and on the parts of a measure, with no program in sight. Contracts: PartsOf of the program and of the model give the same parts. Contracts: what is wrong with parts, and the bits of right parts. Contracts: PartsFault of the program and of the model. Contracts: the model's PartsFault, through a pointer. Contracts: BitsOf, PartsFault and CanonOf of the program and of the model. Contracts: BitsOf and CanonOf of the program and of the model. -/
import Derived.WalkKit
import Derived.Laws.BitsAllLaws
import Derived.Test.YtffidkoejlebeaaGreatDoorRegB
namespace Go.Proofs.YtffidkoejlebeaaGreatDoor

theorem and_hi {u : Int} (h0 : 0 ≤ u) (h1 : u < 18446744073709551616) : bits .and .u64 u 9223372036854775808 = if u < 9223372036854775808 then 0 else 9223372036854775808 := by
  rw [u64_and u _ h0 h1 (by decide) (by decide)]
  have := nat_bit 63 u.toNat
  have e : (9223372036854775808 : Int).toNat = 2 ^ 63 := by decide
  rw [e, this]
  split <;> omega
theorem and_top {u : Int} (h0 : 0 ≤ u) (h1 : u < 18446744073709551616) : bits .and .u64 u 2047 = u % 2048 := by
  rw [u64_and u _ h0 h1 (by decide) (by decide)]
  have e : (2047 : Int).toNat = 2047 := by decide
  rw [e, nat_mask11]
  omega
theorem nat_mask52 (x : Nat) : x &&& 4503599627370495 = x % 4503599627370496 := Nat.and_two_pow_sub_one_eq_mod x 52
theorem and_frac {u : Int} (h0 : 0 ≤ u) (h1 : u < 18446744073709551616) : bits .and .u64 u 4503599627370495 = u % 4503599627370496 := by
  rw [u64_and u _ h0 h1 (by decide) (by decide)]
  have e : (4503599627370495 : Int).toNat = 4503599627370495 := by decide
  rw [e, nat_mask52]
  omega
theorem or_lead {f : Int} (h0 : 0 ≤ f) (h1 : f < 4503599627370496) : bits .or .u64 4503599627370496 f = 4503599627370496 + f := by
  rw [u64_or _ f (by decide) (by decide) h0 (by omega)]
  have := nat_join 52 4503599627370496 f.toNat (by decide) (by omega)
  have e : (4503599627370496 : Int).toNat = 4503599627370496 := by decide
  rw [e, this]
  omega
theorem or_low {a f : Int} (ha : 0 ≤ a) (hb : a < 18446744073709551616) (hm : a % 4503599627370496 = 0) (h0 : 0 ≤ f) (h1 : f < 4503599627370496) : bits .or .u64 a f = a + f := by
  rw [u64_or a f ha hb h0 (by omega)]
  have := nat_join 52 a.toNat f.toNat (by omega) (by omega)
  rw [this]
  omega
theorem or_hi {u : Int} (h0 : 0 ≤ u) (h1 : u < 9223372036854775808) : bits .or .u64 u 9223372036854775808 = u + 9223372036854775808 := by
  rw [u64_or u _ h0 (by omega) (by decide) (by decide), Nat.or_comm]
  have := nat_join 63 9223372036854775808 u.toNat (by decide) (by omega)
  have e : (9223372036854775808 : Int).toNat = 9223372036854775808 := by decide
  rw [e, this]
  omega
theorem or_hi_has {u : Int} (h0 : 9223372036854775808 ≤ u) (h1 : u < 18446744073709551616) : bits .or .u64 u 9223372036854775808 = u := by
  rw [u64_or u _ (by omega) (by omega) (by decide) (by decide)]
  have hu : u.toNat = 9223372036854775808 + (u.toNat - 9223372036854775808) := by omega
  have j := nat_join 63 9223372036854775808 (u.toNat - 9223372036854775808) (by decide) (by omega)
  have e : (9223372036854775808 : Int).toNat = 9223372036854775808 := by decide
  rw [e, hu, ← j, Nat.or_comm, ← Nat.or_assoc, Nat.or_self, j]
  omega
theorem not_u64 {u : Int} (h0 : 0 ≤ u) (h1 : u < 18446744073709551616) : bits .xor .u64 18446744073709551615 u = 18446744073709551615 - u := by
  obtain ⟨a, rfl⟩ := Int.eq_ofNat_of_zero_le h0
  show IntKind.u64.wrap ((BitVec.ofInt 64 18446744073709551615 ^^^ BitVec.ofInt 64 (a : Int)).toNat : Int) = _
  have h1 : BitVec.ofInt 64 18446744073709551615 = BitVec.allOnes 64 := by decide
  rw [h1, BitVec.allOnes_xor, BitVec.toNat_not, ofInt_u64 a (by omega), IntKind.wrap_u64]
  omega
theorem and_size {x : Int} (h0 : -9223372036854775808 ≤ x) (h1 : x ≤ 9223372036854775807) : bits .and .i64 x 9223372036854775807 = if x < 0 then x + 9223372036854775808 else x := by
  show IntKind.i64.wrap ((BitVec.ofInt 64 x &&& BitVec.ofInt 64 9223372036854775807).toNat : Int) = _
  have hx : (BitVec.ofInt 64 x).toNat = (x % 18446744073709551616).toNat := by rw [BitVec.toNat_ofInt]; rfl
  rw [BitVec.toNat_and, hx]
  have e : (BitVec.ofInt 64 9223372036854775807).toNat = 2 ^ 63 - 1 := by decide
  rw [e, Nat.and_two_pow_sub_one_eq_mod, IntKind.wrap_i64]
  split <;> omega

/-! The parts of a measure. -/
/-- The bits without the highest one. -/
def sz (x : Int) : Int := if x < 0 then x + 9223372036854775808 else x
def nanB (x : Int) : Bool := decide (9218868437227405312 < sz x)
/-- The five sorts of a measure: 0 no number, 1 zero, 2 infinity, 3 E is 0, 4 all others. -/
def kd (x : Int) : Int := if 9218868437227405312 < sz x then 3 else if sz x = 0 then 1 else if sz x = 9218868437227405312 then 2 else 0
def mn (x : Int) : Bool := if 9218868437227405312 < sz x then false else decide (x < 0)
def ex (x : Int) : Int := if 9218868437227405312 ≤ sz x ∨ sz x = 0 then 0 else if sz x < 4503599627370496 then -1074 else sz x / 4503599627370496 - 1075
def mt (x : Int) : Int := if 9218868437227405312 ≤ sz x ∨ sz x = 0 then 0 else if sz x < 4503599627370496 then sz x else 4503599627370496 + sz x % 4503599627370496
def canon (x : Int) : Int := if 9218868437227405312 < sz x then 9221120237041090560 else x
/-- The place of a measure in the order. -/
def place (x : Int) : Int := if 9218868437227405312 < sz x then 18444492273895866368 else if x < 0 then -1 - x else x + 9223372036854775808
def aheadB (a b : Int) : Bool := decide (place a < place b)
def sameB (a b : Int) : Bool := kd a == kd b && (mn a == mn b && (ex a == ex b && mt a == mt b))

/-- What is wrong with parts. -/
def faultOf (k : Int) (m : Bool) (e t : Int) : Int :=
  if ¬ (0 ≤ k ∧ k ≤ 3) ∨ (k = 3 ∧ m = true) ∨ (k ≠ 0 ∧ (e ≠ 0 ∨ t ≠ 0)) then 1
  else if k = 0 ∧ (¬ (-1074 ≤ e ∧ e ≤ 971) ∨ ¬ (1 ≤ t ∧ t ≤ 9007199254740991) ∨ (t < 4503599627370496 ∧ -1074 < e)) then 3 else 0
/-- The bits of right parts, without Minus. -/
def bodyOf (k e t : Int) : Int :=
  if k = 3 then 9221120237041090560 else if k = 2 then 9218868437227405312 else if k = 1 then 0 else if t < 4503599627370496 then t else (e + 1074) * 4503599627370496 + t
def joinOf (k : Int) (m : Bool) (e t : Int) : Int := if m then bodyOf k e t - 9223372036854775808 else bodyOf k e t

theorem sz_bd {x : Int} (h0 : -9223372036854775808 ≤ x) (h1 : x ≤ 9223372036854775807) : 0 ≤ sz x ∧ sz x ≤ 9223372036854775807 := by unfold sz; split <;> omega
theorem kd_bd (x : Int) : 0 ≤ kd x ∧ kd x ≤ 3 := by unfold kd; repeat (first | split | omega)
theorem ex_bd {x : Int} (h0 : -9223372036854775808 ≤ x) (h1 : x ≤ 9223372036854775807) : -1074 ≤ ex x ∧ ex x ≤ 971 := by
  have := sz_bd h0 h1; unfold ex; repeat (first | split | omega)
theorem mt_bd {x : Int} (h0 : -9223372036854775808 ≤ x) (h1 : x ≤ 9223372036854775807) : 0 ≤ mt x ∧ mt x ≤ 9007199254740991 := by
  have := sz_bd h0 h1; unfold mt; repeat (first | split | omega)
theorem fault_parts {x : Int} (h0 : -9223372036854775808 ≤ x) (h1 : x ≤ 9223372036854775807) : faultOf (kd x) (mn x) (ex x) (mt x) = 0 := by
  have := sz_bd h0 h1
  unfold faultOf kd mn ex mt
  by_cases a : 9218868437227405312 < sz x
  · simp [a]; omega
  · by_cases b : sz x = 0
    · simp [b]
    · by_cases c : sz x = 9218868437227405312
      · simp [c]
      · by_cases d : sz x < 4503599627370496
        · have e1 : ¬ 9218868437227405312 ≤ sz x := by omega
          simp [a, b, c, d, e1]; omega
        · have e1 : ¬ 9218868437227405312 ≤ sz x := by omega
          simp [a, b, c, d, e1]; omega
theorem join_parts {x : Int} (h0 : -9223372036854775808 ≤ x) (h1 : x ≤ 9223372036854775807) : joinOf (kd x) (mn x) (ex x) (mt x) = canon x := by
  have hs := sz_bd h0 h1
  have hx : sz x = if x < 0 then x + 9223372036854775808 else x := rfl
  unfold joinOf bodyOf kd mn ex mt canon
  by_cases a : 9218868437227405312 < sz x
  · simp [a]
  · by_cases b : sz x = 0
    · simp [b]; split at hx <;> split <;> omega
    · by_cases c : sz x = 9218868437227405312
      · simp [c]; split at hx <;> split <;> omega
      · have e1 : ¬ 9218868437227405312 ≤ sz x := by omega
        by_cases d : sz x < 4503599627370496
        · simp [a, b, c, d, e1]; split at hx <;> split <;> omega
        · have e2 : ¬ (4503599627370496 + sz x % 4503599627370496 < 4503599627370496) := by omega
          simp [a, b, c, d, e1, e2]; split at hx <;> split <;> omega
theorem fault_cases (k : Int) (m : Bool) (e t : Int) : faultOf k m e t = 0 ∨ faultOf k m e t = 1 ∨ faultOf k m e t = 3 := by
  unfold faultOf; repeat (first | split | omega)
theorem canon_bd {x : Int} (h0 : -9223372036854775808 ≤ x) (h1 : x ≤ 9223372036854775807) : -9223372036854775808 ≤ canon x ∧ canon x ≤ 9223372036854775807 := by
  unfold canon; split <;> omega
theorem body_bd {k : Int} {m : Bool} {e t : Int} (h : faultOf k m e t = 0) : 0 ≤ bodyOf k e t ∧ bodyOf k e t ≤ 9223372036854775807 := by
  unfold faultOf at h; unfold bodyOf
  split at h
  · omega
  · rename_i h1
    split at h
    · omega
    · repeat (first | split | omega)
end Go.Proofs.YtffidkoejlebeaaGreatDoor

namespace Go.Proofs.YtffidkoejlebeaaGreatDoor
open Go.ChangeShapes Go.WideShapes Go.ChangeAt Go.RowKit
set_option maxRecDepth 100000
set_option linter.unusedVariables false
set_option linter.unusedSimpArgs false

/-- What the parts are, sort by sort. -/
theorem parts_nan {x : Int} (h : 9218868437227405312 < sz x) : kd x = 3 ∧ mn x = false ∧ ex x = 0 ∧ mt x = 0 := by
  unfold kd mn ex mt; rw [if_pos h, if_pos h, if_pos (by omega), if_pos (by omega)]; exact ⟨rfl, rfl, rfl, rfl⟩
theorem parts_zero {x : Int} (h : sz x = 0) : kd x = 1 ∧ mn x = decide (x < 0) ∧ ex x = 0 ∧ mt x = 0 := by
  unfold kd mn ex mt; rw [if_neg (by omega), if_pos h, if_neg (by omega), if_pos (by omega), if_pos (by omega)]; exact ⟨rfl, rfl, rfl, rfl⟩
theorem parts_inf {x : Int} (h : sz x = 9218868437227405312) : kd x = 2 ∧ mn x = decide (x < 0) ∧ ex x = 0 ∧ mt x = 0 := by
  unfold kd mn ex mt; rw [if_neg (by omega), if_neg (by omega), if_pos h, if_neg (by omega), if_pos (by omega), if_pos (by omega)]; exact ⟨rfl, rfl, rfl, rfl⟩
theorem parts_low {x : Int} (h0 : sz x ≠ 0) (h : sz x < 4503599627370496) : kd x = 0 ∧ mn x = decide (x < 0) ∧ ex x = -1074 ∧ mt x = sz x := by
  unfold kd mn ex mt; rw [if_neg (by omega), if_neg h0, if_neg (by omega), if_neg (by omega), if_neg (by omega), if_pos h, if_neg (by omega), if_pos h]; exact ⟨rfl, rfl, rfl, rfl⟩
theorem parts_high {x : Int} (h0 : 4503599627370496 ≤ sz x) (h : sz x < 9218868437227405312) : kd x = 0 ∧ mn x = decide (x < 0) ∧ ex x = sz x / 4503599627370496 - 1075 ∧ mt x = 4503599627370496 + sz x % 4503599627370496 := by
  unfold kd mn ex mt; rw [if_neg (by omega), if_neg (by omega), if_neg (by omega), if_neg (by omega), if_neg (by omega), if_neg (by omega), if_neg (by omega), if_neg (by omega)]; exact ⟨rfl, rfl, rfl, rfl⟩

end Go.Proofs.YtffidkoejlebeaaGreatDoor


namespace Go.Proofs.YtffidkoejlebeaaGreatDoor
open Go.ChangeShapes Go.WideShapes Go.ChangeAt Go.RowKit
set_option maxRecDepth 100000
set_option linter.unusedVariables false
set_option linter.unusedSimpArgs false

def formB (k : Int) (m : Bool) (e t : Int) : Bool := decide (0 ≤ k ∧ k ≤ 3 ∧ ¬ (k = 3 ∧ m = true) ∧ (k = 0 ∨ (e = 0 ∧ t = 0)))
def rangeB (e t : Int) : Bool := decide (-1074 ≤ e ∧ e ≤ 971 ∧ 1 ≤ t ∧ t ≤ 9007199254740991 ∧ (4503599627370496 ≤ t ∨ e = -1074))

/-- What is wrong, by the two tests. -/
theorem fault_form {k : Int} {m : Bool} {e t : Int} (h : formB k m e t = false) : faultOf k m e t = 1 := by
  unfold formB at h; unfold faultOf
  rw [if_pos]
  cases m <;> simp at h ⊢ <;> omega
theorem fault_range {k : Int} {m : Bool} {e t : Int} (h : formB k m e t = true) (h0 : k = 0) (h2 : rangeB e t = false) : faultOf k m e t = 3 := by
  unfold formB at h; unfold rangeB at h2; unfold faultOf
  rw [if_neg, if_pos]
  · simp at h2 ⊢; omega
  · cases m <;> simp at h ⊢ <;> omega
theorem fault_ok {k : Int} {m : Bool} {e t : Int} (h : formB k m e t = true) (h0 : k = 0 → rangeB e t = true) : faultOf k m e t = 0 := by
  unfold formB at h; unfold rangeB at h0; unfold faultOf
  rw [if_neg, if_neg]
  · simp at h0 ⊢; intro c; have := h0 c; omega
  · cases m <;> simp at h ⊢ <;> omega

end Go.Proofs.YtffidkoejlebeaaGreatDoor

namespace Go.Proofs.YtffidkoejlebeaaGreatDoor
open Go.ChangeShapes Go.WideShapes Go.ChangeAt Go.RowKit
set_option maxRecDepth 100000
set_option linter.unusedVariables false
set_option linter.unusedSimpArgs false

end Go.Proofs.YtffidkoejlebeaaGreatDoor

namespace Go.Proofs.YtffidkoejlebeaaGreatDoor
open Go.ChangeShapes Go.WideShapes Go.ChangeAt Go.RowKit
set_option maxRecDepth 100000
set_option linter.unusedVariables false
set_option linter.unusedSimpArgs false

end Go.Proofs.YtffidkoejlebeaaGreatDoor


namespace Go.Proofs.YtffidkoejlebeaaGreatDoor
open Go.ChangeShapes Go.WideShapes Go.ChangeAt Go.RowKit
set_option maxRecDepth 100000
set_option linter.unusedVariables false
set_option linter.unusedSimpArgs false

/-- Right parts, sort by sort. -/
theorem right_cases {k : Int} {m : Bool} {e t : Int} (h : faultOf k m e t = 0) :
    (k = 3 ∧ m = false ∧ e = 0 ∧ t = 0) ∨ (k = 2 ∧ e = 0 ∧ t = 0) ∨ (k = 1 ∧ e = 0 ∧ t = 0) ∨ (k = 0 ∧ e = -1074 ∧ 1 ≤ t ∧ t < 4503599627370496) ∨ (k = 0 ∧ -1074 ≤ e ∧ e ≤ 971 ∧ 4503599627370496 ≤ t ∧ t ≤ 9007199254740991) := by
  unfold faultOf at h
  split at h
  · omega
  · split at h
    · omega
    · cases m <;> simp at * <;> omega

end Go.Proofs.YtffidkoejlebeaaGreatDoor


namespace Go.Proofs.YtffidkoejlebeaaGreatDoor
open Go.ChangeShapes Go.WideShapes Go.ChangeAt Go.RowKit
set_option maxRecDepth 100000
set_option linter.unusedVariables false
set_option linter.unusedSimpArgs false

def valOf (k : Int) (m : Bool) (e t : Int) : Int := if faultOf k m e t = 0 then joinOf k m e t else 0

theorem val_parts {x : Int} (h0 : -9223372036854775808 ≤ x) (h1 : x ≤ 9223372036854775807) : valOf (kd x) (mn x) (ex x) (mt x) = canon x := by
  unfold valOf; rw [if_pos (fault_parts h0 h1), join_parts h0 h1]

end Go.Proofs.YtffidkoejlebeaaGreatDoor
