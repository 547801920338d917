/- Plain facts: a small whole number is the same again behind a float. -/
import Derived.Test.YtkjhcblfkpknlaaDoorFrame
namespace Go.Proofs.YtkjhcblfkpknlaaDoor
open Go.ChangeShapes Go.WideShapes Go.ChangeAt Go.RowKit
set_option linter.unusedVariables false
set_option linter.unusedSimpArgs false

theorem dbl_least : Ieee.double.leastPlace = -1074 := by decide
theorem dbl_sign : Ieee.double.signWeight = 9223372036854775808 := by decide
theorem dbl_bin : Ieee.double.binade = 4503599627370496 := by decide
theorem dbl_inf : Ieee.double.infRung = 9218868437227405312 := by decide
theorem dbl_frac : Ieee.double.fractionBits = 52 := rfl
theorem near_eq (f : Ieee.Format) (m : Nat) (h0 : m ≠ 0) (last : Int) (hl : max ((0 : Int) + m.log2 - f.fractionBits) f.leastPlace = last) (k : Nat) (hk : Ieee.Toward.cut .even false (m <<< ((0 : Int) - last).toNat) (last - 0).toNat = k) : f.nearest false m 0 = min ((last - f.leastPlace).toNat * f.binade + k) f.infRung := by
  subst hl hk
  unfold Ieee.Format.nearest
  rw [if_neg h0]
  rfl
theorem cut_none (x : Nat) : Ieee.Toward.cut .even false x 0 = x := by
  unfold Ieee.Toward.cut
  simp [Nat.mod_one]
theorem f64_word {n L : Nat} (hL : n.log2 = L) (h0 : n ≠ 0) (hl : L ≤ 15) : floatOfInt .f64 n = (1022 + L) * 4503599627370496 + n * 2 ^ (52 - L) := by
  have a2 : n < 2 ^ (L + 1) := (Nat.log2_lt h0).1 (by omega)
  have e7 : n * 2 ^ (52 - L) < 9007199254740992 := by
    have : 2 ^ (L + 1) * 2 ^ (52 - L) = 9007199254740992 := by rw [← Nat.pow_add, show L + 1 + (52 - L) = 53 by omega]
    rw [← this]
    exact Nat.mul_lt_mul_of_pos_right a2 (Nat.two_pow_pos _)
  clear a2
  have hn : decide ((n : Int) < 0) = false := by simp
  have e0 : floatOfInt .f64 n = Ieee.double.nearest false n 0 := by
    unfold floatOfInt FloatKind.nearest FloatKind.encode Ieee.Format.write
    simp only [hn, Int.natAbs_natCast, FloatKind.format]
  have e2 : ((0 : Int) - ((L : Int) - 52)).toNat = 52 - L := by omega
  have e3 : ((L : Int) - 52 - 0).toNat = 0 := by omega
  have e4 : ((L : Int) - 52 - (-1074)).toNat = 1022 + L := by omega
  rw [e0, near_eq Ieee.double n h0 ((L : Int) - 52) (by rw [hL, dbl_least, dbl_frac]; omega) (n * 2 ^ (52 - L)) (by rw [e2, e3, cut_none, Nat.shiftLeft_eq]), dbl_least, dbl_bin, dbl_inf, e4]
  generalize n * 2 ^ (52 - L) = M at *
  exact Nat.min_eq_left (by omega)
theorem read_eq (f : Ieee.Format) (x : Nat) (h1 : x < f.signWeight) (h2 : ¬ x < f.binade) (h3 : x < f.infRung) : f.read x = .number false (f.binade + x % f.binade) (f.leastPlace + (x / f.binade - 1 : Nat)) := by
  unfold Ieee.Format.read
  rw [Nat.mod_eq_of_lt h1, Nat.div_eq_of_lt h1, if_neg h2, if_pos h3]
  rfl
theorem toInt_eq (M n d : Nat) (p : Int) (h1 : p.toNat = 0) (h2 : (-p).toNat = d) (h3 : d ≤ M.log2 + 2) (h4 : M = n * 2 ^ d) : Ieee.Datum.toInt .zero (.number false M p) = some (n : Int) := by
  unfold Ieee.Datum.toInt Ieee.Datum.integral
  simp only [h1, h2, Ieee.signed, Ieee.Toward.cut, Bool.false_eq_true, if_false, Nat.shiftLeft_zero]
  rw [Nat.min_eq_left h3, Nat.shiftLeft_eq, Nat.one_mul, h4, Nat.mul_div_cancel _ (Nat.two_pow_pos _)]
  rfl
theorem i64_bds {n : Nat} (h : n ≤ 65520) : IntKind.i64.min ≤ (n : Int) ∧ (n : Int) ≤ IntKind.i64.max := by
  have q1 : IntKind.i64.min = -9223372036854775808 := by decide
  have q2 : IntKind.i64.max = 9223372036854775807 := by decide
  rw [q1, q2]; omega
theorem toIntVal_of {x n : Nat} {d : Ieee.Datum} (h : n ≤ 65520) (hr : FloatKind.f64.decode x = d) (t : Ieee.Datum.toInt .zero d = some (n : Int)) : floatToIntVal .f64 x .i64 = some (n : Int) := by
  unfold floatToIntVal
  rw [hr, t]
  simp only
  rw [if_pos (i64_bds h)]
theorem f64_zero : floatToIntVal .f64 (floatOfInt .f64 (0 : Nat)) .i64 = some ((0 : Nat) : Int) := by decide
theorem f64_decode (x L M : Nat) (hx : x = (1022 + L) * 4503599627370496 + M) (hl : L ≤ 15) (m1 : 4503599627370496 ≤ M) (m2 : M < 9007199254740992) : FloatKind.f64.decode x = .number false M ((L : Int) - 52) := by
  have h1 : x < Ieee.double.signWeight := by rw [dbl_sign]; omega
  have h2 : ¬ x < Ieee.double.binade := by rw [dbl_bin]; omega
  have h3 : x < Ieee.double.infRung := by rw [dbl_inf]; omega
  have r3 : 4503599627370496 + x % 4503599627370496 = M := by omega
  have r4 : x / 4503599627370496 - 1 = 1022 + L := by omega
  have r5 : (-1074 : Int) + ((1022 + L : Nat) : Int) = (L : Int) - 52 := by omega
  unfold FloatKind.decode FloatKind.format
  simp only
  rw [read_eq Ieee.double x h1 h2 h3, dbl_bin, dbl_least, r3, r4, r5]
theorem f64_lo {n L : Nat} (a1 : 2 ^ L ≤ n) (hl : L ≤ 15) : 4503599627370496 ≤ n * 2 ^ (52 - L) := by
  have : 2 ^ L * 2 ^ (52 - L) = 4503599627370496 := by rw [← Nat.pow_add, show L + (52 - L) = 52 by omega]
  rw [← this]
  exact Nat.mul_le_mul_right _ a1
theorem f64_hi {n L : Nat} (a2 : n < 2 ^ (L + 1)) (hl : L ≤ 15) : n * 2 ^ (52 - L) < 9007199254740992 := by
  have : 2 ^ (L + 1) * 2 ^ (52 - L) = 9007199254740992 := by rw [← Nat.pow_add, show L + 1 + (52 - L) = 53 by omega]
  rw [← this]
  exact Nat.mul_lt_mul_of_pos_right a2 (Nat.two_pow_pos _)
/-- A sum that was made a float is the same again. -/
theorem f64_back (n : Nat) (h : n ≤ 65520) : floatToIntVal .f64 (floatOfInt .f64 n) .i64 = some (n : Int) := by
  by_cases h0 : n = 0
  · rw [h0]; exact f64_zero
  · obtain ⟨L, hL⟩ : ∃ L, n.log2 = L := ⟨_, rfl⟩
    have hl : L ≤ 15 := by
      have := (Nat.log2_lt (k := 16) h0).2 (by omega)
      omega
    have m1 := f64_lo (n := n) ((Nat.le_log2 h0).1 (by omega)) hl
    have m2 := f64_hi (n := n) ((Nat.log2_lt h0).1 (by omega)) hl
    refine toIntVal_of h (f64_decode _ L _ (f64_word hL h0 hl) hl m1 m2) (toInt_eq _ n (52 - L) _ (by omega) (by omega) ?_ rfl)
    have hM0 : n * 2 ^ (52 - L) ≠ 0 := by omega
    have lM : 52 ≤ (n * 2 ^ (52 - L)).log2 := (Nat.le_log2 hM0).2 m1
    omega
/-- The bits of a sum's float. -/
theorem f64_sum {a : Int} (h0 : 0 ≤ a) (h1 : a ≤ 65520) : floatToIntVal .f64 (floatOfInt .f64 a) .i64 = some a := by
  obtain ⟨n, rfl⟩ := Int.eq_ofNat_of_zero_le h0
  exact f64_back n (by omega)

end Go.Proofs.YtkjhcblfkpknlaaDoor
