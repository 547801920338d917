/- Plain: the levels of a map, from the leaves up to the root. -/
import Derived.Test.YtjjddjohckcmbaaDoorSlD
import Derived.Test.YtjjddjohckcmbaaDoorLvl
namespace Go.Proofs.YtjjddjohckcmbaaDoor
open Go.ChangeShapes Go.WideShapes Go.ChangeAt Go.RowKit
set_option linter.unusedVariables false
set_option linter.unusedSimpArgs false

/-- The first parts of a level. -/
def lvR (l : List Sl) (i n : Nat) : List Int := (List.range n).map fun j : Nat => mpN l i ((j : Int) * 2 ^ i)
theorem lvR_len (l : List Sl) (i n : Nat) : (lvR l i n).length = n := by simp [lvR]
theorem lvR_get (l : List Sl) (i n : Nat) {j : Nat} (h : j < n) : (lvR l i n)[j]? = some (mpN l i ((j : Int) * 2 ^ i)) := by simp [lvR, h]
theorem lvR_all (l : List Sl) (i n : Nat) : allS (lvR l i n) = true := by
  unfold allS
  rw [List.all_eq_true]
  intro x hx
  simp only [lvR, List.mem_map] at hx
  obtain ⟨j, _, rfl⟩ := hx
  have := mpN_bd l i ((j : Int) * 2 ^ i)
  simpa using this
theorem lvR_up (l : List Sl) (i n : Nat) : upL nS (lvR l i (2 * n)) = lvR l (i + 1) n := by
  rw [← range_jP, lvR_len, show (2 * n + 1) / 2 = n by omega]
  unfold lvR
  refine List.map_congr_left fun k hk => ?_
  have hk' := List.mem_range.1 hk
  have e0 := lvR_get l i (2 * n) (j := 2 * k) (by omega)
  have e1 := lvR_get l i (2 * n) (j := 2 * k + 1) (by omega)
  have el := lvR_len l i (2 * n)
  unfold lvR at e0 e1 el
  unfold jP jn pA pB pL
  have hd : decide (2 * k + 1 = 2 * n) = false := by simp; omega
  rw [el, e0, e1, hd, if_neg (by simp), if_pos (show 2 * k + 1 < 2 * n by omega), mpN]
  show nS (mpN l i (((2 * k : Nat) : Int) * 2 ^ i)) (mpN l i (((2 * k + 1 : Nat) : Int) * 2 ^ i)) = _
  have a1 : ((2 * k : Nat) : Int) * 2 ^ i = (k : Int) * 2 ^ (i + 1) := by
    rw [Int.pow_succ, show ((2 * k : Nat) : Int) = (k : Int) * 2 by omega, Int.mul_assoc, Int.mul_comm 2 (2 ^ i)]
  have a2 : ((2 * k + 1 : Nat) : Int) * 2 ^ i = (k : Int) * 2 ^ (i + 1) + 2 ^ i := by
    rw [← a1, show ((2 * k + 1 : Nat) : Int) = ((2 * k : Nat) : Int) + 1 by omega, Int.add_mul, Int.one_mul]
  rw [a1, a2]
/-- The other side of a key's way stands beside it on its level. -/
def sibN (q : Int) : Int := if q % 2 = 0 then q + 1 else q - 1
theorem lvR_sib (l : List Sl) (k : Int) (i n : Nat) (h0 : 0 ≤ k / 2 ^ i) (h1 : k / 2 ^ i < n) (hn : n % 2 = 0) : 0 ≤ sibN (k / 2 ^ i) ∧ sibN (k / 2 ^ i) < n ∧ (lvR l i n)[(sibN (k / 2 ^ i)).toNat]? = some (mpS l k i) := by
  have hb : 0 ≤ sibN (k / 2 ^ i) ∧ sibN (k / 2 ^ i) < n := by unfold sibN; split <;> omega
  refine ⟨hb.1, hb.2, ?_⟩
  rw [lvR_get l i n (by omega), Int.toNat_of_nonneg hb.1]
  unfold mpS sibN
  split
  · rw [Int.add_mul, Int.one_mul]
  · rw [Int.sub_mul, Int.one_mul]

end Go.Proofs.YtjjddjohckcmbaaDoor
