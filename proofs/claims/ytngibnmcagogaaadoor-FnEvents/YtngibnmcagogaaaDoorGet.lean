/- Contracts of the model's chapter 3: eight bytes as a number. -/
import Derived.Test.YtngibnmcagogaaaDoorPut
import Derived.Laws.Bits64b
namespace Go.Proofs.YtngibnmcagogaaaDoor
open Go.ChangeShapes Go.WideShapes Go.ChangeAt Go.RowKit
set_option maxRecDepth 100000
set_option linter.unusedVariables false
set_option linter.unusedSimpArgs false

/-- The first j bytes as one number, the highest first. -/
def getN (zs : List Int) : Nat → Int
  | 0 => 0
  | j + 1 => getN zs j * 256 + zs.getD j 0
theorem or_step (g y : Int) (h0 : 0 ≤ y) (h1 : y ≤ 255) : bits .or .i64 (wrap64 (wrap64 g * 256)) y = wrap64 (g * 256 + y) := by
  have hA : ((BitVec.ofInt 64 (wrap64 (wrap64 g * 256))).toNat : Int) = (g * 256) % 18446744073709551616 := by
    rw [BitVec.toNat_ofInt]
    unfold wrap64
    omega
  have hB : ((BitVec.ofInt 64 y).toNat : Int) = y := by
    rw [BitVec.toNat_ofInt]
    omega
  show IntKind.i64.wrap ((BitVec.ofInt 64 (wrap64 (wrap64 g * 256)) ||| BitVec.ofInt 64 y).toNat : Int) = _
  rw [BitVec.toNat_or]
  generalize (BitVec.ofInt 64 (wrap64 (wrap64 g * 256))).toNat = A at hA
  generalize (BitVec.ofInt 64 y).toNat = B at hB
  have hd : A = 2 ^ 8 * (A / 256) := by omega
  have hor : A ||| B = A + B := by
    rw [hd, ← Nat.two_pow_add_eq_or_of_lt (by omega)]
  rw [hor]
  rw [IntKind.wrap_i64]
  unfold wrap64
  omega

set_option maxHeartbeats 2000000 in
theorem l3Get_any (b off len cap : Nat) (zs : List Int) (w : World) (hl : 8 ≤ len) (hlz : zs.length = len) (hwf : ∀ n ∈ zs, (Lit.int .u8 n).wf = true) (hcell : ∀ i, i < len → w.cell? ⟨b, off + i, none⟩ = some (.int .u8 (zs.getD i 0))) :
    Calls Tryd.prog 85 #[.slice (some ⟨b, off, none⟩) len cap] w fun r w' => r = .returned (.int .i64 (wrap64 (getN zs 8))) ∧ w' = w := by
  go_enter Tryd.func85, Tryd.ntmps85
  go_wp2
  go_loop [3, 4] (fun v i => ∃ (j : Nat), j ≤ 8 ∧ i = .int .i64 j ∧ v = .int .i64 (wrap64 (getN zs j))) (fun _ i => 8 - (intOf i).toNat)
  case atStart => exact ⟨0, by omega, rfl, by simp [getN, wrap64]⟩
  case round =>
    obtain ⟨j, hj8, rfl, rfl⟩ := hrel
    by_cases hj : j < 8
    · have hx := hcell j (by omega)
      have hj' : (j : Int) < (len : Int) := by omega
      have hj'' : (j : Int) < 8 := by omega
      have hyb : 0 ≤ zs.getD j 0 ∧ zs.getD j 0 ≤ 255 := by
        have := range_u8 hwf j
        simpa [List.getD] using this
      have HS : Hid (getN zs (j + 1) = getN zs j * 256 + zs.getD j 0) := rfl
      generalize zs.getD j 0 = y at hx hyb HS
      have hwy : wrap64 y = y := by unfold wrap64; omega
      have HO : Hid (_) := or_step (getN zs j) y hyb.1 hyb.2
      generalize getN zs j = g at HS HO
      clear hcell
      go_wp2
      go_round
      case rel => exact ⟨j + 1, by omega, by go_num, by rw [HS.out, ← HO.out]⟩
      case measure => simp [intOf]; omega
    · obtain rfl : j = 8 := by omega
      go_wp2
      go_ret
      exact ⟨rfl, rfl⟩

/-- The code and the value of the eight bytes at a place. -/
def getC (zs : List Int) (at' : Int) : Int := if at' < 0 ∨ (zs.length : Int) - 8 < at' then 3 else 0
def getV (zs : List Int) (at' : Int) : Int := if at' < 0 ∨ (zs.length : Int) - 8 < at' then 0 else wrap64 (getN (zs.drop at'.toNat) 8)

set_option maxHeartbeats 2000000 in
theorem specGetInt_any (a : Option Addr) (cap : Nat) (zs : List Int) (k : Int) (w : World) (h : Has w .u8 a zs.length zs) (hl : zs.length ≤ 2097152) (hcap : zs.length ≤ cap) (hcm : cap ≤ maxLen) :
    Calls Tryd.prog 45 #[.slice a zs.length cap, .int .i64 k] w fun r w' => r = .returned (.agg #[.int .i64 (getC zs k), .int .i64 (getV zs k)]) ∧ Below w.heap.size w w' := by
  have h' := h.alloc (.cells #[.int .i64 0, .int .i64 0] 37)
  unfold getC getV
  by_cases h0 : k < 0
  · rw [if_pos (.inl h0), if_pos (.inl h0)]
    go_enter Tryd.func45, Tryd.ntmps45
    go_wp2
    refine bodyPost_ret (v := .agg #[.int .i64 3, .int .i64 0]) (by simp [results, Tryd.results45, go_sem]) rfl ⟨rfl, ?_⟩
    repeat (first | exact Below.refl _ _ | refine Below.alloc ?_ (by (try simp) <;> omega) _ | refine Below.setCell ?_ (by (try simp) <;> omega) _)
  · by_cases h1 : (zs.length : Int) - 8 < k
    · rw [if_pos (.inr h1), if_pos (.inr h1)]
      go_enter Tryd.func45, Tryd.ntmps45
      go_wp2
      refine bodyPost_ret (v := .agg #[.int .i64 3, .int .i64 0]) (by simp [results, Tryd.results45, go_sem]) rfl ⟨rfl, ?_⟩
      repeat (first | exact Below.refl _ _ | refine Below.alloc ?_ (by (try simp) <;> omega) _ | refine Below.setCell ?_ (by (try simp) <;> omega) _)
    · rw [if_neg (by omega), if_neg (by omega)]
      obtain ⟨j, rfl⟩ := Int.eq_ofNat_of_zero_le (show 0 ≤ k by omega)
      obtain ⟨_, hwf, hc⟩ := h'
      rcases hc with hz | ⟨b, off, rfl, hb, hcell⟩
      · omega
      have hj8 : j + 8 ≤ zs.length := by omega
      have hne : ¬ j = cap := by omega
      have hjc : (j : Int) ≤ (cap : Int) := by omega
      have hjl : (j : Int) ≤ (zs.length : Int) := by omega
      go_enter Tryd.func45, Tryd.ntmps45
      go_wp2_with fail
      refine (l3Get_any b (off + j) (zs.length - j) (cap - j) (zs.drop j) _ (by omega) (by simp) (fun n hn => hwf n (List.mem_of_mem_drop hn)) ?hc).mono ?_
      case hc =>
        intro i hi
        have := hcell (j + i) (by omega)
        rw [show off + j + i = off + (j + i) by omega, this]
        simp [List.getD]
      rintro r u1 ⟨rfl, rfl⟩
      go_wp2
      refine bodyPost_ret (v := .agg #[.int .i64 0, .int .i64 (wrap64 (getN (zs.drop j) 8))]) (by simp [results, Tryd.results45, go_sem]) rfl ⟨rfl, ?_⟩
      repeat (first | exact Below.refl _ _ | refine Below.alloc ?_ (by (try simp) <;> omega) _ | refine Below.setCell ?_ (by (try simp) <;> omega) _)

end Go.Proofs.YtngibnmcagogaaaDoor
