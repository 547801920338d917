/- Contracts: the model's draws of chapter 5 for GrowthOf and StepsOf. -/
import Derived.Test.YtlmjppglaolccaaDoorDraw4P
import Derived.Test.YtlmjppglaolccaaDoorGrowC
namespace Go.Proofs.YtlmjppglaolccaaDoor
open Go.ChangeShapes Go.WideShapes Go.ChangeAt Go.RowKit
set_option linter.unusedVariables false
set_option linter.unusedSimpArgs false

set_option maxHeartbeats 1000000 in
theorem drawGrowthOf_any (w : World) (a : Option Addr) (len cap : Nat) (zs : List Int) (h : Has w .u8 a len zs) (hl : len ≤ 1048576) :
    Calls Tryd.prog 8 #[.slice a len cap] w fun e w' => ∃ (a' : Option Addr) (c' : Nat) (ys : List Int) (k : Int), e = .returned (.tuple #[.slice a' ys.length c', .int .i64 k]) ∧ ys.length ≤ 25 ∧ ys.length ≤ c' ∧ c' ≤ maxLen ∧ (0 ≤ k ∧ k ≤ 30) ∧ Has w' .i64 a' ys.length ys ∧ Below w.heap.size w w' := by
  go_enter Tryd.func8, Tryd.ntmps8
  go_wp2_with fail
  refine (source_any _ a len cap zs h hl).mono ?_
  rintro e u1 ⟨rfl, S1, hb1, hz1⟩
  go_wp2_with fail
  refine (l4Bent_any _ _ _ a len cap zs 0 S1 (by omega)).mono ?_
  rintro e u2 ⟨a2, c2, ys, t2, rfl, hyl, O2, yw, S2, ht2, Y2⟩
  have hyl' : (ys.length : Int) ≤ 25 := by omega
  go_wp2_with fail
  refine (next_wide _ _ _ a len cap zs _ _ S2 (by omega) (by omega) (by omega)).mono ?_
  rintro e u3 ⟨k, rfl, k0, k1, S3, Y3⟩
  have hc := own_caps O2
  have O3 := own_only O2 Y3 hz1
  go_wp2
  go_ret2
  exact ⟨a2, c2, ys, k, rfl, hyl, hc.1, hc.2, by omega, has_of_own O3 yw, after_source hb1 (Y2.trans Y3)⟩

set_option maxHeartbeats 1000000 in
theorem drawStepsOf_any (w : World) (a : Option Addr) (len cap : Nat) (zs : List Int) (h : Has w .u8 a len zs) (hl : len ≤ 1048576) :
    Calls Tryd.prog 13 #[.slice a len cap] w fun e w' => ∃ (s t : Int), e = .returned (.tuple #[.int .i64 s, .int .i64 t]) ∧ (0 ≤ s ∧ s ≤ 30) ∧ (0 ≤ t ∧ t ≤ 25) ∧ Below w.heap.size w w' := by
  go_enter Tryd.func13, Tryd.ntmps13
  go_wp2_with fail
  refine (source_any _ a len cap zs h hl).mono ?_
  rintro e u1 ⟨rfl, S1, hb1, hz1⟩
  go_wp2_with fail
  refine (next_wide _ _ _ a len cap zs _ _ S1 (by omega) (by omega) (by omega)).mono ?_
  rintro e u2 ⟨k, rfl, k0, k1, S2, Y2⟩
  have PH : Hid (∀ i, i < [k, 24, 25].length → (u2.alloc (.cells #[.int .i64 k, .int .i64 24, .int .i64 25] 2)).cell? ⟨u2.heap.size, i, none⟩ = some (.int .i64 ([k, 24, 25].getD i 0))) := cells_lit u2 [k, 24, 25] 2 _ rfl
  have z2 := Y2.size
  have hsl := S2.lt
  go_wp2_with fail
  refine (pick_any _ _ _ a len cap zs _ (S2.alloc _) (by omega) u2.heap.size [k, 24, 25] 3 rfl (by simp) (by omega) (by omega) (by omega) 3 PH.out).mono ?_
  rintro e u3 ⟨t, rfl, ht, S3, Y3⟩
  have ht' : 0 ≤ t ∧ t ≤ 25 := by
    simp at ht
    omega
  obtain ⟨t0, t1⟩ := ht'
  clear ht PH
  go_wp2_with fail
  refine (next_wide _ _ _ a len cap zs _ _ S3 (by omega) (by omega) (by omega)).mono ?_
  rintro e u4 ⟨s, rfl, s0, s1, S4, Y4⟩
  go_wp2
  go_ret2
  exact ⟨s, t, rfl, by omega, by omega, after_source hb1 (((Y2.alloc _).trans Y3).trans Y4)⟩

end Go.Proofs.YtlmjppglaolccaaDoor
