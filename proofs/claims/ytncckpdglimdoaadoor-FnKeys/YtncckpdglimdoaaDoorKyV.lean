/- Contracts: the model's simple draws of chapter 8. -/
import Derived.Test.YtncckpdglimdoaaDoorSource
namespace Go.Proofs.YtncckpdglimdoaaDoor
open Go.ChangeShapes Go.WideShapes Go.ChangeAt Go.RowKit
set_option maxRecDepth 100000
set_option linter.unusedVariables false
set_option linter.unusedSimpArgs false

set_option maxHeartbeats 2000000 in
theorem drawSignSum_any (w : World) (a : Option Addr) (len cap : Nat) (zs : List Int) (h : Has w .u8 a len zs) (hl : len ≤ 1048576) :
    Calls Tryd.prog 13 #[.slice a len cap] w fun e w' => ∃ (x0 x1 x2 : Int), e = .returned (.tuple #[.int .i64 x0, .int .i64 x1, .int .i64 x2]) ∧ Below w.heap.size w w' := by
  go_enter Tryd.func13, Tryd.ntmps13
  go_wp2_with fail
  refine (source_any _ a len cap zs h hl).mono ?_
  rintro e u1 ⟨rfl, S1, hb1, hs1⟩
  obtain ⟨u0, hu0⟩ : ∃ u0, u0 = w.heap.size := ⟨_, rfl⟩
  have AS : ∀ {w2 : World}, Only u0 u1 w2 → Below w.heap.size w w2 := fun {w2} ho => after_source hb1 (by rw [← hu0]; exact ho)
  rw [← hu0] at S1 hs1 ⊢
  clear hu0
  have PH : Hid (∀ i, i < ([0, 7, 999, 1000] : List Int).length → (u1.alloc (.cells #[.int .i64 0, .int .i64 7, .int .i64 999, .int .i64 1000] 2)).cell? ⟨u1.heap.size, i, none⟩ = some (.int .i64 (([0, 7, 999, 1000] : List Int).getD i 0))) := cells_lit u1 [0, 7, 999, 1000] 2 _ rfl
  go_wp2_with fail
  refine (pick_any _ _ _ a len cap zs 0 (S1.alloc _) (by omega) u1.heap.size [0, 7, 999, 1000] 4 rfl (by simp) (by omega) (by omega) (by omega) 4 PH.out).mono ?_
  rintro e u2 ⟨x0, rfl, hp2, S2, Y2⟩
  have z2 := Y2.size
  simp at z2
  have N2 : Only u0 u1 u2 := ((Only.refl _ u1).alloc (.cells #[.int .i64 0, .int .i64 7, .int .i64 999, .int .i64 1000] 2)).trans Y2
  clear PH Y2 S1
  have PH : Hid (∀ i, i < ([0, 7, 8] : List Int).length → (u2.alloc (.cells #[.int .i64 0, .int .i64 7, .int .i64 8] 2)).cell? ⟨u2.heap.size, i, none⟩ = some (.int .i64 (([0, 7, 8] : List Int).getD i 0))) := cells_lit u2 [0, 7, 8] 2 _ rfl
  go_wp2_with fail
  refine (pick_any _ _ _ a len cap zs _ (S2.alloc _) (by omega) u2.heap.size [0, 7, 8] 3 rfl (by simp) (by omega) (by omega) (by omega) 3 PH.out).mono ?_
  rintro e u3 ⟨x1, rfl, hp3, S3, Y3⟩
  have z3 := Y3.size
  simp at z3
  have N3 : Only u0 u1 u3 := (N2).trans (((Only.refl _ u2).alloc (.cells #[.int .i64 0, .int .i64 7, .int .i64 8] 2)).trans Y3)
  clear PH Y3 S2
  go_wp2_with fail
  refine (next_wide _ _ _ a len cap zs _ 65521 S3 (by omega) (by omega) (by omega)).mono ?_
  rintro e u4 ⟨k0, rfl, k1, k2, S4, Y4⟩
  have z4 := Y4.size
  have N4 : Only u0 u1 u4 := N3.trans Y4
  clear Y4 S3
  have PH : Hid (∀ i, i < ([k0, 65520, 65521] : List Int).length → (u4.alloc (.cells #[.int .i64 k0, .int .i64 65520, .int .i64 65521] 2)).cell? ⟨u4.heap.size, i, none⟩ = some (.int .i64 (([k0, 65520, 65521] : List Int).getD i 0))) := cells_lit u4 [k0, 65520, 65521] 2 _ rfl
  go_wp2_with fail
  refine (pick_any _ _ _ a len cap zs _ (S4.alloc _) (by omega) u4.heap.size [k0, 65520, 65521] 3 rfl (by simp) (by omega) (by omega) (by omega) 3 PH.out).mono ?_
  rintro e u5 ⟨x2, rfl, hp5, S5, Y5⟩
  have z5 := Y5.size
  simp at z5
  have N5 : Only u0 u1 u5 := (N4).trans (((Only.refl _ u4).alloc (.cells #[.int .i64 k0, .int .i64 65520, .int .i64 65521] 2)).trans Y5)
  clear PH Y5 S4
  go_wp2
  exact bodyPost_ret (v := .tuple #[.int .i64 x0, .int .i64 x1, .int .i64 x2]) (by simp [results, Tryd.results13, go_sem]) rfl ⟨x0, x1, x2, rfl, AS N5⟩

set_option maxHeartbeats 2000000 in
theorem drawSecretOf_any (w : World) (a : Option Addr) (len cap : Nat) (zs : List Int) (h : Has w .u8 a len zs) (hl : len ≤ 1048576) :
    Calls Tryd.prog 15 #[.slice a len cap] w fun e w' => ∃ (x0 x1 x2 x3 : Int), e = .returned (.tuple #[.int .i64 x0, .int .i64 x1, .int .i64 x2, .int .i64 x3]) ∧ Below w.heap.size w w' := by
  go_enter Tryd.func15, Tryd.ntmps15
  go_wp2_with fail
  refine (source_any _ a len cap zs h hl).mono ?_
  rintro e u1 ⟨rfl, S1, hb1, hs1⟩
  obtain ⟨u0, hu0⟩ : ∃ u0, u0 = w.heap.size := ⟨_, rfl⟩
  have AS : ∀ {w2 : World}, Only u0 u1 w2 → Below w.heap.size w w2 := fun {w2} ho => after_source hb1 (by rw [← hu0]; exact ho)
  rw [← hu0] at S1 hs1 ⊢
  clear hu0
  have PH : Hid (∀ i, i < ([0, 7, 999, 1000] : List Int).length → (u1.alloc (.cells #[.int .i64 0, .int .i64 7, .int .i64 999, .int .i64 1000] 2)).cell? ⟨u1.heap.size, i, none⟩ = some (.int .i64 (([0, 7, 999, 1000] : List Int).getD i 0))) := cells_lit u1 [0, 7, 999, 1000] 2 _ rfl
  go_wp2_with fail
  refine (pick_any _ _ _ a len cap zs 0 (S1.alloc _) (by omega) u1.heap.size [0, 7, 999, 1000] 4 rfl (by simp) (by omega) (by omega) (by omega) 4 PH.out).mono ?_
  rintro e u2 ⟨x0, rfl, hp2, S2, Y2⟩
  have z2 := Y2.size
  simp at z2
  have N2 : Only u0 u1 u2 := ((Only.refl _ u1).alloc (.cells #[.int .i64 0, .int .i64 7, .int .i64 999, .int .i64 1000] 2)).trans Y2
  clear PH Y2 S1
  have PH : Hid (∀ i, i < ([0, 7, 8, 3] : List Int).length → (u2.alloc (.cells #[.int .i64 0, .int .i64 7, .int .i64 8, .int .i64 3] 2)).cell? ⟨u2.heap.size, i, none⟩ = some (.int .i64 (([0, 7, 8, 3] : List Int).getD i 0))) := cells_lit u2 [0, 7, 8, 3] 2 _ rfl
  go_wp2_with fail
  refine (pick_any _ _ _ a len cap zs _ (S2.alloc _) (by omega) u2.heap.size [0, 7, 8, 3] 4 rfl (by simp) (by omega) (by omega) (by omega) 4 PH.out).mono ?_
  rintro e u3 ⟨x1, rfl, hp3, S3, Y3⟩
  have z3 := Y3.size
  simp at z3
  have N3 : Only u0 u1 u3 := (N2).trans (((Only.refl _ u2).alloc (.cells #[.int .i64 0, .int .i64 7, .int .i64 8, .int .i64 3] 2)).trans Y3)
  clear PH Y3 S2
  have PH : Hid (∀ i, i < ([0, 15, 16] : List Int).length → (u3.alloc (.cells #[.int .i64 0, .int .i64 15, .int .i64 16] 2)).cell? ⟨u3.heap.size, i, none⟩ = some (.int .i64 (([0, 15, 16] : List Int).getD i 0))) := cells_lit u3 [0, 15, 16] 2 _ rfl
  go_wp2_with fail
  refine (pick_any _ _ _ a len cap zs _ (S3.alloc _) (by omega) u3.heap.size [0, 15, 16] 3 rfl (by simp) (by omega) (by omega) (by omega) 3 PH.out).mono ?_
  rintro e u4 ⟨x2, rfl, hp4, S4, Y4⟩
  have z4 := Y4.size
  simp at z4
  have N4 : Only u0 u1 u4 := (N3).trans (((Only.refl _ u3).alloc (.cells #[.int .i64 0, .int .i64 15, .int .i64 16] 2)).trans Y4)
  clear PH Y4 S3
  have PH : Hid (∀ i, i < ([0, 1, 2] : List Int).length → (u4.alloc (.cells #[.int .i64 0, .int .i64 1, .int .i64 2] 2)).cell? ⟨u4.heap.size, i, none⟩ = some (.int .i64 (([0, 1, 2] : List Int).getD i 0))) := cells_lit u4 [0, 1, 2] 2 _ rfl
  go_wp2_with fail
  refine (pick_any _ _ _ a len cap zs _ (S4.alloc _) (by omega) u4.heap.size [0, 1, 2] 3 rfl (by simp) (by omega) (by omega) (by omega) 3 PH.out).mono ?_
  rintro e u5 ⟨x3, rfl, hp5, S5, Y5⟩
  have z5 := Y5.size
  simp at z5
  have N5 : Only u0 u1 u5 := (N4).trans (((Only.refl _ u4).alloc (.cells #[.int .i64 0, .int .i64 1, .int .i64 2] 2)).trans Y5)
  clear PH Y5 S4
  go_wp2
  exact bodyPost_ret (v := .tuple #[.int .i64 x0, .int .i64 x1, .int .i64 x2, .int .i64 x3]) (by simp [results, Tryd.results15, go_sem]) rfl ⟨x0, x1, x2, x3, rfl, AS N5⟩

set_option maxHeartbeats 2000000 in
theorem drawPublicOf_any (w : World) (a : Option Addr) (len cap : Nat) (zs : List Int) (h : Has w .u8 a len zs) (hl : len ≤ 1048576) :
    Calls Tryd.prog 17 #[.slice a len cap] w fun e w' => ∃ (x0 x1 : Int), e = .returned (.tuple #[.int .i64 x0, .int .i64 x1]) ∧ Below w.heap.size w w' := by
  go_enter Tryd.func17, Tryd.ntmps17
  go_wp2_with fail
  refine (source_any _ a len cap zs h hl).mono ?_
  rintro e u1 ⟨rfl, S1, hb1, hs1⟩
  obtain ⟨u0, hu0⟩ : ∃ u0, u0 = w.heap.size := ⟨_, rfl⟩
  have AS : ∀ {w2 : World}, Only u0 u1 w2 → Below w.heap.size w w2 := fun {w2} ho => after_source hb1 (by rw [← hu0]; exact ho)
  rw [← hu0] at S1 hs1 ⊢
  clear hu0
  have PH : Hid (∀ i, i < ([0, 7, 999, 1000] : List Int).length → (u1.alloc (.cells #[.int .i64 0, .int .i64 7, .int .i64 999, .int .i64 1000] 2)).cell? ⟨u1.heap.size, i, none⟩ = some (.int .i64 (([0, 7, 999, 1000] : List Int).getD i 0))) := cells_lit u1 [0, 7, 999, 1000] 2 _ rfl
  go_wp2_with fail
  refine (pick_any _ _ _ a len cap zs 0 (S1.alloc _) (by omega) u1.heap.size [0, 7, 999, 1000] 4 rfl (by simp) (by omega) (by omega) (by omega) 4 PH.out).mono ?_
  rintro e u2 ⟨x0, rfl, hp2, S2, Y2⟩
  have z2 := Y2.size
  simp at z2
  have N2 : Only u0 u1 u2 := ((Only.refl _ u1).alloc (.cells #[.int .i64 0, .int .i64 7, .int .i64 999, .int .i64 1000] 2)).trans Y2
  clear PH Y2 S1
  have PH : Hid (∀ i, i < ([0, 7, 8, -1] : List Int).length → (u2.alloc (.cells #[.int .i64 0, .int .i64 7, .int .i64 8, .int .i64 (-1)] 2)).cell? ⟨u2.heap.size, i, none⟩ = some (.int .i64 (([0, 7, 8, -1] : List Int).getD i 0))) := cells_lit u2 [0, 7, 8, -1] 2 _ rfl
  go_wp2_with fail
  refine (pick_any _ _ _ a len cap zs _ (S2.alloc _) (by omega) u2.heap.size [0, 7, 8, -1] 4 rfl (by simp) (by omega) (by omega) (by omega) 4 PH.out).mono ?_
  rintro e u3 ⟨x1, rfl, hp3, S3, Y3⟩
  have z3 := Y3.size
  simp at z3
  have N3 : Only u0 u1 u3 := (N2).trans (((Only.refl _ u2).alloc (.cells #[.int .i64 0, .int .i64 7, .int .i64 8, .int .i64 (-1)] 2)).trans Y3)
  clear PH Y3 S2
  go_wp2
  exact bodyPost_ret (v := .tuple #[.int .i64 x0, .int .i64 x1]) (by simp [results, Tryd.results17, go_sem]) rfl ⟨x0, x1, rfl, AS N3⟩

set_option maxHeartbeats 2000000 in
theorem drawKeysRoot_any (w : World) (a : Option Addr) (len cap : Nat) (zs : List Int) (h : Has w .u8 a len zs) (hl : len ≤ 1048576) :
    Calls Tryd.prog 33 #[.slice a len cap] w fun e w' => ∃ (x0 x1 : Int), e = .returned (.tuple #[.int .i64 x0, .int .i64 x1]) ∧ Below w.heap.size w w' := by
  go_enter Tryd.func33, Tryd.ntmps33
  go_wp2_with fail
  refine (source_any _ a len cap zs h hl).mono ?_
  rintro e u1 ⟨rfl, S1, hb1, hs1⟩
  obtain ⟨u0, hu0⟩ : ∃ u0, u0 = w.heap.size := ⟨_, rfl⟩
  have AS : ∀ {w2 : World}, Only u0 u1 w2 → Below w.heap.size w w2 := fun {w2} ho => after_source hb1 (by rw [← hu0]; exact ho)
  rw [← hu0] at S1 hs1 ⊢
  clear hu0
  have PH : Hid (∀ i, i < ([0, 7, 999, 1000] : List Int).length → (u1.alloc (.cells #[.int .i64 0, .int .i64 7, .int .i64 999, .int .i64 1000] 2)).cell? ⟨u1.heap.size, i, none⟩ = some (.int .i64 (([0, 7, 999, 1000] : List Int).getD i 0))) := cells_lit u1 [0, 7, 999, 1000] 2 _ rfl
  go_wp2_with fail
  refine (pick_any _ _ _ a len cap zs 0 (S1.alloc _) (by omega) u1.heap.size [0, 7, 999, 1000] 4 rfl (by simp) (by omega) (by omega) (by omega) 4 PH.out).mono ?_
  rintro e u2 ⟨x0, rfl, hp2, S2, Y2⟩
  have z2 := Y2.size
  simp at z2
  have N2 : Only u0 u1 u2 := ((Only.refl _ u1).alloc (.cells #[.int .i64 0, .int .i64 7, .int .i64 999, .int .i64 1000] 2)).trans Y2
  clear PH Y2 S1
  have PH : Hid (∀ i, i < ([1, 8, 9, 5, 0] : List Int).length → (u2.alloc (.cells #[.int .i64 1, .int .i64 8, .int .i64 9, .int .i64 5, .int .i64 0] 2)).cell? ⟨u2.heap.size, i, none⟩ = some (.int .i64 (([1, 8, 9, 5, 0] : List Int).getD i 0))) := cells_lit u2 [1, 8, 9, 5, 0] 2 _ rfl
  go_wp2_with fail
  refine (pick_any _ _ _ a len cap zs _ (S2.alloc _) (by omega) u2.heap.size [1, 8, 9, 5, 0] 5 rfl (by simp) (by omega) (by omega) (by omega) 5 PH.out).mono ?_
  rintro e u3 ⟨x1, rfl, hp3, S3, Y3⟩
  have z3 := Y3.size
  simp at z3
  have N3 : Only u0 u1 u3 := (N2).trans (((Only.refl _ u2).alloc (.cells #[.int .i64 1, .int .i64 8, .int .i64 9, .int .i64 5, .int .i64 0] 2)).trans Y3)
  clear PH Y3 S2
  go_wp2
  exact bodyPost_ret (v := .tuple #[.int .i64 x0, .int .i64 x1]) (by simp [results, Tryd.results33, go_sem]) rfl ⟨x0, x1, rfl, AS N3⟩

end Go.Proofs.YtncckpdglimdoaaDoor
