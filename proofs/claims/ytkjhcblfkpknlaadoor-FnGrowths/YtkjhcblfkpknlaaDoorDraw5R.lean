/- Contracts: the model's draw for GrowRoots. -/
import Derived.Test.YtkjhcblfkpknlaaDoorDraw5D
namespace Go.Proofs.YtkjhcblfkpknlaaDoor
open Go.ChangeShapes Go.WideShapes Go.ChangeAt Go.RowKit
set_option maxRecDepth 100000
set_option linter.unusedVariables false
set_option linter.unusedSimpArgs false

set_option maxHeartbeats 4000000 in
theorem drawGrowRoots_any (w : World) (a : Option Addr) (len cap : Nat) (zs : List Int) (h : Has w .u8 a len zs) (hl : len ≤ 1048576) :
    Calls Tryd.prog 45 #[.slice a len cap] w fun e w' => ∃ (s t f : Int) (a' : Option Addr) (c' : Nat) (ys : List Int), e = .returned (.tuple #[.int .i64 s, .int .i64 t, .int .i64 f, .slice a' ys.length c']) ∧ ys.length ≤ 30 ∧ ys.length ≤ c' ∧ c' ≤ maxLen ∧ Has w' .i64 a' ys.length ys ∧ Below w.heap.size w w' := by
  obtain ⟨i0, hi, hz0, hz1, hz2⟩ := info_parts info64
  go_enter Tryd.func45, Tryd.ntmps45
  go_wp2_with fail
  refine (source_any _ a len cap zs h hl).mono ?_
  rintro e u1 ⟨rfl, S1, hb1, hs1⟩
  obtain ⟨u0, hu0⟩ : ∃ u0, u0 = w.heap.size := ⟨_, rfl⟩
  have AS : ∀ {w2 : World}, Only u0 u1 w2 → Below w.heap.size w w2 := fun {w2} ho => after_source hb1 (by rw [← hu0]; exact ho)
  rw [← hu0] at S1 hs1 ⊢
  clear hu0
  go_wp2_with fail
  refine (l5Draw_any _ _ a len cap zs 0 S1 (by omega)).mono ?_
  rintro e u2 ⟨s, f, z, d, a6, c6, pp, t2, rfl, s1, s2, z1, fb, db, pl, O2, pall, S2, ht2, Y2⟩
  have z2 := Y2.size
  go_wp2_with fail
  refine (next_any _ _ _ a len cap zs _ 8 S2 (by omega) (by omega) (by omega)).mono ?_
  rintro e u7 ⟨q, rfl, q0, q1, S7, Y7⟩
  have O7 := own_only O2 Y7 hs1
  have N7 := Y2.trans Y7
  have z7 := Y7.size
  clear O2 S2 Y2 Y7
  by_cases d0 : q = 0
  · have d0b : (q == 0) = true := by simpa using d0
    clear d0
    have PH : Hid (∀ i, i < [0, s + 1, z].length → (u7.alloc (.cells #[.int .i64 0, .int .i64 (s + 1), .int .i64 z] 2)).cell? ⟨u7.heap.size, i, none⟩ = some (.int .i64 ([0, s + 1, z].getD i 0))) := cells_lit u7 [0, s + 1, z] 2 _ rfl
    go_wp2_with fail
    refine (pick_any _ _ _ a len cap zs _ (S7.alloc _) (by omega) u7.heap.size [0, s + 1, z] 3 rfl (by simp) (by omega) (by omega) (by omega) 3 PH.out).mono ?_
    rintro e u8 ⟨x, rfl, hx, S8, Y8⟩
    have O8 := own_only (O7.alloc (.cells #[.int .i64 0, .int .i64 (s + 1), .int .i64 z] 2)) Y8 hs1
    clear hx PH
    go_wp2
    exact bodyPost_ret (v := .tuple #[.int .i64 x, .int .i64 z, .int .i64 f, .slice a6 pp.length c6]) (by simp [results, Tryd.results45, go_sem]) rfl ⟨x, z, f, a6, c6, pp, rfl, by omega, (own_caps O8).1, (own_caps O8).2, has_of_own O8 (allS_wf pall), AS ((N7.alloc _).trans Y8)⟩
  · have d0b : (q == 0) = false := by simpa using d0
    clear d0
    by_cases d1 : q = 1
    · have d1b : (q == 1) = true := by simpa using d1
      clear d1
      have PH : Hid (∀ i, i < [0, 25, z + 1].length → (u7.alloc (.cells #[.int .i64 0, .int .i64 25, .int .i64 (z + 1)] 2)).cell? ⟨u7.heap.size, i, none⟩ = some (.int .i64 ([0, 25, z + 1].getD i 0))) := cells_lit u7 [0, 25, z + 1] 2 _ rfl
      go_wp2_with fail
      refine (pick_any _ _ _ a len cap zs _ (S7.alloc _) (by omega) u7.heap.size [0, 25, z + 1] 3 rfl (by simp) (by omega) (by omega) (by omega) 3 PH.out).mono ?_
      rintro e u8 ⟨x, rfl, hx, S8, Y8⟩
      have O8 := own_only (O7.alloc (.cells #[.int .i64 0, .int .i64 25, .int .i64 (z + 1)] 2)) Y8 hs1
      clear hx PH
      go_wp2
      exact bodyPost_ret (v := .tuple #[.int .i64 s, .int .i64 x, .int .i64 f, .slice a6 pp.length c6]) (by simp [results, Tryd.results45, go_sem]) rfl ⟨s, x, f, a6, c6, pp, rfl, by omega, (own_caps O8).1, (own_caps O8).2, has_of_own O8 (allS_wf pall), AS ((N7.alloc _).trans Y8)⟩
    · have d1b : (q == 1) = false := by simpa using d1
      clear d1
      by_cases d2 : q = 2
      · have d2b : (q == 2) = true := by simpa using d2
        clear d2
        have PH : Hid (∀ i, i < [5, -1].length → (u7.alloc (.cells #[.int .i64 5, .int .i64 (-1)] 2)).cell? ⟨u7.heap.size, i, none⟩ = some (.int .i64 ([5, -1].getD i 0))) := cells_lit u7 [5, -1] 2 _ rfl
        go_wp2_with fail
        refine (pick_any _ _ _ a len cap zs _ (S7.alloc _) (by omega) u7.heap.size [5, -1] 2 rfl (by simp) (by omega) (by omega) (by omega) 2 PH.out).mono ?_
        rintro e u8 ⟨x, rfl, hx, S8, Y8⟩
        have O8 := own_only (O7.alloc (.cells #[.int .i64 5, .int .i64 (-1)] 2)) Y8 hs1
        have hx' : -1 ≤ x ∧ x ≤ 5 := by simp at hx; omega
        have z8 := Y8.size
        simp at z8
        clear hx PH
        go_wp2_with (at_builtin; refine wpList_append_own _ rfl _ _ 24 rfl u1.heap.size 2 i0 (.int .i64 0) 1 8 Tryd.underlying24 hi hz0 hz1 hz2 rfl (by decide) _ _ _ rfl (O8.alloc _) ⟨u8.heap.size, 0, none⟩ 1 1 [.int .i64 x] rfl rfl (one_new _ _ _) (by intro u hu; simp at hu; subst hu; rfl) (by unfold maxLen; omega) (by omega) (by simp; omega) ?_; intro v' w9 hown3 hgrow _h4)
        have hbel : Below u1.heap.size (u8.alloc (.cells #[.int .i64 x] 2)) w9 := (Below.refl _ _).grown hgrow (by simp; omega) (fun k hk => (O8.lt k hk).1)
        have O9 : w9.ownsRow u1.heap.size 2 1 v' (pp ++ [x]).length ((pp ++ [x]).map (.int .i64)) := by simpa using hown3
        obtain ⟨a9, c9, rfl⟩ := own_row_shape O9
        exact bodyPost_ret (v := .tuple #[.int .i64 s, .int .i64 z, .int .i64 f, .slice a9 (pp ++ [x]).length c9]) (by simp [results, Tryd.results45, go_sem]) rfl ⟨s, z, f, a9, c9, pp ++ [x], rfl, by simp; omega, (own_caps O9).1, (own_caps O9).2, has_of_own O9 (by intro y hy; simp at hy; rcases hy with hy | rfl; exact allS_wf pall y hy; exact WalkArith.wf_i64 (by omega)), AS ((((N7.alloc _).trans Y8).alloc _).then_below (hbel.mono (by omega)))⟩
      · have d2b : (q == 2) = false := by simpa using d2
        clear d2
        by_cases d3 : q = 3
        · have d3b : (q == 3) = true := by simpa using d3
          clear d3
          have PH : Hid (∀ i, i < [-1, 5].length → (u7.alloc (.cells #[.int .i64 (-1), .int .i64 5] 2)).cell? ⟨u7.heap.size, i, none⟩ = some (.int .i64 ([-1, 5].getD i 0))) := cells_lit u7 [-1, 5] 2 _ rfl
          go_wp2_with fail
          refine (pick_any _ _ _ a len cap zs _ (S7.alloc _) (by omega) u7.heap.size [-1, 5] 2 rfl (by simp) (by omega) (by omega) (by omega) 2 PH.out).mono ?_
          rintro e u8 ⟨x, rfl, hx, S8, Y8⟩
          have O8 := own_only (O7.alloc (.cells #[.int .i64 (-1), .int .i64 5] 2)) Y8 hs1
          clear hx PH
          go_wp2
          exact bodyPost_ret (v := .tuple #[.int .i64 s, .int .i64 z, .int .i64 x, .slice a6 pp.length c6]) (by simp [results, Tryd.results45, go_sem]) rfl ⟨s, z, x, a6, c6, pp, rfl, by omega, (own_caps O8).1, (own_caps O8).2, has_of_own O8 (allS_wf pall), AS ((N7.alloc _).trans Y8)⟩
        · have d3b : (q == 3) = false := by simpa using d3
          clear d3
          go_wp2
          exact bodyPost_ret (v := .tuple #[.int .i64 s, .int .i64 z, .int .i64 f, .slice a6 pp.length c6]) (by simp [results, Tryd.results45, go_sem]) rfl ⟨s, z, f, a6, c6, pp, rfl, by omega, (own_caps O7).1, (own_caps O7).2, has_of_own O7 (allS_wf pall), AS N7⟩

end Go.Proofs.YtkjhcblfkpknlaaDoor
