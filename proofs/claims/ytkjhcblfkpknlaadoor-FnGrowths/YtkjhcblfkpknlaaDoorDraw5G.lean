/- Contracts: the model's draw for AcceptGrowth. -/
import Derived.Test.YtkjhcblfkpknlaaDoorDraw5D
namespace Go.Proofs.YtkjhcblfkpknlaaDoor
open Go.ChangeShapes Go.WideShapes Go.ChangeAt Go.RowKit
set_option maxRecDepth 100000
set_option linter.unusedVariables false
set_option linter.unusedSimpArgs false

set_option maxHeartbeats 4000000 in
theorem drawAcceptGrowth_any (w : World) (a : Option Addr) (len cap : Nat) (zs : List Int) (h : Has w .u8 a len zs) (hl : len ≤ 1048576) :
    Calls Tryd.prog 47 #[.slice a len cap] w fun e w' => ∃ (s f t d : Int) (a' : Option Addr) (c' : Nat) (ys : List Int), e = .returned (.tuple #[.int .i64 s, .int .i64 f, .int .i64 t, .int .i64 d, .slice a' ys.length c']) ∧ ys.length ≤ 30 ∧ ys.length ≤ c' ∧ c' ≤ maxLen ∧ Has w' .i64 a' ys.length ys ∧ Below w.heap.size w w' := by
  go_enter Tryd.func47, Tryd.ntmps47
  go_wp2_with fail
  refine (source_any _ a len cap zs h hl).mono ?_
  rintro e u1 ⟨rfl, S1, hb1, hs1⟩
  obtain ⟨u0, hu0⟩ : ∃ u0, u0 = w.heap.size := ⟨_, rfl⟩
  have AS : ∀ {w2 : World}, Only u0 u1 w2 → Below w.heap.size w w2 := fun {w2} ho => after_source hb1 (by rw [← hu0]; exact ho)
  rw [← hu0] at S1 hs1 ⊢
  clear hu0
  go_wp2_with fail
  refine (l5Draw_any _ _ a len cap zs 0 S1 (by omega)).mono ?_
  rintro e u2 ⟨s, f, z, d, a6, c6, pp, t2, rfl, s1, s2, z1, fb, db, pl, O2, pall, S2, ht2, Y2⟩
  have z2 := Y2.size
  go_wp2_with fail
  refine (next_any _ _ _ a len cap zs _ 8 S2 (by omega) (by omega) (by omega)).mono ?_
  rintro e u7 ⟨q, rfl, q0, q1, S7, Y7⟩
  have O7 := own_only O2 Y7 hs1
  have N7 := Y2.trans Y7
  have z7 := Y7.size
  clear O2 S2 Y2 Y7
  by_cases d0 : q = 0
  · have d0b : (q == 0) = true := by simpa using d0
    clear d0
    go_wp2_with fail
    refine (next_wide _ _ _ a len cap zs _ 65521 S7 (by omega) (by omega) (by omega)).mono ?_
    rintro e u8 ⟨x, rfl, x0, x1, S8, Y8⟩
    have O8 := own_only O7 Y8 hs1
    go_wp2
    exact bodyPost_ret (v := .tuple #[.int .i64 s, .int .i64 f, .int .i64 z, .int .i64 x, .slice a6 pp.length c6]) (by simp [results, Tryd.results47, go_sem]) rfl ⟨s, f, z, x, a6, c6, pp, rfl, by omega, (own_caps O8).1, (own_caps O8).2, has_of_own O8 (allS_wf pall), AS (N7.trans Y8)⟩
  · have d0b : (q == 0) = false := by simpa using d0
    clear d0
    by_cases d1 : q = 1
    · have d1b : (q == 1) = true := by simpa using d1
      clear d1
      go_wp2_with fail
      refine (next_wide _ _ _ a len cap zs _ 65521 S7 (by omega) (by omega) (by omega)).mono ?_
      rintro e u8 ⟨x, rfl, x0, x1, S8, Y8⟩
      have O8 := own_only O7 Y8 hs1
      go_wp2
      exact bodyPost_ret (v := .tuple #[.int .i64 s, .int .i64 x, .int .i64 z, .int .i64 d, .slice a6 pp.length c6]) (by simp [results, Tryd.results47, go_sem]) rfl ⟨s, x, z, d, a6, c6, pp, rfl, by omega, (own_caps O8).1, (own_caps O8).2, has_of_own O8 (allS_wf pall), AS (N7.trans Y8)⟩
    · have d1b : (q == 1) = false := by simpa using d1
      clear d1
      by_cases d2 : q = 2
      · have d2b : (q == 2) = true := by simpa using d2
        clear d2
        by_cases hp : pp.length = 0
        · have hp' : ¬ (0 : Int) < (pp.length : Int) := by omega
          clear hp
          go_wp2
          exact bodyPost_ret (v := .tuple #[.int .i64 s, .int .i64 f, .int .i64 z, .int .i64 d, .slice a6 pp.length c6]) (by simp [results, Tryd.results47, go_sem]) rfl ⟨s, f, z, d, a6, c6, pp, rfl, by omega, (own_caps O7).1, (own_caps O7).2, has_of_own O7 (allS_wf pall), AS N7⟩
        · have hp' : (0 : Int) < (pp.length : Int) := by omega
          obtain ⟨m, hm⟩ : ∃ m, pp.length = m + 1 := ⟨pp.length - 1, by omega⟩
          obtain ⟨g, rfl⟩ : ∃ g, a6 = some ⟨g, 0, none⟩ := by
            have hO := O7
            rw [hm] at hO
            obtain ⟨g, c, e⟩ := ownsRow_succ hO
            simp at e
            exact ⟨g, e.1⟩
          have hg := (O7.lt g rfl).1
          have HM : Hid (pp.length = m + 1) := hm
          clear hm hp
          go_wp2_with fail
          refine (next_wide _ _ _ a len cap zs _ 65521 S7 (by omega) (by omega) (by omega)).mono ?_
          rintro e u8 ⟨x, rfl, x0, x1, S8, Y8⟩
          have O8 := own_only O7 Y8 hs1
          have cc := O8.cellAt 0 (by omega)
          have ff := O8.frozenAt 0
          have c0 : u8.cell? ⟨g, 0, none⟩ = some (.int .i64 (pp[0]'(by omega))) := by rw [cc]; simp [List.getElem?_map, HM.out]
          have O9 := (O8.stored 0 (.int .i64 x)).1
          have e9 : ((pp.map (Value.int .i64)).set 0 (.int .i64 x)) = (pp.set 0 x).map (.int .i64) := by rw [List.map_set]
          have l9 : (pp.set 0 x).length = pp.length := by simp
          rw [e9] at O9
          generalize pp[0]'(by omega) = y0 at c0
          have B9 : Below u1.heap.size u8 (u8.setCell ⟨g, 0, none⟩ (.int .i64 x)) := (Below.refl _ _).setCell (p := ⟨g, 0, none⟩) hg _
          have P9 : allS (pp.set 0 x) = true := by
            unfold allS at pall ⊢
            rw [List.all_eq_true] at pall ⊢
            intro y hy
            rcases List.mem_or_eq_of_mem_set hy with h | h
            · exact pall y h
            · subst h; simp; omega
          have O10 : (u8.setCell ⟨g, 0, none⟩ (.int .i64 x)).ownsRow u1.heap.size 2 1 (.slice (some ⟨g, 0, none⟩) (pp.set 0 x).length c6) (pp.set 0 x).length ((pp.set 0 x).map (.int .i64)) := by rw [l9]; exact O9
          clear cc O9 e9
          go_wp2
          exact bodyPost_ret (v := .tuple #[.int .i64 s, .int .i64 f, .int .i64 z, .int .i64 d, .slice (some ⟨g, 0, none⟩) pp.length c6]) (by simp [results, Tryd.results47, go_sem]) rfl ⟨s, f, z, d, some ⟨g, 0, none⟩, c6, pp.set 0 x, by rw [l9], by omega, (own_caps O10).1, (own_caps O10).2, has_of_own O10 (allS_wf P9), AS ((N7.trans Y8).then_below B9)⟩
      · have d2b : (q == 2) = false := by simpa using d2
        clear d2
        go_wp2
        exact bodyPost_ret (v := .tuple #[.int .i64 s, .int .i64 f, .int .i64 z, .int .i64 d, .slice a6 pp.length c6]) (by simp [results, Tryd.results47, go_sem]) rfl ⟨s, f, z, d, a6, c6, pp, rfl, by omega, (own_caps O7).1, (own_caps O7).2, has_of_own O7 (allS_wf pall), AS N7⟩

end Go.Proofs.YtkjhcblfkpknlaaDoor
