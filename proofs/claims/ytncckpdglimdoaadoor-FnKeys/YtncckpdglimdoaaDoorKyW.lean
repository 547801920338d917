/- Contracts: the model's draw of a list of public numbers. -/
import Derived.Test.YtncckpdglimdoaaDoorKyV
import Derived.Test.YtncckpdglimdoaaDoorKyS
import Derived.Test.YtncckpdglimdoaaDoorRoot4S
namespace Go.Proofs.YtncckpdglimdoaaDoor
open Go.ChangeShapes Go.WideShapes Go.ChangeAt Go.RowKit
set_option maxRecDepth 100000
set_option linter.unusedVariables false
set_option linter.unusedSimpArgs false

theorem own_caps8 {w : World} {base e n c : Nat} {a : Option Addr} {xs : List Value} (h : w.ownsRow base e 1 (.slice a n c) n xs) : n ≤ c ∧ c ≤ maxLen := by
  rcases h.2 with ⟨e1, e2⟩ | ⟨_, _, _, e1, _, _, h1, h2, _⟩
  · simp at e1; rw [e1.2.2, e2]; exact ⟨Nat.le_refl _, by unfold maxLen; omega⟩
  · simp at e1; rw [e1.2]; exact ⟨h1, h2⟩
theorem ownN_at {w : World} {base c : Nat} {a : Option Addr} {l : List Int} (h : OwnN w base (.slice a l.length c) l) (hp : 0 < l.length) : ∃ g, a = some ⟨g, 0, none⟩ ∧ base ≤ g ∧ g < w.heap.size := by
  obtain ⟨m, hm⟩ : ∃ m, l.length = m + 1 := ⟨l.length - 1, by omega⟩
  have hO := h
  unfold OwnN at hO
  rw [hm] at hO
  obtain ⟨g, c', e⟩ := ownsRow_succ hO
  simp at e
  obtain ⟨rfl, _⟩ := e
  exact ⟨g, rfl, (h.lt g rfl).1, (h.lt g rfl).2⟩
theorem ownN_set {w : World} {base c g : Nat} {l : List Int} (h : OwnN w base (.slice (some ⟨g, 0, none⟩) l.length c) l) (k : Nat) (x : Int) : OwnN (w.setCell ⟨g, k, none⟩ (.int .i64 x)) base (.slice (some ⟨g, 0, none⟩) (l.set k x).length c) (l.set k x) := by
  have O9 := (h.stored k (.int .i64 x)).1
  have e9 : ((l.map (Value.int .i64)).set k (.int .i64 x)) = (l.set k x).map (.int .i64) := by rw [List.map_set]
  have l9 : (l.set k x).length = l.length := by simp
  rw [e9] at O9
  unfold OwnN
  rw [l9]
  exact O9
theorem wf_set {l : List Int} (h : ∀ n ∈ l, (Lit.int .i64 n).wf = true) (k : Nat) {x : Int} (hx : (Lit.int .i64 x).wf = true) : ∀ n ∈ l.set k x, (Lit.int .i64 n).wf = true := by
  intro y hy
  rcases List.mem_or_eq_of_mem_set hy with hh | hh
  · exact h y hh
  · subst hh; exact hx
theorem ownN_cell {w : World} {base c g : Nat} {l : List Int} (h : OwnN w base (.slice (some ⟨g, 0, none⟩) l.length c) l) (k : Nat) (hk : k < l.length) : w.cell? ⟨g, k, none⟩ = some (.int .i64 l[k]) ∧ w.frozen? ⟨g, k, none⟩ = false := by
  refine ⟨?_, h.frozenAt k⟩
  rw [h.cellAt k (by omega)]
  simp [List.getElem?_map, List.getElem?_eq_getElem hk]

set_option maxHeartbeats 4000000 in
theorem drawKeySum_any (w : World) (a : Option Addr) (len cap : Nat) (zs : List Int) (h : Has w .u8 a len zs) (hl : len ≤ 1048576) :
    Calls Tryd.prog 16 #[.slice a len cap] w fun e w' => ∃ (a' : Option Addr) (c' : Nat) (ys : List Int), e = .returned (.slice a' ys.length c') ∧ ys.length ≤ 32 ∧ Has w' .i64 a' ys.length ys ∧ Below w.heap.size w w' := by
  go_enter Tryd.func16, Tryd.ntmps16
  go_wp2_with fail
  refine (source_any _ a len cap zs h hl).mono ?_
  rintro e u1 ⟨rfl, S1, hb1, hs1⟩
  obtain ⟨u0, hu0⟩ : ∃ u0, u0 = w.heap.size := ⟨_, rfl⟩
  have AS : ∀ {w2 : World}, Only u0 u1 w2 → Below w.heap.size w w2 := fun {w2} ho => after_source hb1 (by rw [← hu0]; exact ho)
  rw [← hu0] at S1 hs1 ⊢
  clear hu0
  go_wp2_with fail
  refine (next_any _ _ _ a len cap zs 0 9 S1 (by omega) (by omega) (by omega)).mono ?_
  rintro e u2 ⟨s, rfl, s0, s1, S2, Y2⟩
  go_wp2_with fail
  refine (next_any _ _ _ a len cap zs _ 8 S2 (by omega) (by omega) (by omega)).mono ?_
  rintro e u3 ⟨i, rfl, i0, i1, S3, Y3⟩
  have N3 := Y2.trans Y3
  have z3 := N3.size
  clear S1 S2 Y2 Y3
  go_wp2_with fail
  refine (l8Public_any s i _ (by omega) (by omega)).mono ?_
  rintro e u4 ⟨a', c', rfl, O4, hb4⟩
  have hlen := pubL_len s i
  have hall := pubL_all s i
  obtain ⟨l, hl'⟩ : ∃ l, l = pubL s i := ⟨_, rfl⟩
  rw [← hl'] at O4 hlen hall ⊢
  clear hl'
  have LW := allS_wf hall
  obtain ⟨g, rfl, g0, g1⟩ := ownN_at O4 (by omega)
  have S4 := S3.below' hb4 (by omega)
  have N4 := N3.then_below (hb4.mono z3)
  have z4 := N4.size
  have HL : Hid (l.length = 32) := hlen
  clear S3 N3 hb4 hall
  rw [hlen]
  clear hlen
  go_wp2_with fail
  refine (next_any _ _ _ a len cap zs _ 5 S4 (by omega) (by omega) (by omega)).mono ?_
  rintro e u5 ⟨q, rfl, q0, q1, S5, Y5⟩
  have O5 := own_only O4 Y5 (by omega)
  have N5 := N4.trans Y5
  have z5 := Y5.size
  clear O4 S4 Y5 N4
  by_cases d0 : q = 0
  · have d0b : (q == 0) = true := by simpa using d0
    clear d0
    have hc := (own_caps8 O5)
    have hc' : 32 ≤ c' := by have := HL.out; omega
    have hR : Has u5 .i64 (some ⟨g, 1, none⟩) (l.drop 1).length (l.drop 1) := by
      have h5 := has_of_own O5 LW
      have := has_rest h5 1 (by have := HL.out; omega)
      simpa using this
    have lD : (l.drop 1).length = 31 := by simp; have := HL.out; omega
    have HD : Hid ((l.drop 1).length = 31) := lD
    clear lD O5 hc
    go_wp2
    refine bodyPost_ret (v := .slice (some ⟨g, 1, none⟩) 31 (c' - 1)) (by simp [results, Tryd.results16, go_sem]) rfl ⟨some ⟨g, 1, none⟩, c' - 1, l.drop 1, by rw [HD.out], by rw [HD.out]; omega, hR, AS N5⟩
  · have d0b : (q == 0) = false := by simpa using d0
    clear d0
    by_cases d1 : q = 1
    · have d1b : (q == 1) = true := by simpa using d1
      clear d1
      have PH : Hid (∀ i, i < ([-1, 65521, 5] : List Int).length → (u5.alloc (.cells #[.int .i64 (-1), .int .i64 65521, .int .i64 5] 2)).cell? ⟨u5.heap.size, i, none⟩ = some (.int .i64 (([-1, 65521, 5] : List Int).getD i 0))) := cells_lit u5 [-1, 65521, 5] 2 _ rfl
      go_wp2_with fail
      refine (pick_any _ _ _ a len cap zs _ (S5.alloc _) (by omega) u5.heap.size [-1, 65521, 5] 3 rfl (by simp) (by omega) (by omega) (by omega) 3 PH.out).mono ?_
      rintro e u6 ⟨x, rfl, hp, S6, Y6⟩
      have hp' : -1 ≤ x ∧ x ≤ 65521 := by simp at hp; omega
      have O6 := own_only (O5.alloc (.cells #[.int .i64 (-1), .int .i64 65521, .int .i64 5] 2)) Y6 (by omega)
      have N6 := (N5.alloc (.cells #[.int .i64 (-1), .int .i64 65521, .int .i64 5] 2)).trans Y6
      obtain ⟨cc, ff⟩ := ownN_cell O6 3 (by have := HL.out; omega)
      generalize l[3]'(by have := HL.out; omega) = y3 at cc
      have O7 := ownN_set O6 3 x
      have l7 : (l.set 3 x).length = 32 := by simp; exact HL.out
      have H7 := has_of_own O7 (wf_set LW 3 (WalkArith.wf_i64 (by omega)))
      have N7 := N6.then_below ((Below.refl u1.heap.size u6).setCell (p := ⟨g, 3, none⟩) (by show u1.heap.size ≤ g; omega) (.int .i64 x))
      have H7' : Hid (Has (u6.setCell ⟨g, 3, none⟩ (.int .i64 x)) .i64 (some ⟨g, 0, none⟩) (l.set 3 x).length (l.set 3 x)) := H7
      have HE : Hid ((l.set 3 x).length = 32) := l7
      clear O6 O7 l7 H7 PH S5 Y6 O5 N5 N6 hp
      go_wp2
      exact bodyPost_ret (v := .slice (some ⟨g, 0, none⟩) 32 c') (by simp [results, Tryd.results16, go_sem]) rfl ⟨some ⟨g, 0, none⟩, c', l.set 3 x, by rw [HE.out], by rw [HE.out]; omega, H7'.out, AS N7⟩
    · have d1b : (q == 1) = false := by simpa using d1
      clear d1
      have H5 := has_of_own O5 LW
      have H5' : Hid (Has u5 .i64 (some ⟨g, 0, none⟩) l.length l) := H5
      clear H5 O5
      go_wp2
      exact bodyPost_ret (v := .slice (some ⟨g, 0, none⟩) 32 c') (by simp [results, Tryd.results16, go_sem]) rfl ⟨some ⟨g, 0, none⟩, c', l, by rw [HL.out], by rw [HL.out]; omega, H5'.out, AS N5⟩

end Go.Proofs.YtncckpdglimdoaaDoor
