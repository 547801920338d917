/- Contracts: some bytes that are drawn; the model's draws of chapter 2. Contracts: the model's draws of chapter 2, leaves, nodes and slots. Contracts: the model's draw of two pieces of one sum. -/
import Derived.Test.YtklhkhlmhddmcaaDoorSource
import Derived.Test.YtklhkhlmhddmcaaDoorISums
import Derived.Test.YtklhkhlmhddmcaaDoorToClash
namespace Go.Proofs.YtklhkhlmhddmcaaDoor
open Go.ChangeShapes Go.WideShapes Go.ChangeAt Go.RowKit
set_option maxRecDepth 100000
set_option linter.unusedVariables false
set_option linter.unusedSimpArgs false

set_option maxHeartbeats 2000000 in
theorem some_any (w : World) (B s : Nat) (a : Option Addr) (len cap : Nat) (zs : List Int) (t : Nat) (n : Nat) (h : SrcAt w B s a len cap zs t) (ht : t ≤ 800000) (hn : n ≤ 1000) :
    Calls Tryd.prog 55 #[.pointer (some ⟨s, 0, none⟩), .int .i64 n] w fun e w' => ∃ (a' : Option Addr) (c' : Nat) (ys : List Int), e = .returned (.slice a' ys.length c') ∧ ys.length = n ∧ w'.ownsRow w.heap.size 5 1 (.slice a' ys.length c') ys.length (ys.map (.int .u8)) ∧ (∀ y ∈ ys, (Lit.int .u8 y).wf = true) ∧ SrcAt w' B s a len cap zs (t + n) ∧ Only s w w' := by
  obtain ⟨i0, hi, hz0, hz1, hz2⟩ := info_parts info8
  have hlt := h.lt
  have hown0 : (w.alloc (.cells #[] 5)).ownsRow w.heap.size 5 1 (.slice (some ⟨w.heap.size, 0, none⟩) 0 0) 0 (([] : List Int).map (.int .u8)) := World.ownsRow_lit w #[] 0 (Nat.le_refl _) (Nat.zero_le _) rfl
  have hs0 := h.alloc (.cells #[] 5)
  have ho0 := (Only.refl s w).alloc (.cells #[] 5)
  clear h
  go_enter Tryd.func55, Tryd.ntmps55
  go_wp2
  go_loopw [1, 5] (fun i v wr => ∃ (j : Nat) (ys : List Int), i = .int .i64 j ∧ ys.length + j = n ∧ SrcAt wr B s a len cap zs (t + ys.length) ∧ wr.ownsRow w.heap.size 5 1 v ys.length (ys.map (.int .u8)) ∧ (∀ y ∈ ys, (Lit.int .u8 y).wf = true) ∧ Only s w wr) (fun i _ _ => (intOf i).toNat)
  case atStart => exact ⟨n, [], rfl, by simp, hs0, hown0, by simp, ho0⟩
  case round =>
    clear hs0 hown0 ho0
    obtain ⟨j, ys, rfl, hj5, hs, hown, hwf, ho⟩ := hrel
    by_cases hj : 0 < j
    · have hj' : (0 : Int) < (j : Int) := by omega
      go_wp2_with (first | (go_at_call 52; refine (next_wide _ B s a len cap zs _ _ hs (by omega) (by omega) (by omega)).mono ?_; rintro e w2 ⟨x, rfl, hx0, hx1, hs2, ho2⟩; have hown2 := own_only hown ho2 hlt; have hz2' := ho2.size; have hzW := ho.size) | (at_builtin; refine wpList_append_own _ rfl _ _ 22 rfl w.heap.size 5 i0 (.int .u8 0) 1 1 Tryd.underlying22 hi hz0 hz1 hz2 rfl (by decide) _ _ _ rfl (hown2.alloc _) ⟨w2.heap.size, 0, none⟩ 1 1 [.int .u8 x] rfl rfl (one_new _ _ _) (by intro u hu; simp at hu; subst hu; rfl) (by unfold maxLen; omega) (by omega) (by simp; omega) ?_; intro v' w3 hown3 hgrow _h4))
      have hbel : Below w.heap.size (w2.alloc (.cells #[.int .u8 x] 5)) w3 := (Below.refl _ _).grown hgrow (by simp; omega) (fun k hk => (hown2.lt k hk).1)
      have hs3 := (hs2.alloc (.cells #[.int .u8 x] 5)).below' hbel hlt
      have ho3 := ((ho.trans ho2).alloc _).then_below hbel
      have hown3' : w3.ownsRow w.heap.size 5 1 v' (ys ++ [x]).length ((ys ++ [x]).map (.int .u8)) := by simpa using hown3
      clear hgrow hown2 hs2 ho2 hown hs ho hown3
      go_wp2
      go_roundw
      case rel => exact ⟨j - 1, ys ++ [x], by go_num, by simp; omega, by simpa [Nat.add_assoc] using hs3, hown3', by intro y hy; simp at hy; rcases hy with hy | rfl; exact hwf y hy; exact wf_u8 hx0 (by omega), ho3⟩
      case measure => simp [intOf]; omega
    · have hj' : (j : Int) ≤ 0 := by omega
      go_wp2
      go_ret
      obtain ⟨a', c', rfl⟩ := own_row_shape hown
      exact ⟨a', c', ys, rfl, by omega, hown, hwf, (by have e : t + ys.length = t + n := (by omega); rw [← e]; exact hs), ho⟩

end Go.Proofs.YtklhkhlmhddmcaaDoor

namespace Go.Proofs.YtklhkhlmhddmcaaDoor
open Go.ChangeShapes Go.WideShapes Go.ChangeAt Go.RowKit
set_option maxRecDepth 100000
set_option linter.unusedVariables false
set_option linter.unusedSimpArgs false

end Go.Proofs.YtklhkhlmhddmcaaDoor

namespace Go.Proofs.YtklhkhlmhddmcaaDoor
open Go.ChangeShapes Go.WideShapes Go.ChangeAt Go.RowKit
set_option maxRecDepth 100000
set_option linter.unusedVariables false
set_option linter.unusedSimpArgs false

theorem own_below' {w w' : World} {base e n : Nat} {v : Value} {xs : List Value} (ho : w.ownsRow base e 1 v n xs) (h : Below w.heap.size w w') : w'.ownsRow base e 1 v n xs := by
  refine ⟨ho.1, ho.2.imp id ?_⟩
  rintro ⟨g', cap, cur, e1, e2, e3, e4⟩
  exact ⟨g', cap, cur, e1, e2, (h.block g' (Array.getElem?_eq_some_iff.1 e3).1).trans e3, e4⟩
theorem wf_two {ys : List Int} (h : ∀ y ∈ ys, (Lit.int .u8 y).wf = true) {p q : Int} (hp : (Lit.int .u8 p).wf = true) (hq : (Lit.int .u8 q).wf = true) : ∀ y ∈ ys ++ [p, q], (Lit.int .u8 y).wf = true := by
  intro y hy
  simp at hy
  rcases hy with hy | rfl | rfl
  · exact h y hy
  · exact hp
  · exact hq
theorem set_pair (ys : List Int) (p q r s : Int) : (((ys ++ [p, q]).map (Value.int .u8)).set ys.length (.int .u8 r)).set (ys.length + 1) (.int .u8 s) = (ys ++ [r, s]).map (Value.int .u8) := by
  simp [List.set_append]

set_option maxHeartbeats 4000000 in
theorem pair_any (w : World) (B s : Nat) (a : Option Addr) (len cap : Nat) (zs : List Int) (t : Nat) (h : SrcAt w B s a len cap zs t) (ht : t ≤ 1000) :
    Calls Tryd.prog 98 #[.pointer (some ⟨s, 0, none⟩)] w fun e w' => ∃ (a1 a2 : Option Addr) (c1 c2 : Nat) (xs ys : List Int), e = .returned (.agg #[.bool true, .slice a1 xs.length c1, .slice a2 ys.length c2]) ∧ w'.ownsRow w.heap.size 5 1 (.slice a1 xs.length c1) xs.length (xs.map (.int .u8)) ∧ w'.ownsRow w.heap.size 5 1 (.slice a2 ys.length c2) ys.length (ys.map (.int .u8)) ∧ (∀ y ∈ xs, (Lit.int .u8 y).wf = true) ∧ (∀ y ∈ ys, (Lit.int .u8 y).wf = true) ∧ xs.length ≤ 10 ∧ ys.length ≤ 10 ∧ (∃ t', t' ≤ t + 10 ∧ SrcAt w' B s a len cap zs t') ∧ Only s w w' := by
  obtain ⟨i0, hi, hz0, hz1, hz2⟩ := info_parts info8
  have hlt := h.lt
  go_enter Tryd.func98, Tryd.ntmps98
  go_wp2_with fail
  refine (next_wide _ B s a len cap zs t _ (h.alloc _) (by omega) (by omega) (by omega)).mono ?_
  rintro e w1 ⟨v, rfl, hv0, hv1, hs1, ho1⟩
  obtain ⟨n, rfl⟩ := Int.eq_ofNat_of_zero_le hv0
  have z1 := ho1.size
  simp at z1
  have p0 := (ho1.cell (b := w.heap.size) (o := 0) (by simp) (by omega)).trans (show _ = some (.bool false) by simp [go_sem])
  have p1 := (ho1.cell (b := w.heap.size) (o := 1) (by simp) (by omega)).trans (show _ = some (.slice none 0 0) by simp [go_sem])
  have p2 := (ho1.cell (b := w.heap.size) (o := 2) (by simp) (by omega)).trans (show _ = some (.slice none 0 0) by simp [go_sem])
  have f0 := (ho1.frozen (b := w.heap.size) (o := 0) (by simp) (by omega)).trans (show _ = false by simp [go_sem])
  have f1 := (ho1.frozen (b := w.heap.size) (o := 1) (by simp) (by omega)).trans (show _ = false by simp [go_sem])
  have f2 := (ho1.frozen (b := w.heap.size) (o := 2) (by simp) (by omega)).trans (show _ = false by simp [go_sem])
  have hoW1 := ((Only.refl s w).alloc _).trans ho1
  go_wp2_with fail
  refine (some_any _ B s a len cap zs _ n hs1 (by omega) (by omega)).mono ?_
  rintro e w2 ⟨a', c', ys, rfl, rfl, hown, hwf, hs2, ho2⟩
  have z2 := ho2.size
  replace p0 := (ho2.cell (b := w.heap.size) (by omega) (by omega)).trans p0
  replace p1 := (ho2.cell (b := w.heap.size) (by omega) (by omega)).trans p1
  replace p2 := (ho2.cell (b := w.heap.size) (by omega) (by omega)).trans p2
  replace f0 := (ho2.frozen (b := w.heap.size) (by omega) (by omega)).trans f0
  replace f1 := (ho2.frozen (b := w.heap.size) (by omega) (by omega)).trans f1
  replace f2 := (ho2.frozen (b := w.heap.size) (by omega) (by omega)).trans f2
  have hoW2 := hoW1.trans ho2
  have hn3 : ys.length ≤ 3 := by omega
  clear hs1 ho1 ho2 hoW1 h hv0 hv1
  go_wp2_with (at_builtin; refine wpList_append_own _ rfl _ _ 22 rfl w1.heap.size 5 i0 (.int .u8 0) 1 1 Tryd.underlying22 hi hz0 hz1 hz2 rfl (by decide) _ _ _ rfl (hown.alloc _) ⟨w2.heap.size, 0, none⟩ 2 2 [.int .u8 5, .int .u8 200] rfl (by simp) (two_new w2 _ _ _) (by intro u hu; simp at hu; rcases hu with rfl | rfl <;> rfl) (by unfold maxLen; omega) (by omega) (by simp; omega) ?_; intro v1 w3 hown3 hgrow1 _h1)
  have O1 : w3.ownsRow w1.heap.size 5 1 v1 (ys ++ [5, 200]).length ((ys ++ [5, 200]).map (.int .u8)) := by simpa using hown3
  obtain ⟨a1, c1, rfl⟩ := own_row_shape O1
  have hbel3 : Below w1.heap.size (w2.alloc (.cells #[.int .u8 5, .int .u8 200] 5)) w3 := (Below.refl _ _).grown hgrow1 (by simp; omega) (fun k hk => (hown.lt k hk).1)
  have hb23 : Below w1.heap.size w2 w3 := ((Below.refl w1.heap.size w2).alloc (by omega) _).trans hbel3
  have hs3 := hs2.below' hb23 (by omega)
  have hwx := wf_two hwf (p := 5) (q := 200) rfl rfl
  have z3 := hb23.size
  replace p0 := (hb23.cell (p := ⟨w.heap.size, 0, none⟩) (show w.heap.size < _ by omega)).trans p0
  replace p1 := (hb23.cell (p := ⟨w.heap.size, 1, none⟩) (show w.heap.size < _ by omega)).trans p1
  replace p2 := (hb23.cell (p := ⟨w.heap.size, 2, none⟩) (show w.heap.size < _ by omega)).trans p2
  replace f0 := (hb23.frozen (p := ⟨w.heap.size, 0, none⟩) (show w.heap.size < _ by omega)).trans f0
  replace f1 := (hb23.frozen (p := ⟨w.heap.size, 1, none⟩) (show w.heap.size < _ by omega)).trans f1
  replace f2 := (hb23.frozen (p := ⟨w.heap.size, 2, none⟩) (show w.heap.size < _ by omega)).trans f2
  have hoW3 := hoW2.then_below (hb23.mono (by omega))
  clear hown3 hgrow1 _h1 hbel3 hown hs2 hoW2 hb23
  refine (copy_shape a1 c1 (ys ++ [5, 200]) _ (has_of_own O1 hwx) (by simp; omega)).mono ?_
  rintro r w4 ⟨a2, c2, rfl, O2, hb4⟩
  have el : (ys ++ [5, 200]).length = ys.length + 2 := by simp
  have z4 := hb4.size
  have hs4 := hs3.below hb4
  have hoW4 := hoW3.then_below (hb4.mono (by omega))
  replace p0 := (hb4.cell (p := ⟨w.heap.size, 0, none⟩) (show w.heap.size < _ by omega)).trans p0
  replace p1 := (hb4.cell (p := ⟨w.heap.size, 1, none⟩) (show w.heap.size < _ by omega)).trans p1
  replace p2 := (hb4.cell (p := ⟨w.heap.size, 2, none⟩) (show w.heap.size < _ by omega)).trans p2
  replace f0 := (hb4.frozen (p := ⟨w.heap.size, 0, none⟩) (show w.heap.size < _ by omega)).trans f0
  replace f1 := (hb4.frozen (p := ⟨w.heap.size, 1, none⟩) (show w.heap.size < _ by omega)).trans f1
  replace f2 := (hb4.frozen (p := ⟨w.heap.size, 2, none⟩) (show w.heap.size < _ by omega)).trans f2
  clear hs3 hoW3
  obtain ⟨g2, rfl, hg2⟩ : ∃ g2, a2 = some ⟨g2, 0, none⟩ ∧ w3.heap.size ≤ g2 := by
    rcases O2.2 with ⟨_, e0⟩ | ⟨g, _, _, e, hg, _⟩
    · rw [el] at e0; omega
    · simp at e; exact ⟨g, e.1, hg⟩
  have y1 : w4.cell? ⟨g2, ys.length, none⟩ = some (.int .u8 5) := (O2.cellAt ys.length (by simp)).trans (by simp)
  have k1 := O2.frozenAt ys.length
  have O3 := (O2.stored ys.length (.int .u8 6)).1
  have y2 : (w4.setCell ⟨g2, ys.length, none⟩ (.int .u8 6)).cell? ⟨g2, ys.length + 1, none⟩ = some (.int .u8 200) := (O3.cellAt (ys.length + 1) (by simp)).trans (by simp [List.set_append])
  have k2 := O3.frozenAt (ys.length + 1)
  have O4 := (O3.stored (ys.length + 1) (.int .u8 63)).1
  rw [set_pair, el] at O4
  rw [el] at O1
  simp only [el]
  have hne : ¬ g2 = w.heap.size := by omega
  have hne' : ¬ w.heap.size = g2 := by omega
  have O4H : Hid (_) := O4
  have hb4g := (hb4.setCell (p := ⟨g2, ys.length, none⟩) hg2 (.int .u8 6)).setCell (p := ⟨g2, ys.length + 1, none⟩) hg2 (.int .u8 63)
  have O1H : Hid (_) := own_below' O1 hb4g
  clear O4 O3 O2 el O1 hb4 hb4g
  go_wp2
  have e1 : (ys ++ [5, 200]).length = ys.length + 2 := by simp
  have e2 : (ys ++ [6, 63]).length = ys.length + 2 := by simp
  have hbF : Below w.heap.size w4 (((((w4.setCell ⟨g2, ys.length, none⟩ (.int .u8 6)).setCell ⟨g2, ys.length + 1, none⟩ (.int .u8 63)).setCell ⟨w.heap.size, 0, none⟩ (.bool true)).setCell ⟨w.heap.size, 1, none⟩ (.slice a1 (ys.length + 2) c1)).setCell ⟨w.heap.size, 2, none⟩ (.slice (some ⟨g2, 0, none⟩) (ys.length + 2) c2)) := by
    repeat (first | exact Below.refl _ _ | refine Below.setCell ?_ (by (try simp) <;> omega) _)
  refine bodyPost_ret (v := .agg #[.bool true, .slice a1 (ys.length + 2) c1, .slice (some ⟨g2, 0, none⟩) (ys.length + 2) c2]) (by simp [results, Tryd.results98, go_sem, p0, p1, p2, hne, hne']) rfl ⟨a1, some ⟨g2, 0, none⟩, c1, c2, ys ++ [5, 200], ys ++ [6, 63], by rw [e1, e2], ?_, ?_, hwx, wf_two hwf rfl rfl, by omega, by omega, ⟨t + 1 + ys.length, by omega, hs4.below' hbF hlt⟩, hoW4.then_below hbF⟩
  · rw [e1]
    exact own_mono (own_set (own_set (own_set O1H.out (by omega) _) (by omega) _) (by omega) _) (by omega)
  · rw [e2]
    exact own_mono (own_set (own_set (own_set O4H.out (by omega) _) (by omega) _) (by omega) _) (by omega)

end Go.Proofs.YtklhkhlmhddmcaaDoor
