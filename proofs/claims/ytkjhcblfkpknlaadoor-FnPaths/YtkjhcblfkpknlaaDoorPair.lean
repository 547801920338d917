/- Contracts: some bytes that are drawn; the model's draws of chapter 2. Contracts: the model's draws of chapter 2, leaves, nodes and slots. Contracts: the model's draw of two pieces of one sum. -/
import Derived.Test.YtkjhcblfkpknlaaDoorSource
import Derived.Test.YtkjhcblfkpknlaaDoorISums
import Derived.Test.YtkjhcblfkpknlaaDoorToClash
namespace Go.Proofs.YtkjhcblfkpknlaaDoor
open Go.ChangeShapes Go.WideShapes Go.ChangeAt Go.RowKit
set_option maxRecDepth 100000
set_option linter.unusedVariables false
set_option linter.unusedSimpArgs false

set_option maxHeartbeats 2000000 in
theorem some_any (w : World) (B s : Nat) (a : Option Addr) (len cap : Nat) (zs : List Int) (t : Nat) (n : Nat) (h : SrcAt w B s a len cap zs t) (ht : t ≤ 800000) (hn : n ≤ 1000) :
    Calls Tryd.prog 66 #[.pointer (some ⟨s, 0, none⟩), .int .i64 n] w fun e w' => ∃ (a' : Option Addr) (c' : Nat) (ys : List Int), e = .returned (.slice a' ys.length c') ∧ ys.length = n ∧ w'.ownsRow w.heap.size 5 1 (.slice a' ys.length c') ys.length (ys.map (.int .u8)) ∧ (∀ y ∈ ys, (Lit.int .u8 y).wf = true) ∧ SrcAt w' B s a len cap zs (t + n) ∧ Only s w w' := by
  obtain ⟨i0, hi, hz0, hz1, hz2⟩ := info_parts info8
  have hlt := h.lt
  have hown0 : (w.alloc (.cells #[] 5)).ownsRow w.heap.size 5 1 (.slice (some ⟨w.heap.size, 0, none⟩) 0 0) 0 (([] : List Int).map (.int .u8)) := World.ownsRow_lit w #[] 0 (Nat.le_refl _) (Nat.zero_le _) rfl
  have hs0 := h.alloc (.cells #[] 5)
  have ho0 := (Only.refl s w).alloc (.cells #[] 5)
  clear h
  go_enter Tryd.func66, Tryd.ntmps66
  go_wp2
  go_loopw [1, 5] (fun i v wr => ∃ (j : Nat) (ys : List Int), i = .int .i64 j ∧ ys.length + j = n ∧ SrcAt wr B s a len cap zs (t + ys.length) ∧ wr.ownsRow w.heap.size 5 1 v ys.length (ys.map (.int .u8)) ∧ (∀ y ∈ ys, (Lit.int .u8 y).wf = true) ∧ Only s w wr) (fun i _ _ => (intOf i).toNat)
  case atStart => exact ⟨n, [], rfl, by simp, hs0, hown0, by simp, ho0⟩
  case round =>
    clear hs0 hown0 ho0
    obtain ⟨j, ys, rfl, hj5, hs, hown, hwf, ho⟩ := hrel
    by_cases hj : 0 < j
    · have hj' : (0 : Int) < (j : Int) := by omega
      go_wp2_with (first | (go_at_call 58; refine (next_wide _ B s a len cap zs _ _ hs (by omega) (by omega) (by omega)).mono ?_; rintro e w2 ⟨x, rfl, hx0, hx1, hs2, ho2⟩; have hown2 := own_only hown ho2 hlt; have hz2' := ho2.size; have hzW := ho.size) | (at_builtin; refine wpList_append_own _ rfl _ _ 22 rfl w.heap.size 5 i0 (.int .u8 0) 1 1 Tryd.underlying22 hi hz0 hz1 hz2 rfl (by decide) _ _ _ rfl (hown2.alloc _) ⟨w2.heap.size, 0, none⟩ 1 1 [.int .u8 x] rfl rfl (one_new _ _ _) (by intro u hu; simp at hu; subst hu; rfl) (by unfold maxLen; omega) (by omega) (by simp; omega) ?_; intro v' w3 hown3 hgrow _h4))
      have hbel : Below w.heap.size (w2.alloc (.cells #[.int .u8 x] 5)) w3 := (Below.refl _ _).grown hgrow (by simp; omega) (fun k hk => (hown2.lt k hk).1)
      have hs3 := (hs2.alloc (.cells #[.int .u8 x] 5)).below' hbel hlt
      have ho3 := ((ho.trans ho2).alloc _).then_below hbel
      have hown3' : w3.ownsRow w.heap.size 5 1 v' (ys ++ [x]).length ((ys ++ [x]).map (.int .u8)) := by simpa using hown3
      clear hgrow hown2 hs2 ho2 hown hs ho hown3
      go_wp2
      go_roundw
      case rel => exact ⟨j - 1, ys ++ [x], by go_num, by simp; omega, by simpa [Nat.add_assoc] using hs3, hown3', by intro y hy; simp at hy; rcases hy with hy | rfl; exact hwf y hy; exact wf_u8 hx0 (by omega), ho3⟩
      case measure => simp [intOf]; omega
    · have hj' : (j : Int) ≤ 0 := by omega
      go_wp2
      go_ret
      obtain ⟨a', c', rfl⟩ := own_row_shape hown
      exact ⟨a', c', ys, rfl, by omega, hown, hwf, (by have e : t + ys.length = t + n := (by omega); rw [← e]; exact hs), ho⟩

end Go.Proofs.YtkjhcblfkpknlaaDoor

namespace Go.Proofs.YtkjhcblfkpknlaaDoor
open Go.ChangeShapes Go.WideShapes Go.ChangeAt Go.RowKit
set_option maxRecDepth 100000
set_option linter.unusedVariables false
set_option linter.unusedSimpArgs false

end Go.Proofs.YtkjhcblfkpknlaaDoor

namespace Go.Proofs.YtkjhcblfkpknlaaDoor
open Go.ChangeShapes Go.WideShapes Go.ChangeAt Go.RowKit
set_option maxRecDepth 100000
set_option linter.unusedVariables false
set_option linter.unusedSimpArgs false

theorem own_below' {w w' : World} {base e n : Nat} {v : Value} {xs : List Value} (ho : w.ownsRow base e 1 v n xs) (h : Below w.heap.size w w') : w'.ownsRow base e 1 v n xs := by
  refine ⟨ho.1, ho.2.imp id ?_⟩
  rintro ⟨g', cap, cur, e1, e2, e3, e4⟩
  exact ⟨g', cap, cur, e1, e2, (h.block g' (Array.getElem?_eq_some_iff.1 e3).1).trans e3, e4⟩
theorem wf_two {ys : List Int} (h : ∀ y ∈ ys, (Lit.int .u8 y).wf = true) {p q : Int} (hp : (Lit.int .u8 p).wf = true) (hq : (Lit.int .u8 q).wf = true) : ∀ y ∈ ys ++ [p, q], (Lit.int .u8 y).wf = true := by
  intro y hy
  simp at hy
  rcases hy with hy | rfl | rfl
  · exact h y hy
  · exact hp
  · exact hq
theorem set_pair (ys : List Int) (p q r s : Int) : (((ys ++ [p, q]).map (Value.int .u8)).set ys.length (.int .u8 r)).set (ys.length + 1) (.int .u8 s) = (ys ++ [r, s]).map (Value.int .u8) := by
  simp [List.set_append]

end Go.Proofs.YtkjhcblfkpknlaaDoor
