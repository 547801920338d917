/- Contracts of the program's chapter 2: the bytes of leaves, nodes and slots, and their sums. -/
import Derived.Test.YtnlipmfhilgipabIPiece
namespace Go.Proofs.Ytnlipmfhilgipab
open Go.ChangeShapes Go.WideShapes Go.ChangeAt Go.RowKit
set_option linter.unusedVariables false
set_option linter.unusedSimpArgs false

/-- The code and the bytes of a leaf, of a node. -/
def leafC (zs : List Int) : Int := if 250 < zs.length then 2 else 0
def leafB (zs : List Int) : List Int := if 250 < zs.length then [] else leafL zs
def nodeC (a b : Int) : Int := if (0 ≤ a ∧ a ≤ 65520) ∧ 0 ≤ b ∧ b ≤ 65520 then 0 else 3
def nodeB (a b : Int) : List Int := if (0 ≤ a ∧ a ≤ 65520) ∧ 0 ≤ b ∧ b ≤ 65520 then nodeL a b else []
theorem leafB_wf {zs : List Int} (h : ∀ n ∈ zs, (Lit.int .u8 n).wf = true) : ∀ n ∈ leafB zs, (Lit.int .u8 n).wf = true := by
  unfold leafB
  split
  · simp
  · exact leaf_wf h
theorem nodeB_wf (a b : Int) : ∀ n ∈ nodeB a b, (Lit.int .u8 n).wf = true := by
  unfold nodeB
  split
  · exact node_wf (by omega) (by omega) (by omega) (by omega)
  · simp
theorem nil_own (w : World) (base e : Nat) : w.ownsRow base e 1 (.slice none 0 0) 0 (([] : List Int).map (.int .u8)) := ⟨rfl, .inl ⟨rfl, rfl⟩⟩
theorem own_set {w : World} {base e n g o : Nat} {a : Option Addr} {c : Nat} {xs : List Value} (h : w.ownsRow base e 1 (.slice a n c) n xs) (hg : g < base) (u : Value) : (w.setCell ⟨g, o, none⟩ u).ownsRow base e 1 (.slice a n c) n xs := by
  refine ⟨h.1, h.2.imp id ?_⟩
  rintro ⟨g', cap, cur, e1, e2, e3, e4⟩
  exact ⟨g', cap, cur, e1, e2, (Below.heap_setCell w ⟨g, o, none⟩ u g' (by show g' ≠ g; omega)).trans e3, e4⟩
theorem own_mono {w : World} {base base' e n : Nat} {v : Value} {xs : List Value} (h : w.ownsRow base e 1 v n xs) (hb : base' ≤ base) : w.ownsRow base' e 1 v n xs := by
  refine ⟨h.1, h.2.imp id ?_⟩
  rintro ⟨g', cap, cur, e1, e2, e4⟩
  exact ⟨g', cap, cur, e1, by omega, e4⟩

theorem has_two (w : World) {x y : Int} (T : Nat) (hx : 0 ≤ x ∧ x ≤ 255) (hy : 0 ≤ y ∧ y ≤ 255) : Has (w.alloc (.cells #[.int .u8 x, .int .u8 y] T)) .u8 (some ⟨w.heap.size, 0, none⟩) [x, y].length [x, y] := by
  refine ⟨rfl, ?_, .inr ⟨w.heap.size, 0, rfl, by simp, ?_⟩⟩
  · intro n hn
    simp at hn
    rcases hn with rfl | rfl
    · exact wf_u8 hx.1 hx.2
    · exact wf_u8 hy.1 hy.2
  · intro i hi
    match i, hi with
    | 0, _ => simp [go_sem]
    | 1, _ => simp [go_sem]
theorem has_one (w : World) {x : Int} (T : Nat) (hx : 0 ≤ x ∧ x ≤ 255) : Has (w.alloc (.cells #[.int .u8 x] T)) .u8 (some ⟨w.heap.size, 0, none⟩) [x].length [x] := by
  refine ⟨rfl, ?_, .inr ⟨w.heap.size, 0, rfl, by simp, ?_⟩⟩
  · intro n hn
    simp at hn
    subst hn
    exact wf_u8 hx.1 hx.2
  · intro i hi
    match i, hi with
    | 0, _ => simp [go_sem]

end Go.Proofs.Ytnlipmfhilgipab
