/- Contracts of the program's chapter 2: the sum of a piece. Contracts of the program's chapter 2: pieces laid together out of parts. Contracts of the program's chapter 2: the bytes of leaves, nodes and slots, and their sums. Contracts of the program's chapter 2: the sums of leaves, nodes and slots. -/
import Derived.Test.YtffidkoejlebeaaPiece
namespace Go.Proofs.Ytffidkoejlebeaa
open Go.ChangeShapes Go.WideShapes Go.ChangeAt Go.RowKit
set_option linter.unusedVariables false
set_option linter.unusedSimpArgs false

/-- The code and the value of a sum. -/
def sumC (zs : List Int) : Int := if 300 < zs.length then 2 else 0
def sumV (zs : List Int) : Int := if 300 < zs.length then 0 else sumL zs

end Go.Proofs.Ytffidkoejlebeaa

namespace Go.Proofs.Ytffidkoejlebeaa
open Go.ChangeShapes Go.WideShapes Go.ChangeAt Go.RowKit
set_option linter.unusedVariables false
set_option linter.unusedSimpArgs false

/-- What begins a piece, and its parts: each an address, a capacity, its bytes. -/
def pieceL (kd : Nat) (ps : List (Option Addr × Nat × List Int)) : List Int := (kd : Int) :: (ps.map fun p => p.2.2).flatten
theorem pieceL_succ (kd : Nat) (ps : List (Option Addr × Nat × List Int)) (k : Nat) (h : k < ps.length) : pieceL kd (ps.take (k + 1)) = pieceL kd (ps.take k) ++ ps[k].2.2 := by
  unfold pieceL
  rw [List.take_succ_eq_append_getElem h, List.map_append, List.flatten_append]
  simp
theorem pieceL_le (kd : Nat) (ps : List (Option Addr × Nat × List Int)) (k : Nat) : (pieceL kd (ps.take k)).length ≤ (pieceL kd ps).length := by
  have e : pieceL kd ps = pieceL kd (ps.take k) ++ ((ps.drop k).map fun p => p.2.2).flatten := by
    have := List.take_append_drop k ps
    conv => lhs; rw [← this]
    unfold pieceL
    rw [List.map_append, List.flatten_append]
    rfl
  rw [e, List.length_append]
  omega

end Go.Proofs.Ytffidkoejlebeaa

namespace Go.Proofs.Ytffidkoejlebeaa
open Go.ChangeShapes Go.WideShapes Go.ChangeAt Go.RowKit
set_option linter.unusedVariables false
set_option linter.unusedSimpArgs false

theorem isSum_any (v : Int) (w : World) : Calls Try.prog 34 #[.int .i64 v] w fun r w' => r = .returned (.bool (decide (0 ≤ v ∧ v ≤ 65520))) ∧ w' = w := by
  by_cases h : 0 ≤ v
  · go_enter Try.func34, Try.ntmps34
    go_wp2
    go_ret
    exact ⟨ret_bool (by simp [h]), rfl⟩
  · go_enter Try.func34, Try.ntmps34
    go_wp2
    go_ret
    exact ⟨ret_bool (by simp; omega), rfl⟩

/-- The code and the bytes of a leaf, of a node. -/
def leafC (zs : List Int) : Int := if 250 < zs.length then 2 else 0
def leafB (zs : List Int) : List Int := if 250 < zs.length then [] else leafL zs
def nodeC (a b : Int) : Int := if (0 ≤ a ∧ a ≤ 65520) ∧ 0 ≤ b ∧ b ≤ 65520 then 0 else 3
def nodeB (a b : Int) : List Int := if (0 ≤ a ∧ a ≤ 65520) ∧ 0 ≤ b ∧ b ≤ 65520 then nodeL a b else []
theorem leafB_wf {zs : List Int} (h : ∀ n ∈ zs, (Lit.int .u8 n).wf = true) : ∀ n ∈ leafB zs, (Lit.int .u8 n).wf = true := by
  unfold leafB
  split
  · simp
  · exact leaf_wf h
theorem nodeB_wf (a b : Int) : ∀ n ∈ nodeB a b, (Lit.int .u8 n).wf = true := by
  unfold nodeB
  split
  · exact node_wf (by omega) (by omega) (by omega) (by omega)
  · simp
theorem nil_own (w : World) (base e : Nat) : w.ownsRow base e 1 (.slice none 0 0) 0 (([] : List Int).map (.int .u8)) := ⟨rfl, .inl ⟨rfl, rfl⟩⟩
theorem own_set {w : World} {base e n g o : Nat} {a : Option Addr} {c : Nat} {xs : List Value} (h : w.ownsRow base e 1 (.slice a n c) n xs) (hg : g < base) (u : Value) : (w.setCell ⟨g, o, none⟩ u).ownsRow base e 1 (.slice a n c) n xs := by
  refine ⟨h.1, h.2.imp id ?_⟩
  rintro ⟨g', cap, cur, e1, e2, e3, e4⟩
  exact ⟨g', cap, cur, e1, e2, (Below.heap_setCell w ⟨g, o, none⟩ u g' (by show g' ≠ g; omega)).trans e3, e4⟩
theorem own_mono {w : World} {base base' e n : Nat} {v : Value} {xs : List Value} (h : w.ownsRow base e 1 v n xs) (hb : base' ≤ base) : w.ownsRow base' e 1 v n xs := by
  refine ⟨h.1, h.2.imp id ?_⟩
  rintro ⟨g', cap, cur, e1, e2, e4⟩
  exact ⟨g', cap, cur, e1, by omega, e4⟩

theorem has_two (w : World) {x y : Int} (T : Nat) (hx : 0 ≤ x ∧ x ≤ 255) (hy : 0 ≤ y ∧ y ≤ 255) : Has (w.alloc (.cells #[.int .u8 x, .int .u8 y] T)) .u8 (some ⟨w.heap.size, 0, none⟩) [x, y].length [x, y] := by
  refine ⟨rfl, ?_, .inr ⟨w.heap.size, 0, rfl, by simp, ?_⟩⟩
  · intro n hn
    simp at hn
    rcases hn with rfl | rfl
    · exact wf_u8 hx.1 hx.2
    · exact wf_u8 hy.1 hy.2
  · intro i hi
    match i, hi with
    | 0, _ => simp [go_sem]
    | 1, _ => simp [go_sem]
theorem has_one (w : World) {x : Int} (T : Nat) (hx : 0 ≤ x ∧ x ≤ 255) : Has (w.alloc (.cells #[.int .u8 x] T)) .u8 (some ⟨w.heap.size, 0, none⟩) [x].length [x] := by
  refine ⟨rfl, ?_, .inr ⟨w.heap.size, 0, rfl, by simp, ?_⟩⟩
  · intro n hn
    simp at hn
    subst hn
    exact wf_u8 hx.1 hx.2
  · intro i hi
    match i, hi with
    | 0, _ => simp [go_sem]

end Go.Proofs.Ytffidkoejlebeaa

namespace Go.Proofs.Ytffidkoejlebeaa
open Go.ChangeShapes Go.WideShapes Go.ChangeAt Go.RowKit
set_option linter.unusedVariables false
set_option linter.unusedSimpArgs false

/-- The codes and the values of the sums. -/
def leafV (zs : List Int) : Int := if 250 < zs.length then 0 else sumL (leafL zs)
def nodeV (a b : Int) : Int := if (0 ≤ a ∧ a ≤ 65520) ∧ 0 ≤ b ∧ b ≤ 65520 then sumL (nodeL a b) else 0
def slotL (k v : Int) : List Int := [2, k, v / 256, v % 256]
def slotC (k v : Int) : Int := if (0 ≤ k ∧ k ≤ 63) ∧ 0 ≤ v ∧ v ≤ 65520 then 0 else 3
def slotV (k v : Int) : Int := if (0 ≤ k ∧ k ≤ 63) ∧ 0 ≤ v ∧ v ≤ 65520 then sumL (slotL k v) else 0

theorem slot_wf {k v : Int} (k0 : 0 ≤ k) (k1 : k ≤ 63) (v0 : 0 ≤ v) (v1 : v ≤ 65535) : ∀ n ∈ slotL k v, (Lit.int .u8 n).wf = true := by
  intro n hn
  simp [slotL] at hn
  exact wf_u8 (by omega) (by omega)

end Go.Proofs.Ytffidkoejlebeaa
