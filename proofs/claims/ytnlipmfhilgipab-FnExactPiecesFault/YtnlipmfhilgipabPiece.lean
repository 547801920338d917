/- Contracts of the model of chapter 2: the bytes of leaves and nodes, and their sums. -/
import Derived.Test.YtnlipmfhilgipabSum
import Derived.Test.YtnlipmfhilgipabIn
namespace Go.Proofs.Ytnlipmfhilgipab
open Go.ChangeShapes Go.WideShapes Go.ChangeAt Go.RowKit
set_option linter.unusedVariables false
set_option linter.unusedSimpArgs false

theorem own_row_shape {w : World} {base e n : Nat} {v : Value} {xs : List Value} (h : w.ownsRow base e 1 v n xs) : ∃ a c, v = .slice a n c := by
  rcases h.2 with ⟨rfl, h0⟩ | ⟨g, cap, cur, rfl, _⟩
  · exact ⟨none, 0, by rw [h0]⟩
  · exact ⟨_, cap, rfl⟩
theorem has_of_own {w : World} {base e n : Nat} {a : Option Addr} {c : Nat} {zs : List Int} {k : IntKind} (h : w.ownsRow base e 1 (.slice a n c) n (zs.map (.int k))) (hw : ∀ n ∈ zs, (Lit.int k n).wf = true) : Has w k a zs.length zs := by
  have hl : zs.length = n := by have := h.1; simpa using this
  subst hl
  rcases h.2 with ⟨e1, h0⟩ | ⟨g, cap, cur, e1, hb, hg, h1, h2, h3, h4⟩
  · exact ⟨rfl, hw, .inl h0⟩
  · simp at e1
    obtain ⟨rfl, rfl⟩ := e1
    exact Has.of_own h (Array.getElem?_eq_some_iff.1 hg).1 hw

theorem two_new (w : World) (x y : Value) (T : Nat) : ∀ (j : Nat) (u : Value), [x, y][j]? = some u → (w.alloc (.cells #[x, y] T)).cell? ((⟨w.heap.size, 0, none⟩ : Addr).add j) = some u := by
  intro j u hj
  match j, hj with
  | 0, hj => simp at hj; subst hj; simp [Addr.add]
  | 1, hj => simp at hj; subst hj; simp [Addr.add]

/-- The bytes of a leaf. -/
def leafL (zs : List Int) : List Int := 0 :: zs
/-- The bytes of a node. -/
def nodeL (a b : Int) : List Int := [1, a / 256, a % 256, b / 256, b % 256]

theorem wf_u8 {x : Int} (h0 : 0 ≤ x) (h1 : x ≤ 255) : (Lit.int .u8 x).wf = true := WalkArith.wf_u8 ⟨h0, h1⟩
theorem node_wf {a b : Int} (a0 : 0 ≤ a) (a1 : a ≤ 65535) (b0 : 0 ≤ b) (b1 : b ≤ 65535) : ∀ n ∈ nodeL a b, (Lit.int .u8 n).wf = true := by
  intro n hn
  simp [nodeL] at hn
  exact wf_u8 (by omega) (by omega)
theorem leaf_wf {zs : List Int} (h : ∀ n ∈ zs, (Lit.int .u8 n).wf = true) : ∀ n ∈ leafL zs, (Lit.int .u8 n).wf = true := by
  intro n hn
  simp [leafL] at hn
  rcases hn with rfl | hn
  · rfl
  · exact h n hn

end Go.Proofs.Ytnlipmfhilgipab
