/- Contracts of the model of chapter 2: sums of pieces. Contracts of the model of chapter 2: the bytes of leaves and nodes, and their sums. -/
import Derived.Test.YtffidkoejlebeaaBytes
import Derived.Test.YtffidkoejlebeaaKeep
import Derived.Test.YtffidkoejlebeaaIn
namespace Go.Proofs.Ytffidkoejlebeaa
open Go.ChangeShapes Go.WideShapes Go.ChangeAt Go.RowKit
set_option linter.unusedVariables false
set_option linter.unusedSimpArgs false

def sumStep (n b : Int) : Int := (n * 137 + b + 1) % 65521
def sumL (zs : List Int) : Int := zs.foldl sumStep 11
theorem sum_bd (zs : List Int) : 0 ≤ sumL zs ∧ sumL zs ≤ 65520 := by
  unfold sumL
  have : ∀ (l : List Int) (n : Int), 0 ≤ n ∧ n ≤ 65520 → 0 ≤ l.foldl sumStep n ∧ l.foldl sumStep n ≤ 65520 := by
    intro l
    induction l with
    | nil => intro n h; exact h
    | cons x l ih => intro n h; exact ih _ (by unfold sumStep; omega)
  exact this zs 11 (by omega)
theorem sum_succ (zs : List Int) (k : Nat) (h : k < zs.length) : sumL (zs.take (k + 1)) = (sumL (zs.take k) * 137 + zs[k] + 1) % 65521 := by
  unfold sumL; rw [List.take_succ_eq_append_getElem h, List.foldl_append]; rfl

theorem Has.news {w : World} {k : IntKind} {ad : Addr} {zs : List Int} (h : Has w k (some ad) zs.length zs) : ∀ (j : Nat) (u : Value), (zs.map (.int k))[j]? = some u → w.cell? (ad.add j) = some u := by
  intro j u hu
  have hj : j < zs.length := by
    rcases Nat.lt_or_ge j zs.length with c | c
    · exact c
    · rw [List.getElem?_eq_none (by simpa using c)] at hu; cases hu
  rcases h.2.2 with c | ⟨b, off, hb, _, hc⟩
  · omega
  · have e := hc j hj
    simp at hb
    subst hb
    have hu' : Value.int k zs[j] = u := by simpa [hj] using hu
    rw [← hu']
    by_cases h0 : j = 0
    · subst h0; simpa [Addr.add, List.getD, hj] using e
    · simpa [Addr.add, List.getD, hj, h0] using e

end Go.Proofs.Ytffidkoejlebeaa

namespace Go.Proofs.Ytffidkoejlebeaa
open Go.ChangeShapes Go.WideShapes Go.ChangeAt Go.RowKit
set_option linter.unusedVariables false
set_option linter.unusedSimpArgs false

theorem own_row_shape {w : World} {base e n : Nat} {v : Value} {xs : List Value} (h : w.ownsRow base e 1 v n xs) : ∃ a c, v = .slice a n c := by
  rcases h.2 with ⟨rfl, h0⟩ | ⟨g, cap, cur, rfl, _⟩
  · exact ⟨none, 0, by rw [h0]⟩
  · exact ⟨_, cap, rfl⟩
theorem has_of_own {w : World} {base e n : Nat} {a : Option Addr} {c : Nat} {zs : List Int} {k : IntKind} (h : w.ownsRow base e 1 (.slice a n c) n (zs.map (.int k))) (hw : ∀ n ∈ zs, (Lit.int k n).wf = true) : Has w k a zs.length zs := by
  have hl : zs.length = n := by have := h.1; simpa using this
  subst hl
  rcases h.2 with ⟨e1, h0⟩ | ⟨g, cap, cur, e1, hb, hg, h1, h2, h3, h4⟩
  · exact ⟨rfl, hw, .inl h0⟩
  · simp at e1
    obtain ⟨rfl, rfl⟩ := e1
    exact Has.of_own h (Array.getElem?_eq_some_iff.1 hg).1 hw

theorem two_new (w : World) (x y : Value) (T : Nat) : ∀ (j : Nat) (u : Value), [x, y][j]? = some u → (w.alloc (.cells #[x, y] T)).cell? ((⟨w.heap.size, 0, none⟩ : Addr).add j) = some u := by
  intro j u hj
  match j, hj with
  | 0, hj => simp at hj; subst hj; simp [Addr.add]
  | 1, hj => simp at hj; subst hj; simp [Addr.add]

/-- The bytes of a leaf. -/
def leafL (zs : List Int) : List Int := 0 :: zs
/-- The bytes of a node. -/
def nodeL (a b : Int) : List Int := [1, a / 256, a % 256, b / 256, b % 256]

theorem wf_u8 {x : Int} (h0 : 0 ≤ x) (h1 : x ≤ 255) : (Lit.int .u8 x).wf = true := WalkArith.wf_u8 ⟨h0, h1⟩
theorem node_wf {a b : Int} (a0 : 0 ≤ a) (a1 : a ≤ 65535) (b0 : 0 ≤ b) (b1 : b ≤ 65535) : ∀ n ∈ nodeL a b, (Lit.int .u8 n).wf = true := by
  intro n hn
  simp [nodeL] at hn
  exact wf_u8 (by omega) (by omega)
theorem leaf_wf {zs : List Int} (h : ∀ n ∈ zs, (Lit.int .u8 n).wf = true) : ∀ n ∈ leafL zs, (Lit.int .u8 n).wf = true := by
  intro n hn
  simp [leafL] at hn
  rcases hn with rfl | hn
  · rfl
  · exact h n hn

theorem l2Is_any (v : Int) (w : World) : Calls Try.prog 32 #[.int .i64 v] w fun r w' => r = .returned (.bool (decide (0 ≤ v ∧ v ≤ 65520))) ∧ w' = w := by
  go_enter Try.func32, Try.ntmps32
  go_wp2_with (go_at_call 31; refine (in_any _ _ _ _).mono ?_; rintro r u ⟨rfl, rfl⟩)
  go_ret
  exact ⟨ret_bool (by simp), rfl⟩

end Go.Proofs.Ytffidkoejlebeaa
