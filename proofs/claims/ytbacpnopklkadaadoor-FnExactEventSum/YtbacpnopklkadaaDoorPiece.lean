/- Contracts of the model of chapter 2: the bytes of leaves and nodes, and their sums. -/
import Derived.Test.YtbacpnopklkadaaDoorSum
import Derived.Test.YtbacpnopklkadaaDoorIn
namespace Go.Proofs.YtbacpnopklkadaaDoor
open Go.ChangeShapes Go.WideShapes Go.ChangeAt Go.RowKit
set_option linter.unusedVariables false
set_option linter.unusedSimpArgs false

theorem own_row_shape {w : World} {base e n : Nat} {v : Value} {xs : List Value} (h : w.ownsRow base e 1 v n xs) : ∃ a c, v = .slice a n c := by
  rcases h.2 with ⟨rfl, h0⟩ | ⟨g, cap, cur, rfl, _⟩
  · exact ⟨none, 0, by rw [h0]⟩
  · exact ⟨_, cap, rfl⟩
theorem has_of_own {w : World} {base e n : Nat} {a : Option Addr} {c : Nat} {zs : List Int} {k : IntKind} (h : w.ownsRow base e 1 (.slice a n c) n (zs.map (.int k))) (hw : ∀ n ∈ zs, (Lit.int k n).wf = true) : Has w k a zs.length zs := by
  have hl : zs.length = n := by have := h.1; simpa using this
  subst hl
  rcases h.2 with ⟨e1, h0⟩ | ⟨g, cap, cur, e1, hb, hg, h1, h2, h3, h4⟩
  · exact ⟨rfl, hw, .inl h0⟩
  · simp at e1
    obtain ⟨rfl, rfl⟩ := e1
    exact Has.of_own h (Array.getElem?_eq_some_iff.1 hg).1 hw

theorem two_new (w : World) (x y : Value) (T : Nat) : ∀ (j : Nat) (u : Value), [x, y][j]? = some u → (w.alloc (.cells #[x, y] T)).cell? ((⟨w.heap.size, 0, none⟩ : Addr).add j) = some u := by
  intro j u hj
  match j, hj with
  | 0, hj => simp at hj; subst hj; simp [Addr.add]
  | 1, hj => simp at hj; subst hj; simp [Addr.add]

theorem l2Two_any (v : Int) (w : World) (h0 : 0 ≤ v) (h1 : v ≤ 65535) :
    Calls Tryd.prog 51 #[.int .i64 v] w fun r w' => r = .returned (.slice (some ⟨w.heap.size, 0, none⟩) 2 2) ∧ w' = w.alloc (.cells #[.int .u8 (v / 256), .int .u8 (v % 256)] 5) := by
  go_enter Tryd.func51, Tryd.ntmps51
  go_wp2
  go_ret
  exact ⟨rfl, rfl⟩

/-- The bytes of a leaf. -/
def leafL (zs : List Int) : List Int := 0 :: zs
/-- The bytes of a node. -/
def nodeL (a b : Int) : List Int := [1, a / 256, a % 256, b / 256, b % 256]

set_option maxHeartbeats 1000000 in
theorem l2Leaf_any (a : Option Addr) (cap : Nat) (zs : List Int) (w : World) (h : Has w .u8 a zs.length zs) (hl : zs.length ≤ 2097152) :
    Calls Tryd.prog 63 #[.slice a zs.length cap] w fun r w' => ∃ a' c', r = .returned (.slice a' (zs.length + 1) c') ∧ w'.ownsRow w.heap.size 5 1 (.slice a' (zs.length + 1) c') (zs.length + 1) ((leafL zs).map (.int .u8)) ∧ Below w.heap.size w w' := by
  obtain ⟨i0, hi, hz0, hz1, hz2⟩ := info_parts info8
  have hown0 : (w.alloc (.cells #[.int .u8 0] 5)).ownsRow w.heap.size 5 1 (.slice (some ⟨w.heap.size, 0, none⟩) 1 1) 1 [.int .u8 0] := World.ownsRow_lit w #[.int .u8 0] 1 (Nat.le_refl _) (by unfold maxLen; omega) rfl
  have h' := h.alloc (.cells #[.int .u8 0] 5)
  cases a with
  | none =>
    have h0 : zs.length = 0 := by
      rcases h.2.2 with c | ⟨_, _, c, _⟩
      · exact c
      · cases c
    obtain rfl : zs = [] := List.eq_nil_of_length_eq_zero h0
    clear h0 h h'
    simp only [List.length_nil]
    go_enter Tryd.func63, Tryd.ntmps63
    go_wp2
    go_ret
    exact ⟨_, _, rfl, hown0, (Below.refl _ _).alloc (Nat.le_refl _) _⟩
  | some ad =>
    have H1 : Hid (∀ j u, (zs.map (.int .u8))[j]? = some u → (w.alloc (.cells #[.int .u8 0] 5)).cell? (ad.add j) = some u) := h'.news
    clear h h'
    go_enter Tryd.func63, Tryd.ntmps63
    go_wp2_with (at_builtin; (refine wpList_append_own _ rfl _ _ 22 rfl w.heap.size 5 i0 (.int .u8 0) 1 1 Tryd.underlying22 hi hz0 hz1 hz2 rfl (by decide) _ _ _ rfl hown0 ad zs.length cap (zs.map (.int .u8)) rfl (by simp) H1.out (by intro u hu; simp at hu; obtain ⟨n, _, rfl⟩ := hu; rfl) (by unfold maxLen; omega) (by omega) (by simp) ?_); intro v' w3 hown3 hgrow _h4)
    go_ret
    have hb3 := ((Below.refl w.heap.size w).alloc (Nat.le_refl _) _).trans ((Below.refl _ _).grown hgrow (by simp) (fun k hk => (hown0.lt k hk).1))
    have hown4 : w3.ownsRow w.heap.size 5 1 v' (zs.length + 1) ((leafL zs).map (.int .u8)) := by
      have e : 1 + zs.length = zs.length + 1 := by omega
      rw [e] at hown3
      simpa [leafL] using hown3
    obtain ⟨a', c', rfl⟩ := own_row_shape hown4
    exact ⟨a', c', rfl, hown4, hb3⟩

theorem wf_u8 {x : Int} (h0 : 0 ≤ x) (h1 : x ≤ 255) : (Lit.int .u8 x).wf = true := WalkArith.wf_u8 ⟨h0, h1⟩
theorem node_wf {a b : Int} (a0 : 0 ≤ a) (a1 : a ≤ 65535) (b0 : 0 ≤ b) (b1 : b ≤ 65535) : ∀ n ∈ nodeL a b, (Lit.int .u8 n).wf = true := by
  intro n hn
  simp [nodeL] at hn
  exact wf_u8 (by omega) (by omega)
theorem leaf_wf {zs : List Int} (h : ∀ n ∈ zs, (Lit.int .u8 n).wf = true) : ∀ n ∈ leafL zs, (Lit.int .u8 n).wf = true := by
  intro n hn
  simp [leafL] at hn
  rcases hn with rfl | hn
  · rfl
  · exact h n hn

end Go.Proofs.YtbacpnopklkadaaDoor
