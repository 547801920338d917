/- Contracts of the model of chapter 2: sums of pieces. Contracts of the model of chapter 2: the bytes of leaves and nodes, and their sums. -/
import Derived.Test.YtkjhcblfkpknlaaDoorBytes
import Derived.Test.YtkjhcblfkpknlaaDoorKeep
import Derived.Test.YtkjhcblfkpknlaaDoorIn
namespace Go.Proofs.YtkjhcblfkpknlaaDoor
open Go.ChangeShapes Go.WideShapes Go.ChangeAt Go.RowKit
set_option linter.unusedVariables false
set_option linter.unusedSimpArgs false

def sumStep (n b : Int) : Int := (n * 137 + b + 1) % 65521
def sumL (zs : List Int) : Int := zs.foldl sumStep 11
theorem sum_bd (zs : List Int) : 0 ≤ sumL zs ∧ sumL zs ≤ 65520 := by
  unfold sumL
  have : ∀ (l : List Int) (n : Int), 0 ≤ n ∧ n ≤ 65520 → 0 ≤ l.foldl sumStep n ∧ l.foldl sumStep n ≤ 65520 := by
    intro l
    induction l with
    | nil => intro n h; exact h
    | cons x l ih => intro n h; exact ih _ (by unfold sumStep; omega)
  exact this zs 11 (by omega)
theorem sum_succ (zs : List Int) (k : Nat) (h : k < zs.length) : sumL (zs.take (k + 1)) = (sumL (zs.take k) * 137 + zs[k] + 1) % 65521 := by
  unfold sumL; rw [List.take_succ_eq_append_getElem h, List.foldl_append]; rfl

theorem l2Sum_any (a : Option Addr) (cap : Nat) (zs : List Int) (w : World) (h : Has w .u8 a zs.length zs) (hl : zs.length ≤ 2097152) :
    Calls Tryd.prog 67 #[.slice a zs.length cap] w fun r w' => r = .returned (.int .i64 (sumL zs)) ∧ w' = w := by
  obtain ⟨_, hwf, hc⟩ := h
  rcases hc with h0 | ⟨b, off, rfl, hb, hcell⟩
  · obtain rfl : zs = [] := List.eq_nil_of_length_eq_zero h0
    clear h0
    simp only [List.length_nil]
    go_enter Tryd.func67, Tryd.ntmps67
    go_wp2
    refine wp_loop_rounds 1 ?_
    rw [rounds_succ]
    go_wp2
    go_ret
    exact ⟨rfl, rfl⟩
  · have hall : sumL (zs.take zs.length) = sumL zs := by rw [List.take_length]
    have HA : Hid (_) := hall
    clear hall
    go_enter Tryd.func67, Tryd.ntmps67
    go_wp2
    go_loop [3, 4] (fun n i => ∃ k : Nat, k ≤ zs.length ∧ i = .int .i64 k ∧ n = .int .i64 (sumL (zs.take k))) (fun _ i => zs.length - (intOf i).toNat)
    case atStart => exact ⟨0, Nat.zero_le _, rfl, rfl⟩
    case round =>
      obtain ⟨k, hk, rfl, rfl⟩ := hrel
      have hs := sum_bd (zs.take k)
      by_cases hlt : k < zs.length
      · have hx : w.cell? ⟨b, off + k, none⟩ = some (.int .u8 zs[k]) := by rw [hcell k hlt]; simp [List.getD, hlt]
        have hxb := bounds_u8 (hwf zs[k] (List.getElem_mem hlt))
        have HS : Hid (_) := sum_succ zs k hlt
        have hlt' : (k : Int) < (zs.length : Int) := by omega
        generalize zs[k] = x at hx hxb HS
        generalize sumL (zs.take k) = n at hs HS
        clear hcell hwf
        go_wp2
        go_round
        case rel => exact ⟨k + 1, by omega, by go_num, by rw [HS.out]⟩
        case measure => simp [intOf]; omega
      · have hkk : k = zs.length := by omega
        have HK : Hid (k = zs.length) := hkk
        clear hkk
        go_wp2
        go_ret
        exact ⟨ret_int (by rw [HK.out, HA.out]), rfl⟩

theorem Has.news {w : World} {k : IntKind} {ad : Addr} {zs : List Int} (h : Has w k (some ad) zs.length zs) : ∀ (j : Nat) (u : Value), (zs.map (.int k))[j]? = some u → w.cell? (ad.add j) = some u := by
  intro j u hu
  have hj : j < zs.length := by
    rcases Nat.lt_or_ge j zs.length with c | c
    · exact c
    · rw [List.getElem?_eq_none (by simpa using c)] at hu; cases hu
  rcases h.2.2 with c | ⟨b, off, hb, _, hc⟩
  · omega
  · have e := hc j hj
    simp at hb
    subst hb
    have hu' : Value.int k zs[j] = u := by simpa [hj] using hu
    rw [← hu']
    by_cases h0 : j = 0
    · subst h0; simpa [Addr.add, List.getD, hj] using e
    · simpa [Addr.add, List.getD, hj, h0] using e

end Go.Proofs.YtkjhcblfkpknlaaDoor

namespace Go.Proofs.YtkjhcblfkpknlaaDoor
open Go.ChangeShapes Go.WideShapes Go.ChangeAt Go.RowKit
set_option linter.unusedVariables false
set_option linter.unusedSimpArgs false

theorem own_row_shape {w : World} {base e n : Nat} {v : Value} {xs : List Value} (h : w.ownsRow base e 1 v n xs) : ∃ a c, v = .slice a n c := by
  rcases h.2 with ⟨rfl, h0⟩ | ⟨g, cap, cur, rfl, _⟩
  · exact ⟨none, 0, by rw [h0]⟩
  · exact ⟨_, cap, rfl⟩
theorem has_of_own {w : World} {base e n : Nat} {a : Option Addr} {c : Nat} {zs : List Int} {k : IntKind} (h : w.ownsRow base e 1 (.slice a n c) n (zs.map (.int k))) (hw : ∀ n ∈ zs, (Lit.int k n).wf = true) : Has w k a zs.length zs := by
  have hl : zs.length = n := by have := h.1; simpa using this
  subst hl
  rcases h.2 with ⟨e1, h0⟩ | ⟨g, cap, cur, e1, hb, hg, h1, h2, h3, h4⟩
  · exact ⟨rfl, hw, .inl h0⟩
  · simp at e1
    obtain ⟨rfl, rfl⟩ := e1
    exact Has.of_own h (Array.getElem?_eq_some_iff.1 hg).1 hw

theorem two_new (w : World) (x y : Value) (T : Nat) : ∀ (j : Nat) (u : Value), [x, y][j]? = some u → (w.alloc (.cells #[x, y] T)).cell? ((⟨w.heap.size, 0, none⟩ : Addr).add j) = some u := by
  intro j u hj
  match j, hj with
  | 0, hj => simp at hj; subst hj; simp [Addr.add]
  | 1, hj => simp at hj; subst hj; simp [Addr.add]

theorem l2Two_any (v : Int) (w : World) (h0 : 0 ≤ v) (h1 : v ≤ 65535) :
    Calls Tryd.prog 114 #[.int .i64 v] w fun r w' => r = .returned (.slice (some ⟨w.heap.size, 0, none⟩) 2 2) ∧ w' = w.alloc (.cells #[.int .u8 (v / 256), .int .u8 (v % 256)] 5) := by
  go_enter Tryd.func114, Tryd.ntmps114
  go_wp2
  go_ret
  exact ⟨rfl, rfl⟩

/-- The bytes of a leaf. -/
def leafL (zs : List Int) : List Int := 0 :: zs
/-- The bytes of a node. -/
def nodeL (a b : Int) : List Int := [1, a / 256, a % 256, b / 256, b % 256]

set_option maxHeartbeats 1000000 in
theorem l2Leaf_any (a : Option Addr) (cap : Nat) (zs : List Int) (w : World) (h : Has w .u8 a zs.length zs) (hl : zs.length ≤ 2097152) :
    Calls Tryd.prog 68 #[.slice a zs.length cap] w fun r w' => ∃ a' c', r = .returned (.slice a' (zs.length + 1) c') ∧ w'.ownsRow w.heap.size 5 1 (.slice a' (zs.length + 1) c') (zs.length + 1) ((leafL zs).map (.int .u8)) ∧ Below w.heap.size w w' := by
  obtain ⟨i0, hi, hz0, hz1, hz2⟩ := info_parts info8
  have hown0 : (w.alloc (.cells #[.int .u8 0] 5)).ownsRow w.heap.size 5 1 (.slice (some ⟨w.heap.size, 0, none⟩) 1 1) 1 [.int .u8 0] := World.ownsRow_lit w #[.int .u8 0] 1 (Nat.le_refl _) (by unfold maxLen; omega) rfl
  have h' := h.alloc (.cells #[.int .u8 0] 5)
  cases a with
  | none =>
    have h0 : zs.length = 0 := by
      rcases h.2.2 with c | ⟨_, _, c, _⟩
      · exact c
      · cases c
    obtain rfl : zs = [] := List.eq_nil_of_length_eq_zero h0
    clear h0 h h'
    simp only [List.length_nil]
    go_enter Tryd.func68, Tryd.ntmps68
    go_wp2
    go_ret
    exact ⟨_, _, rfl, hown0, (Below.refl _ _).alloc (Nat.le_refl _) _⟩
  | some ad =>
    have H1 : Hid (∀ j u, (zs.map (.int .u8))[j]? = some u → (w.alloc (.cells #[.int .u8 0] 5)).cell? (ad.add j) = some u) := h'.news
    clear h h'
    go_enter Tryd.func68, Tryd.ntmps68
    go_wp2_with (at_builtin; (refine wpList_append_own _ rfl _ _ 22 rfl w.heap.size 5 i0 (.int .u8 0) 1 1 Tryd.underlying22 hi hz0 hz1 hz2 rfl (by decide) _ _ _ rfl hown0 ad zs.length cap (zs.map (.int .u8)) rfl (by simp) H1.out (by intro u hu; simp at hu; obtain ⟨n, _, rfl⟩ := hu; rfl) (by unfold maxLen; omega) (by omega) (by simp) ?_); intro v' w3 hown3 hgrow _h4)
    go_ret
    have hb3 := ((Below.refl w.heap.size w).alloc (Nat.le_refl _) _).trans ((Below.refl _ _).grown hgrow (by simp) (fun k hk => (hown0.lt k hk).1))
    have hown4 : w3.ownsRow w.heap.size 5 1 v' (zs.length + 1) ((leafL zs).map (.int .u8)) := by
      have e : 1 + zs.length = zs.length + 1 := by omega
      rw [e] at hown3
      simpa [leafL] using hown3
    obtain ⟨a', c', rfl⟩ := own_row_shape hown4
    exact ⟨a', c', rfl, hown4, hb3⟩

set_option maxHeartbeats 1000000 in
theorem l2Node_any (a b : Int) (w : World) (a0 : 0 ≤ a) (a1 : a ≤ 65535) (b0 : 0 ≤ b) (b1 : b ≤ 65535) :
    Calls Tryd.prog 111 #[.int .i64 a, .int .i64 b] w fun r w' => ∃ a' c', r = .returned (.slice a' 5 c') ∧ w'.ownsRow w.heap.size 5 1 (.slice a' 5 c') 5 ((nodeL a b).map (.int .u8)) ∧ Below w.heap.size w w' := by
  obtain ⟨i0, hi, hz0, hz1, hz2⟩ := info_parts info8
  have hown0 : (w.alloc (.cells #[.int .u8 1] 5)).ownsRow w.heap.size 5 1 (.slice (some ⟨w.heap.size, 0, none⟩) 1 1) 1 [.int .u8 1] := World.ownsRow_lit w #[.int .u8 1] 1 (Nat.le_refl _) (by unfold maxLen; omega) rfl
  go_enter Tryd.func111, Tryd.ntmps111
  go_wp2_with fail
  refine (l2Two_any a _ a0 a1).mono ?_
  rintro r u1 ⟨rfl, rfl⟩
  go_wp2_with (at_builtin; refine wpList_append_own _ rfl _ _ 22 rfl w.heap.size 5 i0 (.int .u8 0) 1 1 Tryd.underlying22 hi hz0 hz1 hz2 rfl (by decide) _ _ _ rfl (hown0.alloc _) ⟨w.heap.size + 1, 0, none⟩ 2 2 [.int .u8 (a / 256), .int .u8 (a % 256)] rfl (by simp) (by simpa using two_new (w.alloc (.cells #[.int .u8 1] 5)) (.int .u8 (a / 256)) (.int .u8 (a % 256)) 5) (by intro u hu; simp at hu; rcases hu with rfl | rfl <;> rfl) (by unfold maxLen; omega) (by omega) (by simp; omega) ?_; intro v1 w1 hown1 hgrow1 _h1)
  have hb1 := (((Below.refl w.heap.size w).alloc (Nat.le_refl _) _).alloc (by simp) _).trans ((Below.refl _ _).grown hgrow1 (by simp; omega) (fun k hk => (hown0.lt k hk).1))
  have hz1' := hb1.size
  clear hgrow1 _h1
  refine (l2Two_any b _ b0 b1).mono ?_
  rintro r u2 ⟨rfl, rfl⟩
  go_wp2_with (at_builtin; refine wpList_append_own _ rfl _ _ 22 rfl w.heap.size 5 i0 (.int .u8 0) 1 1 Tryd.underlying22 hi hz0 hz1 hz2 rfl (by decide) v1 3 _ rfl (hown1.alloc _) ⟨w1.heap.size, 0, none⟩ 2 2 [.int .u8 (b / 256), .int .u8 (b % 256)] rfl (by simp) (two_new w1 _ _ _) (by intro u hu; simp at hu; rcases hu with rfl | rfl <;> rfl) (by unfold maxLen; omega) (by omega) (by simp; omega) ?_; intro v2 w2 hown2 hgrow2 _h2)
  go_ret
  have hb2 := (hb1.alloc hz1' (.cells #[.int .u8 (b / 256), .int .u8 (b % 256)] 5)).trans ((Below.refl w.heap.size _).grown hgrow2 (by simp; omega) (fun k hk => (hown1.lt k hk).1))
  have hown4 : w2.ownsRow w.heap.size 5 1 v2 5 ((nodeL a b).map (.int .u8)) := by simpa [nodeL] using hown2
  obtain ⟨a', c', rfl⟩ := own_row_shape hown4
  exact ⟨a', c', rfl, hown4, hb2⟩

theorem wf_u8 {x : Int} (h0 : 0 ≤ x) (h1 : x ≤ 255) : (Lit.int .u8 x).wf = true := WalkArith.wf_u8 ⟨h0, h1⟩
theorem node_wf {a b : Int} (a0 : 0 ≤ a) (a1 : a ≤ 65535) (b0 : 0 ≤ b) (b1 : b ≤ 65535) : ∀ n ∈ nodeL a b, (Lit.int .u8 n).wf = true := by
  intro n hn
  simp [nodeL] at hn
  exact wf_u8 (by omega) (by omega)
theorem leaf_wf {zs : List Int} (h : ∀ n ∈ zs, (Lit.int .u8 n).wf = true) : ∀ n ∈ leafL zs, (Lit.int .u8 n).wf = true := by
  intro n hn
  simp [leafL] at hn
  rcases hn with rfl | hn
  · rfl
  · exact h n hn

theorem l2NodeSum_any (a b : Int) (w : World) (a0 : 0 ≤ a) (a1 : a ≤ 65535) (b0 : 0 ≤ b) (b1 : b ≤ 65535) :
    Calls Tryd.prog 99 #[.int .i64 a, .int .i64 b] w fun r w' => r = .returned (.int .i64 (sumL (nodeL a b))) ∧ Below w.heap.size w w' := by
  go_enter Tryd.func99, Tryd.ntmps99
  go_wp2_with fail
  refine (l2Node_any a b _ a0 a1 b0 b1).mono ?_
  rintro r u1 ⟨a', c', rfl, hown, hb1⟩
  have H := has_of_own hown (node_wf a0 a1 b0 b1)
  go_wp2_with fail
  refine (l2Sum_any a' c' (nodeL a b) _ H (by simp [nodeL])).mono ?_
  rintro r u2 ⟨rfl, rfl⟩
  go_wp2
  go_ret
  exact ⟨rfl, hb1⟩

theorem l2Is_any (v : Int) (w : World) : Calls Tryd.prog 87 #[.int .i64 v] w fun r w' => r = .returned (.bool (decide (0 ≤ v ∧ v ≤ 65520))) ∧ w' = w := by
  go_enter Tryd.func87, Tryd.ntmps87
  go_wp2_with (go_at_call 75; refine (in_any _ _ _ _).mono ?_; rintro r u ⟨rfl, rfl⟩)
  go_ret
  exact ⟨ret_bool (by simp), rfl⟩

set_option maxHeartbeats 1000000 in
theorem specLeafSum_any (a : Option Addr) (cap : Nat) (zs : List Int) (w : World) (h : Has w .u8 a zs.length zs) (hl : zs.length ≤ 1048576) :
    Calls Tryd.prog 73 #[.slice a zs.length cap] w fun r w' => r = .returned (.agg #[.int .i64 (if 250 < zs.length then 2 else 0), .int .i64 (if 250 < zs.length then 0 else sumL (leafL zs))]) ∧ Below w.heap.size w w' := by
  have h' := h.alloc (.cells #[.int .i64 0, .int .i64 0] 33)
  by_cases hb : 250 < zs.length
  · rw [if_pos hb, if_pos hb]
    have hb' : (250 : Int) < (zs.length : Int) := by omega
    go_enter Tryd.func73, Tryd.ntmps73
    go_wp2
    refine bodyPost_ret (v := .agg #[.int .i64 2, .int .i64 0]) (by simp [results, Tryd.results73, go_sem]) rfl ⟨rfl, ?_⟩
    repeat (first | exact Below.refl _ _ | refine Below.alloc ?_ (by (try simp) <;> omega) _ | refine Below.setCell ?_ (by (try simp) <;> omega) _)
  · rw [if_neg hb, if_neg hb]
    have hb' : (zs.length : Int) ≤ 250 := by omega
    go_enter Tryd.func73, Tryd.ntmps73
    go_wp2_with fail
    refine (l2Leaf_any a cap zs _ h' (by omega)).mono ?_
    rintro r u1 ⟨a', c', rfl, hown, hb1⟩
    have H := has_of_own hown (leaf_wf h.2.1)
    have hz1 := hb1.size
    simp at hz1
    obtain ⟨hc1, hf1⟩ := bcell hb1
    go_wp2_with fail
    refine (l2Sum_any a' c' (leafL zs) _ H (by simp [leafL]; omega)).mono ?_
    rintro r u2 ⟨rfl, rfl⟩
    go_wp2
    refine bodyPost_ret (v := .agg #[.int .i64 0, .int .i64 (sumL (leafL zs))]) (by simp [results, Tryd.results73, go_sem, hc1]) rfl ⟨rfl, ?_⟩
    repeat (first | exact Below.refl _ _ | (refine Below.alloc ?_ (by (try simp) <;> omega) _) | (refine Below.setCell ?_ (by (try simp) <;> omega) _) | (refine Below.trans ?_ (hb1.mono (by (try simp) <;> omega))))

end Go.Proofs.YtkjhcblfkpknlaaDoor
