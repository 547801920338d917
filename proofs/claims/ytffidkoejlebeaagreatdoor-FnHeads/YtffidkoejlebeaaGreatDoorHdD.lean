/- Contracts of the model of chapter 2: sums of pieces. Contracts of the model of chapter 2: the bytes of leaves and nodes, and their sums. Contracts of the program's chapter 2: the sum of a piece. Contracts of the program's chapter 2: pieces laid together out of parts. Contracts of the program's chapter 2: the bytes of leaves, nodes and slots, and their sums. Contracts of the program's chapter 2: the sums of leaves, nodes and slots. Contracts: the model's climbing of a path. What RootOf and PathOf come to, plain. What chapter 5's functions come to, plain: GrowthOf, StepsOf, GrowRoots, AcceptGrowth; and that a growth is taken. Contracts: the model's ClimbPath. Plain facts of chapter 8: secrets, public numbers, keys, signatures and what opens them. Plain facts on heads: their fault, their bytes, what is read; the fault of a signed one. -/
import Derived.Test.YtffidkoejlebeaaGreatDoorRegB
import Derived.Test.YtffidkoejlebeaaGreatDoorKyH
namespace Go.Proofs.YtffidkoejlebeaaGreatDoor
open Go.ChangeShapes Go.WideShapes Go.ChangeAt Go.RowKit
set_option linter.unusedVariables false
set_option linter.unusedSimpArgs false

def sumStep (n b : Int) : Int := (n * 137 + b + 1) % 65521
def sumL (zs : List Int) : Int := zs.foldl sumStep 11
theorem sum_bd (zs : List Int) : 0 ≤ sumL zs ∧ sumL zs ≤ 65520 := by
  unfold sumL
  have : ∀ (l : List Int) (n : Int), 0 ≤ n ∧ n ≤ 65520 → 0 ≤ l.foldl sumStep n ∧ l.foldl sumStep n ≤ 65520 := by
    intro l
    induction l with
    | nil => intro n h; exact h
    | cons x l ih => intro n h; exact ih _ (by unfold sumStep; omega)
  exact this zs 11 (by omega)
theorem sum_succ (zs : List Int) (k : Nat) (h : k < zs.length) : sumL (zs.take (k + 1)) = (sumL (zs.take k) * 137 + zs[k] + 1) % 65521 := by
  unfold sumL; rw [List.take_succ_eq_append_getElem h, List.foldl_append]; rfl

theorem l2Sum_any (a : Option Addr) (cap : Nat) (zs : List Int) (w : World) (h : Has w .u8 a zs.length zs) (hl : zs.length ≤ 2097152) :
    Calls Tryz.prog 70 #[.slice a zs.length cap] w fun r w' => r = .returned (.int .i64 (sumL zs)) ∧ w' = w := by
  obtain ⟨_, hwf, hc⟩ := h
  rcases hc with h0 | ⟨b, off, rfl, hb, hcell⟩
  · obtain rfl : zs = [] := List.eq_nil_of_length_eq_zero h0
    clear h0
    simp only [List.length_nil]
    go_enter Tryz.func70, Tryz.ntmps70
    go_wp2
    refine wp_loop_rounds 1 ?_
    rw [rounds_succ]
    go_wp2
    go_ret
    exact ⟨rfl, rfl⟩
  · have hall : sumL (zs.take zs.length) = sumL zs := by rw [List.take_length]
    have HA : Hid (_) := hall
    clear hall
    go_enter Tryz.func70, Tryz.ntmps70
    go_wp2
    go_loop [3, 4] (fun n i => ∃ k : Nat, k ≤ zs.length ∧ i = .int .i64 k ∧ n = .int .i64 (sumL (zs.take k))) (fun _ i => zs.length - (intOf i).toNat)
    case atStart => exact ⟨0, Nat.zero_le _, rfl, rfl⟩
    case round =>
      obtain ⟨k, hk, rfl, rfl⟩ := hrel
      have hs := sum_bd (zs.take k)
      by_cases hlt : k < zs.length
      · have hx : w.cell? ⟨b, off + k, none⟩ = some (.int .u8 zs[k]) := by rw [hcell k hlt]; simp [List.getD, hlt]
        have hxb := bounds_u8 (hwf zs[k] (List.getElem_mem hlt))
        have HS : Hid (_) := sum_succ zs k hlt
        have hlt' : (k : Int) < (zs.length : Int) := by omega
        generalize zs[k] = x at hx hxb HS
        generalize sumL (zs.take k) = n at hs HS
        clear hcell hwf
        go_wp2
        go_round
        case rel => exact ⟨k + 1, by omega, by go_num, by rw [HS.out]⟩
        case measure => simp [intOf]; omega
      · have hkk : k = zs.length := by omega
        have HK : Hid (k = zs.length) := hkk
        clear hkk
        go_wp2
        go_ret
        exact ⟨ret_int (by rw [HK.out, HA.out]), rfl⟩

theorem Has.news {w : World} {k : IntKind} {ad : Addr} {zs : List Int} (h : Has w k (some ad) zs.length zs) : ∀ (j : Nat) (u : Value), (zs.map (.int k))[j]? = some u → w.cell? (ad.add j) = some u := by
  intro j u hu
  have hj : j < zs.length := by
    rcases Nat.lt_or_ge j zs.length with c | c
    · exact c
    · rw [List.getElem?_eq_none (by simpa using c)] at hu; cases hu
  rcases h.2.2 with c | ⟨b, off, hb, _, hc⟩
  · omega
  · have e := hc j hj
    simp at hb
    subst hb
    have hu' : Value.int k zs[j] = u := by simpa [hj] using hu
    rw [← hu']
    by_cases h0 : j = 0
    · subst h0; simpa [Addr.add, List.getD, hj] using e
    · simpa [Addr.add, List.getD, hj, h0] using e

end Go.Proofs.YtffidkoejlebeaaGreatDoor

namespace Go.Proofs.YtffidkoejlebeaaGreatDoor
open Go.ChangeShapes Go.WideShapes Go.ChangeAt Go.RowKit
set_option linter.unusedVariables false
set_option linter.unusedSimpArgs false

theorem own_row_shape {w : World} {base e n : Nat} {v : Value} {xs : List Value} (h : w.ownsRow base e 1 v n xs) : ∃ a c, v = .slice a n c := by
  rcases h.2 with ⟨rfl, h0⟩ | ⟨g, cap, cur, rfl, _⟩
  · exact ⟨none, 0, by rw [h0]⟩
  · exact ⟨_, cap, rfl⟩
theorem has_of_own {w : World} {base e n : Nat} {a : Option Addr} {c : Nat} {zs : List Int} {k : IntKind} (h : w.ownsRow base e 1 (.slice a n c) n (zs.map (.int k))) (hw : ∀ n ∈ zs, (Lit.int k n).wf = true) : Has w k a zs.length zs := by
  have hl : zs.length = n := by have := h.1; simpa using this
  subst hl
  rcases h.2 with ⟨e1, h0⟩ | ⟨g, cap, cur, e1, hb, hg, h1, h2, h3, h4⟩
  · exact ⟨rfl, hw, .inl h0⟩
  · simp at e1
    obtain ⟨rfl, rfl⟩ := e1
    exact Has.of_own h (Array.getElem?_eq_some_iff.1 hg).1 hw

theorem two_new (w : World) (x y : Value) (T : Nat) : ∀ (j : Nat) (u : Value), [x, y][j]? = some u → (w.alloc (.cells #[x, y] T)).cell? ((⟨w.heap.size, 0, none⟩ : Addr).add j) = some u := by
  intro j u hj
  match j, hj with
  | 0, hj => simp at hj; subst hj; simp [Addr.add]
  | 1, hj => simp at hj; subst hj; simp [Addr.add]

theorem l2Two_any (v : Int) (w : World) (h0 : 0 ≤ v) (h1 : v ≤ 65535) :
    Calls Tryz.prog 63 #[.int .i64 v] w fun r w' => r = .returned (.slice (some ⟨w.heap.size, 0, none⟩) 2 2) ∧ w' = w.alloc (.cells #[.int .u8 (v / 256), .int .u8 (v % 256)] 5) := by
  go_enter Tryz.func63, Tryz.ntmps63
  go_wp2
  go_ret
  exact ⟨rfl, rfl⟩

/-- The bytes of a leaf. -/
def leafL (zs : List Int) : List Int := 0 :: zs
/-- The bytes of a node. -/
def nodeL (a b : Int) : List Int := [1, a / 256, a % 256, b / 256, b % 256]

set_option maxHeartbeats 1000000 in
theorem l2Leaf_any (a : Option Addr) (cap : Nat) (zs : List Int) (w : World) (h : Has w .u8 a zs.length zs) (hl : zs.length ≤ 2097152) :
    Calls Tryz.prog 112 #[.slice a zs.length cap] w fun r w' => ∃ a' c', r = .returned (.slice a' (zs.length + 1) c') ∧ w'.ownsRow w.heap.size 5 1 (.slice a' (zs.length + 1) c') (zs.length + 1) ((leafL zs).map (.int .u8)) ∧ Below w.heap.size w w' := by
  obtain ⟨i0, hi, hz0, hz1, hz2⟩ := info_parts info8
  have hown0 : (w.alloc (.cells #[.int .u8 0] 5)).ownsRow w.heap.size 5 1 (.slice (some ⟨w.heap.size, 0, none⟩) 1 1) 1 [.int .u8 0] := World.ownsRow_lit w #[.int .u8 0] 1 (Nat.le_refl _) (by unfold maxLen; omega) rfl
  have h' := h.alloc (.cells #[.int .u8 0] 5)
  cases a with
  | none =>
    have h0 : zs.length = 0 := by
      rcases h.2.2 with c | ⟨_, _, c, _⟩
      · exact c
      · cases c
    obtain rfl : zs = [] := List.eq_nil_of_length_eq_zero h0
    clear h0 h h'
    simp only [List.length_nil]
    go_enter Tryz.func112, Tryz.ntmps112
    go_wp2
    go_ret
    exact ⟨_, _, rfl, hown0, (Below.refl _ _).alloc (Nat.le_refl _) _⟩
  | some ad =>
    have H1 : Hid (∀ j u, (zs.map (.int .u8))[j]? = some u → (w.alloc (.cells #[.int .u8 0] 5)).cell? (ad.add j) = some u) := h'.news
    clear h h'
    go_enter Tryz.func112, Tryz.ntmps112
    go_wp2_with (at_builtin; (refine wpList_append_own _ rfl _ _ 22 rfl w.heap.size 5 i0 (.int .u8 0) 1 1 Tryz.underlying22 hi hz0 hz1 hz2 rfl (by decide) _ _ _ rfl hown0 ad zs.length cap (zs.map (.int .u8)) rfl (by simp) H1.out (by intro u hu; simp at hu; obtain ⟨n, _, rfl⟩ := hu; rfl) (by unfold maxLen; omega) (by omega) (by simp) ?_); intro v' w3 hown3 hgrow _h4)
    go_ret
    have hb3 := ((Below.refl w.heap.size w).alloc (Nat.le_refl _) _).trans ((Below.refl _ _).grown hgrow (by simp) (fun k hk => (hown0.lt k hk).1))
    have hown4 : w3.ownsRow w.heap.size 5 1 v' (zs.length + 1) ((leafL zs).map (.int .u8)) := by
      have e : 1 + zs.length = zs.length + 1 := by omega
      rw [e] at hown3
      simpa [leafL] using hown3
    obtain ⟨a', c', rfl⟩ := own_row_shape hown4
    exact ⟨a', c', rfl, hown4, hb3⟩

set_option maxHeartbeats 1000000 in
theorem l2Node_any (a b : Int) (w : World) (a0 : 0 ≤ a) (a1 : a ≤ 65535) (b0 : 0 ≤ b) (b1 : b ≤ 65535) :
    Calls Tryz.prog 102 #[.int .i64 a, .int .i64 b] w fun r w' => ∃ a' c', r = .returned (.slice a' 5 c') ∧ w'.ownsRow w.heap.size 5 1 (.slice a' 5 c') 5 ((nodeL a b).map (.int .u8)) ∧ Below w.heap.size w w' := by
  obtain ⟨i0, hi, hz0, hz1, hz2⟩ := info_parts info8
  have hown0 : (w.alloc (.cells #[.int .u8 1] 5)).ownsRow w.heap.size 5 1 (.slice (some ⟨w.heap.size, 0, none⟩) 1 1) 1 [.int .u8 1] := World.ownsRow_lit w #[.int .u8 1] 1 (Nat.le_refl _) (by unfold maxLen; omega) rfl
  go_enter Tryz.func102, Tryz.ntmps102
  go_wp2_with fail
  refine (l2Two_any a _ a0 a1).mono ?_
  rintro r u1 ⟨rfl, rfl⟩
  go_wp2_with (at_builtin; refine wpList_append_own _ rfl _ _ 22 rfl w.heap.size 5 i0 (.int .u8 0) 1 1 Tryz.underlying22 hi hz0 hz1 hz2 rfl (by decide) _ _ _ rfl (hown0.alloc _) ⟨w.heap.size + 1, 0, none⟩ 2 2 [.int .u8 (a / 256), .int .u8 (a % 256)] rfl (by simp) (by simpa using two_new (w.alloc (.cells #[.int .u8 1] 5)) (.int .u8 (a / 256)) (.int .u8 (a % 256)) 5) (by intro u hu; simp at hu; rcases hu with rfl | rfl <;> rfl) (by unfold maxLen; omega) (by omega) (by simp; omega) ?_; intro v1 w1 hown1 hgrow1 _h1)
  have hb1 := (((Below.refl w.heap.size w).alloc (Nat.le_refl _) _).alloc (by simp) _).trans ((Below.refl _ _).grown hgrow1 (by simp; omega) (fun k hk => (hown0.lt k hk).1))
  have hz1' := hb1.size
  clear hgrow1 _h1
  refine (l2Two_any b _ b0 b1).mono ?_
  rintro r u2 ⟨rfl, rfl⟩
  go_wp2_with (at_builtin; refine wpList_append_own _ rfl _ _ 22 rfl w.heap.size 5 i0 (.int .u8 0) 1 1 Tryz.underlying22 hi hz0 hz1 hz2 rfl (by decide) v1 3 _ rfl (hown1.alloc _) ⟨w1.heap.size, 0, none⟩ 2 2 [.int .u8 (b / 256), .int .u8 (b % 256)] rfl (by simp) (two_new w1 _ _ _) (by intro u hu; simp at hu; rcases hu with rfl | rfl <;> rfl) (by unfold maxLen; omega) (by omega) (by simp; omega) ?_; intro v2 w2 hown2 hgrow2 _h2)
  go_ret
  have hb2 := (hb1.alloc hz1' (.cells #[.int .u8 (b / 256), .int .u8 (b % 256)] 5)).trans ((Below.refl w.heap.size _).grown hgrow2 (by simp; omega) (fun k hk => (hown1.lt k hk).1))
  have hown4 : w2.ownsRow w.heap.size 5 1 v2 5 ((nodeL a b).map (.int .u8)) := by simpa [nodeL] using hown2
  obtain ⟨a', c', rfl⟩ := own_row_shape hown4
  exact ⟨a', c', rfl, hown4, hb2⟩

theorem wf_u8 {x : Int} (h0 : 0 ≤ x) (h1 : x ≤ 255) : (Lit.int .u8 x).wf = true := WalkArith.wf_u8 ⟨h0, h1⟩
theorem node_wf {a b : Int} (a0 : 0 ≤ a) (a1 : a ≤ 65535) (b0 : 0 ≤ b) (b1 : b ≤ 65535) : ∀ n ∈ nodeL a b, (Lit.int .u8 n).wf = true := by
  intro n hn
  simp [nodeL] at hn
  exact wf_u8 (by omega) (by omega)
theorem leaf_wf {zs : List Int} (h : ∀ n ∈ zs, (Lit.int .u8 n).wf = true) : ∀ n ∈ leafL zs, (Lit.int .u8 n).wf = true := by
  intro n hn
  simp [leafL] at hn
  rcases hn with rfl | hn
  · rfl
  · exact h n hn

theorem l2NodeSum_any (a b : Int) (w : World) (a0 : 0 ≤ a) (a1 : a ≤ 65535) (b0 : 0 ≤ b) (b1 : b ≤ 65535) :
    Calls Tryz.prog 72 #[.int .i64 a, .int .i64 b] w fun r w' => r = .returned (.int .i64 (sumL (nodeL a b))) ∧ Below w.heap.size w w' := by
  go_enter Tryz.func72, Tryz.ntmps72
  go_wp2_with fail
  refine (l2Node_any a b _ a0 a1 b0 b1).mono ?_
  rintro r u1 ⟨a', c', rfl, hown, hb1⟩
  have H := has_of_own hown (node_wf a0 a1 b0 b1)
  go_wp2_with fail
  refine (l2Sum_any a' c' (nodeL a b) _ H (by simp [nodeL])).mono ?_
  rintro r u2 ⟨rfl, rfl⟩
  go_wp2
  go_ret
  exact ⟨rfl, hb1⟩

theorem l2Is_any (v : Int) (w : World) : Calls Tryz.prog 77 #[.int .i64 v] w fun r w' => r = .returned (.bool (decide (0 ≤ v ∧ v ≤ 65520))) ∧ w' = w := by
  go_enter Tryz.func77, Tryz.ntmps77
  go_wp2_with (go_at_call 61; refine (in_any _ _ _ _).mono ?_; rintro r u ⟨rfl, rfl⟩)
  go_ret
  exact ⟨ret_bool (by simp), rfl⟩

end Go.Proofs.YtffidkoejlebeaaGreatDoor

namespace Go.Proofs.YtffidkoejlebeaaGreatDoor
open Go.ChangeShapes Go.WideShapes Go.ChangeAt Go.RowKit
set_option linter.unusedVariables false
set_option linter.unusedSimpArgs false

/-- The code and the value of a sum. -/
def sumC (zs : List Int) : Int := if 300 < zs.length then 2 else 0
def sumV (zs : List Int) : Int := if 300 < zs.length then 0 else sumL zs

set_option maxHeartbeats 1000000 in
theorem implSumOf_any (a : Option Addr) (cap : Nat) (zs : List Int) (w : World) (h : Has w .u8 a zs.length zs) (hl : zs.length ≤ 2097152) :
    Calls Tryz.prog 15 #[.slice a zs.length cap] w fun r w' => r = .returned (.agg #[.int .i64 (sumC zs), .int .i64 (sumV zs)]) ∧ Below w.heap.size w w' := by
  have h' := h.alloc (.cells #[.int .i64 0, .int .i64 0] 45)
  unfold sumC sumV
  by_cases hb : 300 < zs.length
  · rw [if_pos hb, if_pos hb]
    have hb' : (300 : Int) < (zs.length : Int) := by omega
    go_enter Tryz.func15, Tryz.ntmps15
    go_wp2
    refine bodyPost_ret (v := .agg #[.int .i64 2, .int .i64 0]) (by simp [results, Tryz.results15, go_sem]) rfl ⟨rfl, ?_⟩
    repeat (first | exact Below.refl _ _ | refine Below.alloc ?_ (by (try simp) <;> omega) _ | refine Below.setCell ?_ (by (try simp) <;> omega) _)
  · rw [if_neg hb, if_neg hb]
    have hb' : (zs.length : Int) ≤ 300 := by omega
    have hall : sumL (zs.take zs.length) = sumL zs := by rw [List.take_length]
    have HA : Hid (_) := hall
    clear hall
    obtain ⟨_, hwf, hc⟩ := h'
    rcases hc with h0 | ⟨b, off, rfl, hbb, hcell⟩
    · obtain rfl : zs = [] := List.eq_nil_of_length_eq_zero h0
      clear h0
      simp only [List.length_nil]
      go_enter Tryz.func15, Tryz.ntmps15
      go_wp2
      refine wp_loop_rounds 1 ?_
      rw [rounds_succ]
      go_wp2
      refine bodyPost_ret (v := .agg #[.int .i64 0, .int .i64 11]) (by simp [results, Tryz.results15, go_sem]) rfl ⟨rfl, ?_⟩
      repeat (first | exact Below.refl _ _ | refine Below.alloc ?_ (by (try simp) <;> omega) _ | refine Below.setCell ?_ (by (try simp) <;> omega) _)
    · go_enter Tryz.func15, Tryz.ntmps15
      go_wp2
      go_loop [3, 12] (fun n i => ∃ k : Nat, k ≤ zs.length ∧ i = .int .i64 k ∧ n = .int .i64 (sumL (zs.take k))) (fun _ i => zs.length - (intOf i).toNat)
      case atStart => exact ⟨0, Nat.zero_le _, rfl, rfl⟩
      case round =>
        obtain ⟨k, hk, rfl, rfl⟩ := hrel
        have hs := sum_bd (zs.take k)
        by_cases hlt : k < zs.length
        · have hx : (w.alloc (.cells #[.int .i64 0, .int .i64 0] 45)).cell? ⟨b, off + k, none⟩ = some (.int .u8 zs[k]) := by rw [hcell k hlt]; simp [List.getD, hlt]
          have hxb := bounds_u8 (hwf zs[k] (List.getElem_mem hlt))
          have HS : Hid (_) := sum_succ zs k hlt
          have hlt' : (k : Int) < (zs.length : Int) := by omega
          generalize zs[k] = x at hx hxb HS
          generalize sumL (zs.take k) = n at hs HS
          clear hcell hwf
          go_wp2
          go_round
          case rel => exact ⟨k + 1, by omega, by go_num, by rw [HS.out]⟩
          case measure => simp [intOf]; omega
        · have hkk : k = zs.length := by omega
          have HK : Hid (k = zs.length) := hkk
          clear hkk
          go_wp2
          refine bodyPost_ret (v := .agg #[.int .i64 0, .int .i64 (sumL zs)]) (by simp [results, Tryz.results15, go_sem]; rw [HK.out, HA.out]) rfl ⟨rfl, ?_⟩
          repeat (first | exact Below.refl _ _ | refine Below.alloc ?_ (by (try simp) <;> omega) _ | refine Below.setCell ?_ (by (try simp) <;> omega) _)

end Go.Proofs.YtffidkoejlebeaaGreatDoor

namespace Go.Proofs.YtffidkoejlebeaaGreatDoor
open Go.ChangeShapes Go.WideShapes Go.ChangeAt Go.RowKit
set_option linter.unusedVariables false
set_option linter.unusedSimpArgs false

/-- The table of what begins a piece, as the program lays it. -/
def Tab (w : World) : Prop := 0 < w.heap.size ∧ ∀ i : Nat, i < 6 → w.cell? ⟨0, i, none⟩ = some (.int .u8 i)
theorem Tab.below {w w' : World} (h : Tab w) {B : Nat} (hb : Below B w w') (hB : w.heap.size ≤ B) : Tab w' :=
  ⟨Nat.lt_of_lt_of_le h.1 hb.size, fun i hi => (hb.cell (p := ⟨0, i, none⟩) (Nat.lt_of_lt_of_le h.1 hB)).trans (h.2 i hi)⟩
theorem Tab.alloc {w : World} (h : Tab w) (O : Obj) : Tab (w.alloc O) := h.below ((Below.refl _ _).alloc (Nat.le_refl _) O) (Nat.le_refl _)

/-- What begins a piece, and its parts: each an address, a capacity, its bytes. -/
def pieceL (kd : Nat) (ps : List (Option Addr × Nat × List Int)) : List Int := (kd : Int) :: (ps.map fun p => p.2.2).flatten
theorem pieceL_succ (kd : Nat) (ps : List (Option Addr × Nat × List Int)) (k : Nat) (h : k < ps.length) : pieceL kd (ps.take (k + 1)) = pieceL kd (ps.take k) ++ ps[k].2.2 := by
  unfold pieceL
  rw [List.take_succ_eq_append_getElem h, List.map_append, List.flatten_append]
  simp
theorem pieceL_le (kd : Nat) (ps : List (Option Addr × Nat × List Int)) (k : Nat) : (pieceL kd (ps.take k)).length ≤ (pieceL kd ps).length := by
  have e : pieceL kd ps = pieceL kd (ps.take k) ++ ((ps.drop k).map fun p => p.2.2).flatten := by
    have := List.take_append_drop k ps
    conv => lhs; rw [← this]
    unfold pieceL
    rw [List.map_append, List.flatten_append]
    rfl
  rw [e, List.length_append]
  omega

set_option maxHeartbeats 2000000 in
theorem pieceOf_any (kd : Nat) (hk : kd < 6) (ps : List (Option Addr × Nat × List Int)) (g : Nat) (w : World) (hT : Tab w) (hg : g < w.heap.size)
    (hcell : ∀ i (h : i < ps.length), w.cell? ⟨g, i, none⟩ = some (.slice ps[i].1 ps[i].2.2.length ps[i].2.1)) (hps : ∀ i (h : i < ps.length), Has w .u8 ps[i].1 ps[i].2.2.length ps[i].2.2) (hn : ps.length ≤ 100) (hl : (pieceL kd ps).length ≤ 2097152) :
    Calls Tryz.prog 37 #[.int .i64 kd, .slice (some ⟨g, 0, none⟩) ps.length ps.length] w fun r w' => ∃ a' c', r = .returned (.slice a' (pieceL kd ps).length c') ∧ w'.ownsRow w.heap.size 5 1 (.slice a' (pieceL kd ps).length c') (pieceL kd ps).length ((pieceL kd ps).map (.int .u8)) ∧ Below w.heap.size w w' := by
  obtain ⟨i0, hi, hz0, hz1, hz2⟩ := info_parts info8
  obtain ⟨t0, t1⟩ := hT
  have hown0 : (w.alloc (.cells #[.int .u8 kd] 5)).ownsRow w.heap.size 5 1 (.slice (some ⟨w.heap.size, 0, none⟩) 1 1) 1 [.int .u8 kd] := World.ownsRow_lit w #[.int .u8 kd] 1 (Nat.le_refl _) (by unfold maxLen; omega) rfl
  have hend : pieceL kd (ps.take ps.length) = pieceL kd ps := by rw [List.take_length]
  have HE : Hid (_) := hend
  have hstart : pieceL kd (ps.take 0) = [(kd : Int)] := by simp [pieceL]
  have HSt : Hid (_) := hstart
  clear hend hstart
  have hkk : (kd : Int) < 6 := by omega
  have ht : w.cell? ⟨0, kd, none⟩ = some (.int .u8 kd) := t1 kd hk
  clear t1
  have HL : Hid (_) := hl
  clear hl hk
  go_enter Tryz.func37, Tryz.ntmps37
  go_wp2
  go_loopw [5, 14] (fun v i wr => ∃ (k : Nat) (a' : Option Addr) (c' : Nat), k ≤ ps.length ∧ i = .int .i64 k ∧ v = .slice a' (pieceL kd (ps.take k)).length c' ∧ wr.ownsRow w.heap.size 5 1 (.slice a' (pieceL kd (ps.take k)).length c') (pieceL kd (ps.take k)).length ((pieceL kd (ps.take k)).map (.int .u8)) ∧ Below w.heap.size w wr) (fun _ i _ => ps.length - (intOf i).toNat)
  case atStart =>
    refine ⟨0, some ⟨w.heap.size, 0, none⟩, 1, Nat.zero_le _, rfl, ?_, ?_, ?_⟩
    · rw [HSt.out]; rfl
    · rw [HSt.out]; exact hown0
    · exact (Below.refl _ _).alloc (Nat.le_refl _) _
  case round =>
    obtain ⟨k, a', c', hk, rfl, rfl, hown, hbel⟩ := hrel
    by_cases hlt : k < ps.length
    · have hlt' : (k : Int) < (ps.length : Int) := by omega
      have hx : wr.cell? ⟨g, k, none⟩ = some (.slice ps[k].1 ps[k].2.2.length ps[k].2.1) := (hbel.cell (p := ⟨g, k, none⟩) hg).trans (hcell k hlt)
      have hh : Has wr .u8 ps[k].1 ps[k].2.2.length ps[k].2.2 := (hps k hlt).below hbel (Nat.le_refl _)
      have hS := pieceL_succ kd ps k hlt
      have hle := pieceL_le kd ps (k + 1)
      rw [hS, List.length_append] at hle
      have hln := HL.out
      have hpos : 0 < (pieceL kd (ps.take k)).length := by simp [pieceL]
      generalize ps[k] = p at hx hh hS hle
      obtain ⟨ad, cp, zs⟩ := p
      simp only at hx hh hS hle
      generalize pieceL kd (ps.take k) = cur at hown hS hle hpos
      have HS : Hid (_) := hS
      clear hS hcell hps ht hown0
      obtain ⟨gg, rfl, hcc⟩ : ∃ gg, a' = some ⟨gg, 0, none⟩ ∧ cur.length ≤ c' := by
        rcases hown.2 with ⟨e, e0⟩ | ⟨gg, _, _, e, _, _, e2, _⟩
        · omega
        · simp at e; exact ⟨gg, e.1, by omega⟩
      cases ad with
      | none =>
        have h0 : zs.length = 0 := by
          rcases hh.2.2 with c | ⟨_, _, c, _⟩
          · exact c
          · cases c
        obtain rfl : zs = [] := List.eq_nil_of_length_eq_zero h0
        clear h0 hh
        simp only [List.length_nil] at hx
        go_wp2
        go_roundw
        case rel =>
          refine ⟨k + 1, some ⟨gg, 0, none⟩, c', by omega, by go_num, ?_, ?_, hbel⟩
          · rw [HS.out, List.append_nil]
          · rw [HS.out, List.append_nil]; exact hown
        case measure => simp [intOf]; omega
      | some ad =>
        have H1 : Hid (∀ j u, (zs.map (.int .u8))[j]? = some u → wr.cell? (ad.add j) = some u) := hh.news
        clear hh
        go_wp2_with (at_builtin; (refine wpList_append_own _ rfl _ _ 22 rfl w.heap.size 5 i0 (.int .u8 0) 1 1 Tryz.underlying22 hi hz0 hz1 hz2 rfl (by decide) _ _ _ rfl hown ad zs.length cp (zs.map (.int .u8)) rfl (by simp) H1.out (by intro u hu; simp at hu; obtain ⟨n, _, rfl⟩ := hu; rfl) (by unfold maxLen; omega) (by omega) (by have := hbel.size; omega) ?_); intro v' w3 hown3 hgrow _h4)
        obtain ⟨a2, c2, rfl⟩ := own_row_shape hown3
        go_roundw
        case rel =>
          refine ⟨k + 1, a2, c2, by omega, by go_num, ?_, ?_, ?_⟩
          · rw [HS.out, List.length_append]
          · rw [HS.out, List.length_append, List.map_append]; exact hown3
          · exact hbel.grown hgrow hbel.size (fun k hk => (hown.lt k hk).1)
        case measure => simp [intOf]; omega
    · have hkk : k = ps.length := by omega
      have HK : Hid (k = ps.length) := hkk
      clear hkk
      go_wp2
      go_ret
      rw [HK.out, HE.out] at hown
      refine ⟨a', c', ?_, hown, hbel⟩
      rw [HK.out, HE.out]
      rfl

end Go.Proofs.YtffidkoejlebeaaGreatDoor

namespace Go.Proofs.YtffidkoejlebeaaGreatDoor
open Go.ChangeShapes Go.WideShapes Go.ChangeAt Go.RowKit
set_option linter.unusedVariables false
set_option linter.unusedSimpArgs false

theorem isSum_any (v : Int) (w : World) : Calls Tryz.prog 66 #[.int .i64 v] w fun r w' => r = .returned (.bool (decide (0 ≤ v ∧ v ≤ 65520))) ∧ w' = w := by
  by_cases h : 0 ≤ v
  · go_enter Tryz.func66, Tryz.ntmps66
    go_wp2
    go_ret
    exact ⟨ret_bool (by simp [h]), rfl⟩
  · go_enter Tryz.func66, Tryz.ntmps66
    go_wp2
    go_ret
    exact ⟨ret_bool (by simp; omega), rfl⟩

theorem twoBytes_any (v : Int) (w : World) (h0 : 0 ≤ v) (h1 : v ≤ 65535) :
    Calls Tryz.prog 38 #[.int .i64 v] w fun r w' => r = .returned (.slice (some ⟨w.heap.size, 0, none⟩) 2 2) ∧ w' = w.alloc (.cells #[.int .u8 (v / 256), .int .u8 (v % 256)] 5) := by
  go_enter Tryz.func38, Tryz.ntmps38
  go_wp2
  go_ret
  exact ⟨rfl, rfl⟩

/-- The code and the bytes of a leaf, of a node. -/
def leafC (zs : List Int) : Int := if 250 < zs.length then 2 else 0
def leafB (zs : List Int) : List Int := if 250 < zs.length then [] else leafL zs
def nodeC (a b : Int) : Int := if (0 ≤ a ∧ a ≤ 65520) ∧ 0 ≤ b ∧ b ≤ 65520 then 0 else 3
def nodeB (a b : Int) : List Int := if (0 ≤ a ∧ a ≤ 65520) ∧ 0 ≤ b ∧ b ≤ 65520 then nodeL a b else []
theorem leafB_wf {zs : List Int} (h : ∀ n ∈ zs, (Lit.int .u8 n).wf = true) : ∀ n ∈ leafB zs, (Lit.int .u8 n).wf = true := by
  unfold leafB
  split
  · simp
  · exact leaf_wf h
theorem nodeB_wf (a b : Int) : ∀ n ∈ nodeB a b, (Lit.int .u8 n).wf = true := by
  unfold nodeB
  split
  · exact node_wf (by omega) (by omega) (by omega) (by omega)
  · simp
theorem nil_own (w : World) (base e : Nat) : w.ownsRow base e 1 (.slice none 0 0) 0 (([] : List Int).map (.int .u8)) := ⟨rfl, .inl ⟨rfl, rfl⟩⟩
theorem own_set {w : World} {base e n g o : Nat} {a : Option Addr} {c : Nat} {xs : List Value} (h : w.ownsRow base e 1 (.slice a n c) n xs) (hg : g < base) (u : Value) : (w.setCell ⟨g, o, none⟩ u).ownsRow base e 1 (.slice a n c) n xs := by
  refine ⟨h.1, h.2.imp id ?_⟩
  rintro ⟨g', cap, cur, e1, e2, e3, e4⟩
  exact ⟨g', cap, cur, e1, e2, (Below.heap_setCell w ⟨g, o, none⟩ u g' (by show g' ≠ g; omega)).trans e3, e4⟩
theorem own_mono {w : World} {base base' e n : Nat} {v : Value} {xs : List Value} (h : w.ownsRow base e 1 v n xs) (hb : base' ≤ base) : w.ownsRow base' e 1 v n xs := by
  refine ⟨h.1, h.2.imp id ?_⟩
  rintro ⟨g', cap, cur, e1, e2, e4⟩
  exact ⟨g', cap, cur, e1, by omega, e4⟩

set_option maxHeartbeats 1000000 in
theorem implLeafBytes_any (a : Option Addr) (cap : Nat) (zs : List Int) (w : World) (hT : Tab w) (h : Has w .u8 a zs.length zs) :
    Calls Tryz.prog 120 #[.slice a zs.length cap] w fun r w' => ∃ a' c', r = .returned (.agg #[.int .i64 (leafC zs), .slice a' (leafB zs).length c']) ∧ w'.ownsRow w.heap.size 5 1 (.slice a' (leafB zs).length c') (leafB zs).length ((leafB zs).map (.int .u8)) ∧ Below w.heap.size w w' := by
  unfold leafC leafB
  by_cases hb : 250 < zs.length
  · rw [if_pos hb, if_pos hb]
    have hb' : (250 : Int) < (zs.length : Int) := by omega
    go_enter Tryz.func120, Tryz.ntmps120
    go_wp2
    refine bodyPost_ret (v := .agg #[.int .i64 2, .slice none 0 0]) (by simp [results, Tryz.results120, go_sem]) rfl ⟨_, _, rfl, nil_own _ _ _, ?_⟩
    repeat (first | exact Below.refl _ _ | refine Below.alloc ?_ (by (try simp) <;> omega) _ | refine Below.setCell ?_ (by (try simp) <;> omega) _)
  · rw [if_neg hb, if_neg hb]
    have hb' : (zs.length : Int) ≤ 250 := by omega
    have e : pieceL 0 [(a, cap, zs)] = leafL zs := by simp [pieceL, leafL]
    go_enter Tryz.func120, Tryz.ntmps120
    go_wp2_with fail
    refine (pieceOf_any 0 (by decide) [(a, cap, zs)] (w.heap.size + 1) _ ((hT.alloc _).alloc _) (by simp) (by intro i hi; obtain rfl : i = 0 := (by simpa using hi); simp [go_sem]) (by intro i hi; obtain rfl : i = 0 := (by simpa using hi); exact (h.alloc _).alloc _) (by simp) (by rw [e]; simp [leafL]; omega)).mono ?_
    rw [e]
    rintro r u1 ⟨a', c', rfl, hown, hb1⟩
    have hz1 := hb1.size
    simp at hz1
    obtain ⟨hc1, hf1⟩ := bcell hb1
    have r0 := hc1 w.heap.size 0 (by simp; omega)
    have r1 := hc1 w.heap.size 1 (by simp; omega)
    simp [go_sem] at r0 r1
    go_wp2
    refine bodyPost_ret (v := .agg #[.int .i64 0, .slice a' (leafL zs).length c']) (by simp [results, Tryz.results120, go_sem, r0, r1]) rfl ⟨_, _, rfl, ?_, ?_⟩
    · exact own_mono (own_set (own_set hown (by simp; omega) _) (by simp; omega) _) (by simp; omega)
    · repeat (first | exact Below.refl _ _ | (refine Below.alloc ?_ (by (try simp) <;> omega) _) | (refine Below.setCell ?_ (by (try simp) <;> omega) _) | (refine Below.trans ?_ (hb1.mono (by (try simp) <;> omega))))

theorem has_two (w : World) {x y : Int} (T : Nat) (hx : 0 ≤ x ∧ x ≤ 255) (hy : 0 ≤ y ∧ y ≤ 255) : Has (w.alloc (.cells #[.int .u8 x, .int .u8 y] T)) .u8 (some ⟨w.heap.size, 0, none⟩) [x, y].length [x, y] := by
  refine ⟨rfl, ?_, .inr ⟨w.heap.size, 0, rfl, by simp, ?_⟩⟩
  · intro n hn
    simp at hn
    rcases hn with rfl | rfl
    · exact wf_u8 hx.1 hx.2
    · exact wf_u8 hy.1 hy.2
  · intro i hi
    match i, hi with
    | 0, _ => simp [go_sem]
    | 1, _ => simp [go_sem]
theorem has_one (w : World) {x : Int} (T : Nat) (hx : 0 ≤ x ∧ x ≤ 255) : Has (w.alloc (.cells #[.int .u8 x] T)) .u8 (some ⟨w.heap.size, 0, none⟩) [x].length [x] := by
  refine ⟨rfl, ?_, .inr ⟨w.heap.size, 0, rfl, by simp, ?_⟩⟩
  · intro n hn
    simp at hn
    subst hn
    exact wf_u8 hx.1 hx.2
  · intro i hi
    match i, hi with
    | 0, _ => simp [go_sem]

set_option maxHeartbeats 2000000 in
theorem implNodeBytes_any (a b : Int) (w : World) (hT : Tab w) :
    Calls Tryz.prog 121 #[.int .i64 a, .int .i64 b] w fun r w' => ∃ a' c', r = .returned (.agg #[.int .i64 (nodeC a b), .slice a' (nodeB a b).length c']) ∧ w'.ownsRow w.heap.size 5 1 (.slice a' (nodeB a b).length c') (nodeB a b).length ((nodeB a b).map (.int .u8)) ∧ Below w.heap.size w w' := by
  unfold nodeC nodeB
  have tok1 : True := trivial
  by_cases ha : 0 ≤ a ∧ a ≤ 65520
  · have hda : decide (0 ≤ a ∧ a ≤ 65520) = true := by simpa using ha
    by_cases hb : 0 ≤ b ∧ b ≤ 65520
    · have hdb : decide (0 ≤ b ∧ b ≤ 65520) = true := by simpa using hb
      rw [if_pos ⟨ha, hb⟩, if_pos ⟨ha, hb⟩]
      have e : pieceL 1 [(some ⟨w.heap.size + 1, 0, none⟩, 2, [a / 256, a % 256]), (some ⟨w.heap.size + 1 + 1, 0, none⟩, 2, [b / 256, b % 256])] = nodeL a b := by simp [pieceL, nodeL]
      obtain ⟨a0, a1⟩ := ha
      obtain ⟨b0, b1⟩ := hb
      go_enter Tryz.func121, Tryz.ntmps121
      go_wp2_with (first | (go_at_call 66; have _t := tok1; refine (isSum_any a _).mono ?_; rintro r u ⟨rfl, rfl⟩; rw [hda]; clear tok1 _t) | (go_at_call 66; refine (isSum_any b _).mono ?_; rintro r u ⟨rfl, rfl⟩; rw [hdb]; have tok2 : True := trivial) | (go_at_call 38; have _t := tok2; refine (twoBytes_any a _ a0 (by omega)).mono ?_; rintro r u ⟨rfl, rfl⟩; clear tok2 _t) | (go_at_call 38; refine (twoBytes_any b _ b0 (by omega)).mono ?_; rintro r u ⟨rfl, rfl⟩))
      refine (pieceOf_any 1 (by decide) [(some ⟨w.heap.size + 1, 0, none⟩, 2, [a / 256, a % 256]), (some ⟨w.heap.size + 1 + 1, 0, none⟩, 2, [b / 256, b % 256])] (w.heap.size + 1 + 1 + 1) _ ((((hT.alloc _).alloc _).alloc _).alloc _) (by simp) ?hc ?hh (by simp) (by rw [e]; simp [nodeL])).mono ?_
      case hc =>
        intro i hi
        match i, hi with
        | 0, _ => simp [go_sem]
        | 1, _ => simp [go_sem]
      case hh =>
        intro i hi
        match i, hi with
        | 0, _ =>
          have hh0 := has_two (w.alloc (.cells #[.int .i64 0, .slice none 0 0] 32)) (x := a / 256) (y := a % 256) 5 (by omega) (by omega)
          have hh1 := (hh0.alloc (.cells #[.int .u8 (b / 256), .int .u8 (b % 256)] 5)).alloc (.cells #[.slice (some ⟨w.heap.size + 1, 0, none⟩) 2 2, .slice (some ⟨w.heap.size + 1 + 1, 0, none⟩) 2 2] 22)
          simpa using hh1
        | 1, _ =>
          have hh0 := has_two ((w.alloc (.cells #[.int .i64 0, .slice none 0 0] 32)).alloc (.cells #[.int .u8 (a / 256), .int .u8 (a % 256)] 5)) (x := b / 256) (y := b % 256) 5 (by omega) (by omega)
          have hh1 := hh0.alloc (.cells #[.slice (some ⟨w.heap.size + 1, 0, none⟩) 2 2, .slice (some ⟨w.heap.size + 1 + 1, 0, none⟩) 2 2] 22)
          simpa using hh1
      rw [e]
      rintro r u1 ⟨a', c', rfl, hown, hb1⟩
      have hz1 := hb1.size
      simp at hz1
      obtain ⟨hc1, hf1⟩ := bcell hb1
      have r0 := hc1 w.heap.size 0 (by simp; omega)
      have r1 := hc1 w.heap.size 1 (by simp; omega)
      have f0 := hf1 w.heap.size 0 (by simp; omega)
      have f1 := hf1 w.heap.size 1 (by simp; omega)
      simp [go_sem] at r0 r1 f0 f1
      go_wp2
      refine bodyPost_ret (v := .agg #[.int .i64 0, .slice a' (nodeL a b).length c']) (by simp [results, Tryz.results121, go_sem, r0, r1]) rfl ⟨_, _, rfl, ?_, ?_⟩
      · exact own_mono (own_set (own_set hown (by simp; omega) _) (by simp; omega) _) (by simp; omega)
      · repeat (first | exact Below.refl _ _ | (refine Below.alloc ?_ (by (try simp) <;> omega) _) | (refine Below.setCell ?_ (by (try simp) <;> omega) _) | (refine Below.trans ?_ (hb1.mono (by (try simp) <;> omega))))
    · have hdb : decide (0 ≤ b ∧ b ≤ 65520) = false := by simp; omega
      rw [if_neg (by omega), if_neg (by omega)]
      go_enter Tryz.func121, Tryz.ntmps121
      go_wp2_with (first | (go_at_call 66; have _t := tok1; refine (isSum_any a _).mono ?_; rintro r u ⟨rfl, rfl⟩; rw [hda]; clear tok1 _t) | (go_at_call 66; refine (isSum_any b _).mono ?_; rintro r u ⟨rfl, rfl⟩; rw [hdb]))
      refine bodyPost_ret (v := .agg #[.int .i64 3, .slice none 0 0]) (by simp [results, Tryz.results121, go_sem]) rfl ⟨_, _, rfl, nil_own _ _ _, ?_⟩
      repeat (first | exact Below.refl _ _ | refine Below.alloc ?_ (by (try simp) <;> omega) _ | refine Below.setCell ?_ (by (try simp) <;> omega) _)
  · have hda : decide (0 ≤ a ∧ a ≤ 65520) = false := by simp; omega
    rw [if_neg (by omega), if_neg (by omega)]
    go_enter Tryz.func121, Tryz.ntmps121
    go_wp2_with (go_at_call 66; refine (isSum_any a _).mono ?_; rintro r u ⟨rfl, rfl⟩; rw [hda])
    refine bodyPost_ret (v := .agg #[.int .i64 3, .slice none 0 0]) (by simp [results, Tryz.results121, go_sem]) rfl ⟨_, _, rfl, nil_own _ _ _, ?_⟩
    repeat (first | exact Below.refl _ _ | refine Below.alloc ?_ (by (try simp) <;> omega) _ | refine Below.setCell ?_ (by (try simp) <;> omega) _)

end Go.Proofs.YtffidkoejlebeaaGreatDoor

namespace Go.Proofs.YtffidkoejlebeaaGreatDoor
open Go.ChangeShapes Go.WideShapes Go.ChangeAt Go.RowKit
set_option linter.unusedVariables false
set_option linter.unusedSimpArgs false

/-- The codes and the values of the sums. -/
def leafV (zs : List Int) : Int := if 250 < zs.length then 0 else sumL (leafL zs)
def nodeV (a b : Int) : Int := if (0 ≤ a ∧ a ≤ 65520) ∧ 0 ≤ b ∧ b ≤ 65520 then sumL (nodeL a b) else 0
def slotL (k v : Int) : List Int := [2, k, v / 256, v % 256]
def slotC (k v : Int) : Int := if (0 ≤ k ∧ k ≤ 63) ∧ 0 ≤ v ∧ v ≤ 65520 then 0 else 3
def slotV (k v : Int) : Int := if (0 ≤ k ∧ k ≤ 63) ∧ 0 ≤ v ∧ v ≤ 65520 then sumL (slotL k v) else 0

set_option maxHeartbeats 1000000 in
theorem sumOfBytes_ok (a : Option Addr) (cap : Nat) (zs : List Int) (w : World) (h : Has w .u8 a zs.length zs) (hl : zs.length ≤ 300) :
    Calls Tryz.prog 78 #[.agg #[.int .i64 0, .slice a zs.length cap]] w fun r w' => r = .returned (.agg #[.int .i64 0, .int .i64 (sumL zs)]) ∧ Below w.heap.size w w' := by
  have e1 : sumC zs = 0 := by unfold sumC; rw [if_neg (by omega)]
  have e2 : sumV zs = sumL zs := by unfold sumV; rw [if_neg (by omega)]
  go_enter Tryz.func78, Tryz.ntmps78
  go_wp2_with fail
  refine (implSumOf_any a cap zs _ ((h.alloc _).alloc _) (by omega)).mono ?_
  rw [e1, e2]
  rintro r u1 ⟨rfl, hb1⟩
  have hz1 := hb1.size
  simp at hz1
  obtain ⟨hc1, hf1⟩ := bcell hb1
  have r0 := hc1 (w.heap.size + 1) 0 (by simp)
  have r1 := hc1 (w.heap.size + 1) 1 (by simp)
  have f0 := hf1 (w.heap.size + 1) 0 (by simp)
  have f1 := hf1 (w.heap.size + 1) 1 (by simp)
  simp [go_sem] at r0 r1 f0 f1
  go_wp2
  refine bodyPost_ret (v := .agg #[.int .i64 0, .int .i64 (sumL zs)]) (by simp [results, Tryz.results78, go_sem, r0, r1]) rfl ⟨rfl, ?_⟩
  repeat (first | exact Below.refl _ _ | (refine Below.alloc ?_ (by (try simp) <;> omega) _) | (refine Below.setCell ?_ (by (try simp) <;> omega) _) | (refine Below.trans ?_ (hb1.mono (by (try simp) <;> omega))))

theorem sumOfBytes_bad (c : Int) (hc : c ≠ 0) (v : Value) (hv : ∃ a n cap, v = .slice a n cap) (w : World) :
    Calls Tryz.prog 78 #[.agg #[.int .i64 c, v]] w fun r w' => r = .returned (.agg #[.int .i64 c, .int .i64 0]) ∧ Below w.heap.size w w' := by
  have hc' : (c != 0) = true := by simpa using hc
  obtain ⟨a, n, cap, rfl⟩ := hv
  clear hc
  go_enter Tryz.func78, Tryz.ntmps78
  go_wp2
  refine bodyPost_ret (v := .agg #[.int .i64 c, .int .i64 0]) (by simp [results, Tryz.results78, go_sem]) rfl ⟨rfl, ?_⟩
  repeat (first | exact Below.refl _ _ | refine Below.alloc ?_ (by (try simp) <;> omega) _ | refine Below.setCell ?_ (by (try simp) <;> omega) _)

set_option maxHeartbeats 1000000 in
theorem implLeafSum_any (a : Option Addr) (cap : Nat) (zs : List Int) (w : World) (hT : Tab w) (h : Has w .u8 a zs.length zs) :
    Calls Tryz.prog 116 #[.slice a zs.length cap] w fun r w' => r = .returned (.agg #[.int .i64 (leafC zs), .int .i64 (leafV zs)]) ∧ Below w.heap.size w w' := by
  have hS : ∀ (w1 : World) a' c', Has w1 .u8 a' (leafB zs).length (leafB zs) → Calls Tryz.prog 78 #[.agg #[.int .i64 (leafC zs), .slice a' (leafB zs).length c']] w1 fun r w' => r = .returned (.agg #[.int .i64 (leafC zs), .int .i64 (leafV zs)]) ∧ Below w1.heap.size w1 w' := by
    intro w1 a' c' H
    by_cases hb : 250 < zs.length
    · have e1 : leafC zs = 2 := by unfold leafC; rw [if_pos hb]
      have e2 : leafV zs = 0 := by unfold leafV; rw [if_pos hb]
      rw [e1, e2]
      exact sumOfBytes_bad 2 (by decide) _ ⟨_, _, _, rfl⟩ w1
    · have e1 : leafC zs = 0 := by unfold leafC; rw [if_neg hb]
      have e3 : leafB zs = leafL zs := by unfold leafB; rw [if_neg hb]
      have e2 : leafV zs = sumL (leafB zs) := by unfold leafV; rw [if_neg hb, e3]
      rw [e1, e2]
      exact sumOfBytes_ok a' c' (leafB zs) w1 H (by rw [e3]; simp [leafL]; omega)
  have HS : Hid (_) := hS
  clear hS
  go_enter Tryz.func116, Tryz.ntmps116
  go_wp2_with fail
  refine (implLeafBytes_any a cap zs _ (hT.alloc _) (h.alloc _)).mono ?_
  rintro r u1 ⟨a', c', rfl, hown, hb1⟩
  have H := has_of_own hown (leafB_wf h.2.1)
  have hz1 := hb1.size
  simp at hz1
  go_wp2_with fail
  refine (HS.out _ a' c' H).mono ?_
  rintro r u2 ⟨rfl, hb2⟩
  have hB := hb1.trans (hb2.mono hb1.size)
  obtain ⟨hc1, hf1⟩ := bcell hB
  have hz2 := hB.size
  simp at hz2
  go_wp2
  refine bodyPost_ret (v := .agg #[.int .i64 (leafC zs), .int .i64 (leafV zs)]) (by simp [results, Tryz.results116, go_sem, hc1]) rfl ⟨rfl, ?_⟩
  repeat (first | exact Below.refl _ _ | (refine Below.alloc ?_ (by (try simp) <;> omega) _) | (refine Below.setCell ?_ (by (try simp) <;> omega) _) | (refine Below.trans ?_ (hB.mono (by (try simp) <;> omega))))

set_option maxHeartbeats 1000000 in
theorem implNodeSum_any (a b : Int) (w : World) (hT : Tab w) :
    Calls Tryz.prog 119 #[.int .i64 a, .int .i64 b] w fun r w' => r = .returned (.agg #[.int .i64 (nodeC a b), .int .i64 (nodeV a b)]) ∧ Below w.heap.size w w' := by
  have hS : ∀ (w1 : World) a' c', Has w1 .u8 a' (nodeB a b).length (nodeB a b) → Calls Tryz.prog 78 #[.agg #[.int .i64 (nodeC a b), .slice a' (nodeB a b).length c']] w1 fun r w' => r = .returned (.agg #[.int .i64 (nodeC a b), .int .i64 (nodeV a b)]) ∧ Below w1.heap.size w1 w' := by
    intro w1 a' c' H
    by_cases hb : (0 ≤ a ∧ a ≤ 65520) ∧ 0 ≤ b ∧ b ≤ 65520
    · have e1 : nodeC a b = 0 := by unfold nodeC; rw [if_pos hb]
      have e3 : nodeB a b = nodeL a b := by unfold nodeB; rw [if_pos hb]
      have e2 : nodeV a b = sumL (nodeB a b) := by unfold nodeV; rw [if_pos hb, e3]
      rw [e1, e2]
      exact sumOfBytes_ok a' c' (nodeB a b) w1 H (by rw [e3]; simp [nodeL])
    · have e1 : nodeC a b = 3 := by unfold nodeC; rw [if_neg hb]
      have e2 : nodeV a b = 0 := by unfold nodeV; rw [if_neg hb]
      rw [e1, e2]
      exact sumOfBytes_bad 3 (by decide) _ ⟨_, _, _, rfl⟩ w1
  have HS : Hid (_) := hS
  clear hS
  go_enter Tryz.func119, Tryz.ntmps119
  go_wp2_with fail
  refine (implNodeBytes_any a b _ (hT.alloc _)).mono ?_
  rintro r u1 ⟨a', c', rfl, hown, hb1⟩
  have H := has_of_own hown (nodeB_wf a b)
  have hz1 := hb1.size
  simp at hz1
  go_wp2_with fail
  refine (HS.out _ a' c' H).mono ?_
  rintro r u2 ⟨rfl, hb2⟩
  have hB := hb1.trans (hb2.mono hb1.size)
  obtain ⟨hc1, hf1⟩ := bcell hB
  have hz2 := hB.size
  simp at hz2
  go_wp2
  refine bodyPost_ret (v := .agg #[.int .i64 (nodeC a b), .int .i64 (nodeV a b)]) (by simp [results, Tryz.results119, go_sem, hc1]) rfl ⟨rfl, ?_⟩
  repeat (first | exact Below.refl _ _ | (refine Below.alloc ?_ (by (try simp) <;> omega) _) | (refine Below.setCell ?_ (by (try simp) <;> omega) _) | (refine Below.trans ?_ (hB.mono (by (try simp) <;> omega))))

theorem slot_wf {k v : Int} (k0 : 0 ≤ k) (k1 : k ≤ 63) (v0 : 0 ≤ v) (v1 : v ≤ 65535) : ∀ n ∈ slotL k v, (Lit.int .u8 n).wf = true := by
  intro n hn
  simp [slotL] at hn
  exact wf_u8 (by omega) (by omega)

end Go.Proofs.YtffidkoejlebeaaGreatDoor

namespace Go.Proofs.YtffidkoejlebeaaGreatDoor
open Go.ChangeShapes Go.WideShapes Go.ChangeAt Go.RowKit
set_option linter.unusedVariables false
set_option linter.unusedSimpArgs false

/-- The sum of a node. -/
def nS (a b : Int) : Int := sumL (nodeL a b)
theorem nS_bd (a b : Int) : 0 ≤ nS a b ∧ nS a b ≤ 65520 := sum_bd _
theorem clM_bd (n : Nat) : ∀ (l a s : Int) (p : List Int), s.toNat ≤ n → 0 ≤ l → l ≤ 65520 → 0 ≤ clM nS l a s p ∧ clM nS l a s p ≤ 65520 := by
  intro l a s p _ h0 h1
  rw [clM]
  split
  · exact ⟨h0, h1⟩
  · split
    · exact nS_bd _ _
    · exact nS_bd _ _

set_option maxHeartbeats 1000000 in
theorem l4Steps_any (a0 s0 : Int) (w : World) (h1 : 0 ≤ a0) (h2 : a0 < s0) (h3 : s0 ≤ 32) :
    Calls Tryz.prog 115 #[.int .i64 a0, .int .i64 s0] w fun r w' => r = .returned (.int .i64 (stN a0 s0)) ∧ w' = w := by
  have hN : stN a0 s0 ≤ 100 := by
    have key : ∀ (n : Nat) (a s : Int), s.toNat ≤ n → stN a s ≤ n := by
      intro n
      induction n with
      | zero => intro a s h; rw [stN_le _ _ (by omega)]; omega
      | succ n ih =>
        intro a s h
        by_cases h1 : s ≤ 1
        · rw [stN_le _ _ h1]; omega
        · have hp := splN_pos s
          have hl := splN_lt (n := s) (by omega)
          by_cases h0 : a < splN s
          · rw [stN_lo (by omega) h0]; have := ih a (splN s) (by omega); omega
          · rw [stN_hi (by omega) h0]; have := ih (a - splN s) (s - splN s) (by omega); omega
    have := key s0.toNat a0 s0 (Nat.le_refl _)
    omega
  go_enter Tryz.func115, Tryz.ntmps115
  go_wp2
  go_loop [0, 1, 5] (fun x y z => ∃ (a s : Int) (n : Nat), 0 ≤ a ∧ a < s ∧ s ≤ 32 ∧ n + stN a s = stN a0 s0 ∧ x = .int .i64 a ∧ y = .int .i64 s ∧ z = .int .i64 n) (fun _ y _ => (intOf y).toNat)
  case atStart => exact ⟨a0, s0, 0, h1, h2, h3, by omega, rfl, rfl, rfl⟩
  case round =>
    obtain ⟨a, s, n, g1, g2, g3, hn, rfl, rfl, rfl⟩ := hrel
    have hn2 : n ≤ 100 := by omega
    have HN : Hid (n + stN a s = stN a0 s0) := hn
    clear hn hN h1 h2 h3
    by_cases hs : 1 < s
    · have hb := splN_bd (n := s) (by omega) g3
      obtain ⟨q1, q2, q3⟩ := hb
      by_cases ha : a < splN s
      · have HL : Hid (_) := stN_lo (a := a) (s := s) (by omega) ha
        go_wp2_with (go_at_call 71; refine (split_any s _ (by omega) (by omega)).mono ?_; rintro r u2 ⟨rfl, rfl⟩)
        go_round
        case rel => exact ⟨a, splN s, n + 1, g1, ha, by omega, by have := HN.out; rw [HL.out] at this; omega, rfl, rfl, by go_num⟩
        case measure => simp [intOf]; omega
      · have HL : Hid (_) := stN_hi (a := a) (s := s) (by omega) ha
        go_wp2_with (go_at_call 71; refine (split_any s _ (by omega) (by omega)).mono ?_; rintro r u2 ⟨rfl, rfl⟩)
        go_round
        case rel => exact ⟨a - splN s, s - splN s, n + 1, by omega, by omega, by omega, by have := HN.out; rw [HL.out] at this; omega, rfl, rfl, by go_num⟩
        case measure => simp [intOf]; omega
    · go_wp2
      go_ret
      refine ⟨ret_int ?_, rfl⟩
      have := HN.out
      rw [stN_le a s (by omega)] at this
      omega

theorem Has.init {w : World} {k : IntKind} {a : Option Addr} {zs : List Int} (h : Has w k a zs.length zs) (n : Nat) (hn : n ≤ zs.length) : Has w k a (zs.take n).length (zs.take n) := by
  refine ⟨rfl, fun x hx => h.2.1 x (List.mem_of_mem_take hx), ?_⟩
  rcases h.2.2 with c | ⟨b', off', e, hlt, hc⟩
  · exact .inl (by simp; omega)
  · refine .inr ⟨b', off', e, hlt, fun j hj => ?_⟩
    simp at hj
    rw [hc j (by omega)]
    simp [List.getD, List.getElem?_take, show j < n by omega]

set_option maxHeartbeats 4000000 in
theorem l4Climb_any (n : Nat) : ∀ (l a0 s0 : Int) (x : Option Addr) (c : Nat) (p : List Int) (w : World), s0.toNat ≤ n → 0 ≤ l → l ≤ 65520 → 0 ≤ a0 → a0 < s0 → s0 ≤ 32 → p.length = stN a0 s0 → allS p = true → Has w .i64 x p.length p → p.length ≤ c → c ≤ maxLen →
    Calls Tryz.prog 107 #[.int .i64 l, .int .i64 a0, .int .i64 s0, .slice x p.length c] w fun r w' => r = .returned (.int .i64 (clM nS l a0 s0 p)) ∧ Below w.heap.size w w' := by
  induction n with
  | zero => intro l a0 s0 x c p w h _ _ _ _ _; omega
  | succ n ih =>
    intro l a0 s0 x c p w hn l0 l1 h0 h1 h2 hlen hall hp hc hm
    unfold maxLen at hm
    by_cases hs : s0 ≤ 1
    · have e := clM_le nS l a0 s0 p hs
      rw [e]
      clear e
      go_enter Tryz.func107, Tryz.ntmps107
      go_wp2
      go_ret
      exact ⟨rfl, Below.refl _ _⟩
    · have hs' : 2 ≤ s0 := by omega
      obtain ⟨q1, q2, q3⟩ := splN_bd hs' h2
      have hpos : 0 < p.length := by
        by_cases ha : a0 < splN s0
        · rw [hlen, stN_lo hs' ha]; omega
        · rw [hlen, stN_hi hs' ha]; omega
      obtain ⟨m, hm1⟩ : ∃ m, p.length = m + 1 := ⟨p.length - 1, by omega⟩
      have hdl : p.dropLast = p.take m := by rw [List.dropLast_eq_take, hm1]; rfl
      have hgl : p.getLastD 0 = p[m]'(by omega) := by
        rw [List.getLastD_eq_getLast?, List.getLast?_eq_getElem?]
        simp [hm1]
      have hlast := allS_get hall m (by omega)
      have hi := hp.init m (by omega)
      have hil : (p.take m).length = m := by simp; omega
      obtain ⟨b1, o1, hx, hb1, hcell⟩ : ∃ b off, x = some ⟨b, off, none⟩ ∧ b < w.heap.size ∧ ∀ i, i < p.length → w.cell? ⟨b, off + i, none⟩ = some (.int .i64 (p.getD i 0)) := by
        rcases hp.2.2 with c | h
        · omega
        · exact h
      subst hx
      have e1 : w.cell? ⟨b1, o1 + m, none⟩ = some (.int .i64 (p[m]'(by omega))) := by rw [hcell m (by omega)]; simp [List.getD, hm1]
      have hne : Nonempty (KeptW w) := ⟨⟨w, Below.refl _ _⟩⟩
      have K1 := KeptW.cell e1 hb1
      generalize hv : p[m]'(by omega) = v at *
      by_cases ha : a0 < splN s0
      · have EQ : Hid (clM nS l a0 s0 p = nS (clM nS l a0 (splN s0) (p.take m)) v) := by
          show _ = _
          rw [clM_lo nS p hs' ha, hdl, hgl]
        have hbd := clM_bd _ l a0 (splN s0) (p.take m) (Nat.le_refl _) l0 l1
        have IH : Hid (∀ d : KeptW w, Calls Tryz.prog 107 #[.int .i64 l, .int .i64 a0, .int .i64 (splN s0), .slice (some ⟨b1, o1, none⟩) m c] d.wd fun r w' => r = .returned (.int .i64 (clM nS l a0 (splN s0) (p.take m))) ∧ Below d.wd.heap.size d.wd w') := by
          intro d
          have := ih l a0 (splN s0) (some ⟨b1, o1, none⟩) c (p.take m) d.wd (by omega) l0 l1 h0 ha (by omega) (by rw [hil]; rw [stN_lo hs' ha] at hlen; omega) (allS_take hall m) (hi.below d.hb (Nat.le_refl _)) (by omega) (by unfold maxLen; omega)
          rw [hil] at this
          exact this
        generalize clM nS l a0 (splN s0) (p.take m) = cv at EQ hbd IH
        have hm2 : (m : Int) ≤ c := by omega
        have hm3 : (p.length : Int) = m + 1 := by omega
        rw [EQ.out, hm1]
        have hc' : m + 1 ≤ c := by omega
        clear EQ hv hdl hgl hi hil hcell e1 hall hp hlen hm3 hc hpos ih hm1
        go_enter Tryz.func107, Tryz.ntmps107
        go_upto_region 6 with (go_at_call 71; refine (split_any s0 _ (by omega) (by omega)).mono ?_; rintro r u2 ⟨rfl, rfl⟩)
        refine wp_region_kept (by kernel_rfl) (by kernel_rfl) ?_
        repeat (go_big_quiet_step ((first | (go_at_call 107; exact KeptW.calls (IH.out _)) | (go_at_call 72; exact KeptW.calls (l2NodeSum_any cv v _ hbd.1 (by omega) hlast.1 (by omega))))))
        refine wpQuiet_nil ?_
        rintro _ ⟨d, rfl⟩
        go_wp2
        go_ret
        exact ⟨rfl, d.hb⟩
      · have EQ : Hid (clM nS l a0 s0 p = nS v (clM nS l (a0 - splN s0) (s0 - splN s0) (p.take m))) := by
          show _ = _
          rw [clM_hi nS p hs' ha, hdl, hgl]
        have hbd := clM_bd _ l (a0 - splN s0) (s0 - splN s0) (p.take m) (Nat.le_refl _) l0 l1
        have IH : Hid (∀ d : KeptW w, Calls Tryz.prog 107 #[.int .i64 l, .int .i64 (a0 - splN s0), .int .i64 (s0 - splN s0), .slice (some ⟨b1, o1, none⟩) m c] d.wd fun r w' => r = .returned (.int .i64 (clM nS l (a0 - splN s0) (s0 - splN s0) (p.take m))) ∧ Below d.wd.heap.size d.wd w') := by
          intro d
          have := ih l (a0 - splN s0) (s0 - splN s0) (some ⟨b1, o1, none⟩) c (p.take m) d.wd (by omega) l0 l1 (by omega) (by omega) (by omega) (by rw [hil]; rw [stN_hi hs' ha] at hlen; omega) (allS_take hall m) (hi.below d.hb (Nat.le_refl _)) (by omega) (by unfold maxLen; omega)
          rw [hil] at this
          exact this
        generalize clM nS l (a0 - splN s0) (s0 - splN s0) (p.take m) = cv at EQ hbd IH
        have hm2 : (m : Int) ≤ c := by omega
        rw [EQ.out, hm1]
        have hc' : m + 1 ≤ c := by omega
        clear EQ hv hdl hgl hi hil hcell e1 hall hp hlen hc hpos ih hm1
        go_enter Tryz.func107, Tryz.ntmps107
        go_upto_region 7 with (go_at_call 71; refine (split_any s0 _ (by omega) (by omega)).mono ?_; rintro r u2 ⟨rfl, rfl⟩)
        refine wp_region_kept (by kernel_rfl) (by kernel_rfl) ?_
        repeat (go_big_quiet_step ((first | (go_at_call 107; exact KeptW.calls (IH.out _)) | (go_at_call 72; exact KeptW.calls (l2NodeSum_any v cv _ hlast.1 (by omega) hbd.1 (by omega))))))
        refine wpQuiet_nil ?_
        rintro _ ⟨d, rfl⟩
        go_wp2
        go_ret
        exact ⟨rfl, d.hb⟩

end Go.Proofs.YtffidkoejlebeaaGreatDoor

namespace Go.Proofs.YtffidkoejlebeaaGreatDoor
open Go.ChangeShapes Go.WideShapes Go.ChangeAt Go.RowKit
set_option linter.unusedVariables false
set_option linter.unusedSimpArgs false

/-- What RootOf tells. -/
def rtV (zs : List Int) : Int := if lvF zs = 0 then rtM nS 11 zs else 0
/-- The code of PathOf. -/
def ptC (zs : List Int) (a : Int) : Int := if lvF zs = 0 then (if 0 ≤ a ∧ a < zs.length then 0 else 3) else lvF zs
/-- The list of PathOf. -/
def ptL (zs : List Int) (a : Int) : List Int := if lvF zs = 0 ∧ 0 ≤ a ∧ a < zs.length then ptM nS 11 zs a else []
theorem lvF_zero {zs : List Int} (h : lvF zs = 0) : zs.length ≤ 24 ∧ allS zs = true := by
  unfold lvF at h
  split at h
  · omega
  · split at h
    · exact ⟨by omega, ‹_›⟩
    · omega
theorem rtM_bd (n : Nat) : ∀ zs : List Int, zs.length ≤ n → allS zs = true → 0 ≤ rtM nS 11 zs ∧ rtM nS 11 zs ≤ 65520 := by
  intro zs _ hall
  by_cases h : zs.length ≤ 1
  · rw [rtM_le nS 11 h]
    cases zs with
    | nil => simp
    | cons y ys => exact allS_get hall 0 (by simp)
  · rw [rtM_gt nS 11 (by omega)]; exact nS_bd _ _
theorem allS_app {xs : List Int} {y : Int} (h : allS xs = true) (h0 : 0 ≤ y) (h1 : y ≤ 65520) : allS (xs ++ [y]) = true := by
  unfold allS at *
  simp at h ⊢
  exact ⟨h, h0, h1⟩
theorem ptM_all (n : Nat) : ∀ (zs : List Int) (a : Int), zs.length ≤ n → allS zs = true → allS (ptM nS 11 zs a) = true := by
  induction n with
  | zero => intro zs a h _; rw [ptM_le nS 11 a (by omega)]; rfl
  | succ n ih =>
    intro zs a h hall
    by_cases h1 : zs.length ≤ 1
    · rw [ptM_le nS 11 a h1]; rfl
    · have hp := splN_pos (zs.length : Int)
      have hlt := splN_lt (n := (zs.length : Int)) (by omega)
      by_cases h0 : a < splN zs.length
      · rw [ptM_lo nS 11 (by omega) h0]
        have hb := rtM_bd _ _ (Nat.le_refl _) (allS_drop hall (splN zs.length).toNat)
        exact allS_app (ih _ _ (by simp; omega) (allS_take hall _)) hb.1 hb.2
      · rw [ptM_hi nS 11 (by omega) h0]
        have hb := rtM_bd _ _ (Nat.le_refl _) (allS_take hall (splN zs.length).toNat)
        exact allS_app (ih _ _ (by simp; omega) (allS_drop hall _)) hb.1 hb.2
theorem ptM_len (f : Int → Int → Int) (e : Int) (n : Nat) : ∀ (xs : List Int) (a : Int), xs.length ≤ n → (ptM f e xs a).length ≤ xs.length := by
  induction n with
  | zero => intro xs a h; rw [ptM_le f e a (by omega)]; simp
  | succ n ih =>
    intro xs a h
    by_cases h1 : xs.length ≤ 1
    · rw [ptM_le f e a h1]; simp
    · have hp := splN_pos (xs.length : Int)
      have hlt := splN_lt (n := (xs.length : Int)) (by omega)
      by_cases h0 : a < splN xs.length
      · rw [ptM_lo f e (by omega) h0]
        have := ih (xs.take (splN xs.length).toNat) a (by simp; omega)
        simp at this ⊢
        omega
      · rw [ptM_hi f e (by omega) h0]
        have := ih (xs.drop (splN xs.length).toNat) (a - splN xs.length) (by simp; omega)
        simp at this ⊢
        omega
theorem allS_wf {zs : List Int} (h : allS zs = true) : ∀ n ∈ zs, (Lit.int .i64 n).wf = true := by
  intro n hn
  unfold allS at h
  rw [List.all_eq_true] at h
  have := h n hn
  simp at this
  exact WalkArith.wf_i64 (by omega)
theorem ptL_len (zs : List Int) (a : Int) : (ptL zs a).length ≤ 24 := by
  unfold ptL
  split
  · rename_i h
    have := ptM_len nS 11 _ zs a (Nat.le_refl _)
    have := (lvF_zero h.1).1
    omega
  · simp
theorem ptL_wf (zs : List Int) (a : Int) : ∀ n ∈ ptL zs a, (Lit.int .i64 n).wf = true := by
  unfold ptL
  split
  · rename_i h
    exact allS_wf (ptM_all _ zs a (Nat.le_refl _) (lvF_zero h.1).2)
  · simp

end Go.Proofs.YtffidkoejlebeaaGreatDoor

namespace Go.Proofs.YtffidkoejlebeaaGreatDoor
open Go.ChangeShapes Go.WideShapes Go.ChangeAt Go.RowKit
set_option linter.unusedVariables false
set_option linter.unusedSimpArgs false

/-- The code of GrowthOf. -/
def gwC (zs : List Int) (s : Int) : Int := if lvF zs = 0 then (if 1 ≤ s ∧ s ≤ zs.length then 0 else 3) else lvF zs
/-- The list of GrowthOf. -/
def gwL (zs : List Int) (s : Int) : List Int := if lvF zs = 0 ∧ 1 ≤ s ∧ s ≤ zs.length then grM nS 11 zs s true else []
/-- The code of GrowRoots. -/
def grC (s t root : Int) (p : List Int) : Int := if ((1 ≤ t ∧ t ≤ 24) ∧ 1 ≤ s ∧ s ≤ t) ∧ 0 ≤ root ∧ root ≤ 65520 then (if 6 < p.length then 2 else if allS p = true then (if p.length = gsN s t true then 0 else 8) else 3) else 3
/-- Old and New of GrowRoots. -/
def grV (s t root : Int) (p : List Int) : Int × Int := if grC s t root p = 0 then grR nS s t true root p else (0, 0)
/-- AcceptGrowth. -/
def agB (s first t second : Int) (p : List Int) : Bool := decide (grC s t first p = 0 ∧ (grV s t first p).1 = first ∧ (grV s t first p).2 = second)
theorem grM_all (n : Nat) : ∀ (zs : List Int) (s : Int) (wh : Bool), zs.length ≤ n → 1 ≤ s → s ≤ zs.length → allS zs = true → allS (grM nS 11 zs s wh) = true := by
  induction n with
  | zero => intro zs s wh h h1 h2; omega
  | succ n ih =>
    intro zs s wh h h1 h2 hall
    by_cases ho : s = zs.length
    · rw [grM_eq nS 11 wh ho]
      cases wh
      · have hb := rtM_bd _ zs (Nat.le_refl _) hall
        exact allS_app (xs := []) rfl hb.1 hb.2
      · rfl
    · have hp := splN_pos (zs.length : Int)
      have hlt := splN_lt (n := (zs.length : Int)) (by omega)
      by_cases h0 : s ≤ splN zs.length
      · rw [grM_lo nS 11 wh (by omega) h0]
        have hb := rtM_bd _ _ (Nat.le_refl _) (allS_drop hall (splN zs.length).toNat)
        exact allS_app (ih _ _ _ (by simp; omega) h1 (by simp; omega) (allS_take hall _)) hb.1 hb.2
      · rw [grM_hi nS 11 wh (by omega) h0 (by omega)]
        have hb := rtM_bd _ _ (Nat.le_refl _) (allS_take hall (splN zs.length).toNat)
        exact allS_app (ih _ _ _ (by simp; omega) (by omega) (by simp; omega) (allS_drop hall _)) hb.1 hb.2
theorem lvF_take {zs : List Int} (h : lvF zs = 0) (k : Nat) : lvF (zs.take k) = 0 := by
  obtain ⟨h24, hall⟩ := lvF_zero h
  unfold lvF
  rw [if_neg (by simp; omega), if_pos (allS_take hall k)]
/-- A growth is taken, and is as long as StepsOf says. -/
theorem grow_gw {zs : List Int} {s : Int} (h : lvF zs = 0) (h1 : 1 ≤ s) (h2 : s ≤ zs.length) : agB s (rtV (zs.take s.toNat)) zs.length (rtV zs) (gwL zs s) = true ∧ ((gwL zs s).length : Int) = spV s zs.length ∧ (gwL zs s).length ≤ 6 := by
  obtain ⟨h24, hall⟩ := lvF_zero h
  have hL : gwL zs s = grM nS 11 zs s true := by unfold gwL; rw [if_pos ⟨h, h1, h2⟩]
  have r1 : rtV (zs.take s.toNat) = rtM nS 11 (zs.take s.toNat) := by unfold rtV; rw [if_pos (lvF_take h _)]
  have r2 : rtV zs = rtM nS 11 zs := by unfold rtV; rw [if_pos h]
  obtain ⟨e1, e2⟩ := grM_main nS 11 _ zs s true (rtM nS 11 (zs.take s.toNat)) (Nat.le_refl _) (by omega) (by omega) h1 h2 (fun _ => rfl)
  have hb := gsN_bd 5 s zs.length true (by omega) h1 h2 (by have : (2 : Int) ^ 5 = 32 := by decide
                                                            omega)
  have hrb := rtM_bd _ _ (Nat.le_refl _) (allS_take hall s.toNat)
  have hga := grM_all _ zs s true (Nat.le_refl _) h1 h2 hall
  have hC : grC s zs.length (rtM nS 11 (zs.take s.toNat)) (grM nS 11 zs s true) = 0 := by
    unfold grC
    rw [if_pos ⟨⟨⟨by omega, by omega⟩, h1, h2⟩, hrb⟩, if_neg (by omega), if_pos hga, if_pos e1]
  rw [hL, r1, r2]
  refine ⟨?_, ?_, by omega⟩
  · unfold agB grV
    rw [if_pos hC, e2]
    simp [hC]
  · unfold spV
    rw [if_pos ⟨⟨by omega, by omega⟩, h1, h2⟩, e1]
theorem gwL_wf (zs : List Int) (s : Int) : ∀ n ∈ gwL zs s, (Lit.int .i64 n).wf = true := by
  unfold gwL
  split
  · rename_i h
    exact allS_wf (grM_all _ zs s true (Nat.le_refl _) h.2.1 h.2.2 (lvF_zero h.1).2)
  · intro n hn; simp at hn
/-- What comes of a path of sums is a sum. -/
theorem grR_bd (n : Nat) : ∀ (s t : Int) (wh : Bool) (r : Int) (p : List Int), t.toNat ≤ n → 1 ≤ s → s ≤ t → t ≤ 32 → (wh = true → 0 ≤ r ∧ r ≤ 65520) → p.length = gsN s t wh → allS p = true → (0 ≤ (grR nS s t wh r p).1 ∧ (grR nS s t wh r p).1 ≤ 65520) ∧ 0 ≤ (grR nS s t wh r p).2 ∧ (grR nS s t wh r p).2 ≤ 65520 := by
  induction n with
  | zero => intro s t wh r p h h1 h2; omega
  | succ n ih =>
    intro s t wh r p h h1 h2 h32 hr hl hall
    by_cases ho : s = t
    · rw [grR_eq nS wh _ _ ho]
      rw [gsN_eq wh ho] at hl
      cases wh
      · have hg := allS_get hall 0 (by simp at hl; omega)
        have e : p.getD 0 0 = p[0]'(by simp at hl; omega) := by rw [List.getD_eq_getElem?_getD, List.getElem?_eq_getElem (by simp at hl; omega)]; rfl
        simp only [Bool.false_eq_true, if_false, e]
        exact ⟨hg, hg⟩
      · exact ⟨hr rfl, hr rfl⟩
    · have hp := splN_pos t
      have hlt := splN_lt (n := t) (by omega)
      have hd : allS p.dropLast = true := by rw [List.dropLast_eq_take]; exact allS_take hall _
      by_cases h0 : s ≤ splN t
      · rw [grR_lo nS wh _ _ (by omega) h0]
        rw [gsN_lo wh (by omega) h0] at hl
        have := ih s (splN t) wh r p.dropLast (by omega) h1 h0 (by omega) hr (by simp; omega) hd
        exact ⟨this.1, nS_bd _ _⟩
      · rw [grR_hi nS wh _ _ (by omega) h0 (by omega)]
        exact ⟨nS_bd _ _, nS_bd _ _⟩

end Go.Proofs.YtffidkoejlebeaaGreatDoor

namespace Go.Proofs.YtffidkoejlebeaaGreatDoor
open Go.ChangeShapes Go.WideShapes Go.ChangeAt Go.RowKit
set_option linter.unusedVariables false
set_option linter.unusedSimpArgs false

/-- The code of a climb. -/
def clC (l a s : Int) (p : List Int) : Int := if (0 ≤ l ∧ l ≤ 65520) ∧ (1 ≤ s ∧ s ≤ 24) ∧ 0 ≤ a ∧ a < s then (if 6 < p.length then 2 else if allS p = true then (if p.length = stN a s then 0 else 8) else 3) else 3
/-- What a climb comes to. -/
def clV (l a s : Int) (p : List Int) : Int := if clC l a s p = 0 then clM nS l a s p else 0
theorem clC_bad {l a s : Int} {p : List Int} (h : ¬ ((0 ≤ l ∧ l ≤ 65520) ∧ (1 ≤ s ∧ s ≤ 24) ∧ 0 ≤ a ∧ a < s)) : clC l a s p = 3 := by unfold clC; rw [if_neg h]
theorem clC_many {l a s : Int} {p : List Int} (h : (0 ≤ l ∧ l ≤ 65520) ∧ (1 ≤ s ∧ s ≤ 24) ∧ 0 ≤ a ∧ a < s) (h6 : 6 < p.length) : clC l a s p = 2 := by unfold clC; rw [if_pos h, if_pos h6]
theorem clC_sum {l a s : Int} {p : List Int} (h : (0 ≤ l ∧ l ≤ 65520) ∧ (1 ≤ s ∧ s ≤ 24) ∧ 0 ≤ a ∧ a < s) (h6 : ¬ 6 < p.length) (ha : allS p = false) : clC l a s p = 3 := by unfold clC; rw [if_pos h, if_neg h6, ha]; rfl
theorem clC_len {l a s : Int} {p : List Int} (h : (0 ≤ l ∧ l ≤ 65520) ∧ (1 ≤ s ∧ s ≤ 24) ∧ 0 ≤ a ∧ a < s) (h6 : ¬ 6 < p.length) (ha : allS p = true) : clC l a s p = if p.length = stN a s then 0 else 8 := by unfold clC; rw [if_pos h, if_neg h6, ha]; rfl
theorem clV_of {l a s : Int} {p : List Int} (h : clC l a s p ≠ 0) : clV l a s p = 0 := by unfold clV; rw [if_neg h]

set_option maxHeartbeats 2000000 in
theorem l4Asked_any (l a s : Int) (x : Option Addr) (c : Nat) (p : List Int) (w : World) (hp : Has w .i64 x p.length p) (hl : p.length ≤ 1048576) (hs : -9223372036854775808 ≤ s ∧ s ≤ 9223372036854775807) :
    Calls Tryz.prog 106 #[.int .i64 l, .int .i64 a, .int .i64 s, .slice x p.length c] w fun r w' => r = .returned (.int .i64 (clC l a s p)) ∧ w' = w := by
  by_cases h1 : 0 ≤ l ∧ l ≤ 65520
  · have d1 : decide (0 ≤ l ∧ l ≤ 65520) = true := by simpa using h1
    by_cases h2 : 1 ≤ s ∧ s ≤ 24
    · have d2 : decide (1 ≤ s ∧ s ≤ 24) = true := by simpa using h2
      by_cases h3 : 0 ≤ a ∧ a < s
      · have d3 : decide (0 ≤ a ∧ a ≤ s - 1) = true := by simp; omega
        have hall : (0 ≤ l ∧ l ≤ 65520) ∧ (1 ≤ s ∧ s ≤ 24) ∧ 0 ≤ a ∧ a < s := ⟨h1, h2, h3⟩
        by_cases h6 : 6 < p.length
        · have h6' : (6 : Int) < (p.length : Int) := by omega
          rw [clC_many hall h6]
          clear hall
          go_enter Tryz.func106, Tryz.ntmps106
          go_wp2_with (first | (go_at_call 77; refine (l2Is_any l _).mono ?_; rintro r u ⟨rfl, rfl⟩; rw [d1]) | (go_at_call 61; refine (in_any _ _ _ _).mono ?_; rintro r u ⟨rfl, rfl⟩; first | rw [d2] | rw [d3]))
          go_ret
          exact ⟨rfl, rfl⟩
        · have h6' : ¬ (6 : Int) < (p.length : Int) := by omega
          cases ha : allS p
          · rw [clC_sum hall h6 ha]
            clear hall
            go_enter Tryz.func106, Tryz.ntmps106
            go_wp2_with (first | (go_at_call 77; refine (l2Is_any l _).mono ?_; rintro r u ⟨rfl, rfl⟩; rw [d1]) | (go_at_call 61; refine (in_any _ _ _ _).mono ?_; rintro r u ⟨rfl, rfl⟩; first | rw [d2] | rw [d3]) | (go_at_call 85; refine (l1All_any _ _ p _ hp hl).mono ?_; rintro r u ⟨rfl, rfl⟩; rw [ha]))
            go_ret
            exact ⟨rfl, rfl⟩
          · rw [clC_len hall h6 ha]
            have hN : (stN a s) ≤ 5 := stN_bd _ a s (Nat.le_refl _) (by omega) (by omega) (by omega)
            clear hall
            by_cases hst : p.length = stN a s
            · rw [if_pos hst]
              have hst' : ((p.length : Int) != (stN a s : Int)) = false := by simp [hst]
              clear hst
              go_enter Tryz.func106, Tryz.ntmps106
              go_wp2_with (first | (go_at_call 77; refine (l2Is_any l _).mono ?_; rintro r u ⟨rfl, rfl⟩; rw [d1]) | (go_at_call 61; refine (in_any _ _ _ _).mono ?_; rintro r u ⟨rfl, rfl⟩; first | rw [d2] | rw [d3]) | (go_at_call 85; refine (l1All_any _ _ p _ hp hl).mono ?_; rintro r u ⟨rfl, rfl⟩; rw [ha]) | (go_at_call 115; refine (l4Steps_any a s _ (by omega) (by omega) (by omega)).mono ?_; rintro r u ⟨rfl, rfl⟩))
              go_ret
              exact ⟨rfl, rfl⟩
            · rw [if_neg hst]
              have hst' : ((p.length : Int) != (stN a s : Int)) = true := by simp; omega
              clear hst
              go_enter Tryz.func106, Tryz.ntmps106
              go_wp2_with (first | (go_at_call 77; refine (l2Is_any l _).mono ?_; rintro r u ⟨rfl, rfl⟩; rw [d1]) | (go_at_call 61; refine (in_any _ _ _ _).mono ?_; rintro r u ⟨rfl, rfl⟩; first | rw [d2] | rw [d3]) | (go_at_call 85; refine (l1All_any _ _ p _ hp hl).mono ?_; rintro r u ⟨rfl, rfl⟩; rw [ha]) | (go_at_call 115; refine (l4Steps_any a s _ (by omega) (by omega) (by omega)).mono ?_; rintro r u ⟨rfl, rfl⟩))
              go_ret
              exact ⟨rfl, rfl⟩
      · have d3 : decide (0 ≤ a ∧ a ≤ s - 1) = false := by simp; omega
        rw [clC_bad (fun h => h3 h.2.2)]
        clear h3
        go_enter Tryz.func106, Tryz.ntmps106
        go_wp2_with (first | (go_at_call 77; refine (l2Is_any l _).mono ?_; rintro r u ⟨rfl, rfl⟩; rw [d1]) | (go_at_call 61; refine (in_any _ _ _ _).mono ?_; rintro r u ⟨rfl, rfl⟩; first | rw [d2] | rw [d3]))
        go_ret
        exact ⟨rfl, rfl⟩
    · have d2 : decide (1 ≤ s ∧ s ≤ 24) = false := by simpa using h2
      rw [clC_bad (fun h => h2 h.2.1)]
      clear h2
      go_enter Tryz.func106, Tryz.ntmps106
      go_wp2_with (first | (go_at_call 77; refine (l2Is_any l _).mono ?_; rintro r u ⟨rfl, rfl⟩; rw [d1]) | (go_at_call 61; refine (in_any _ _ _ _).mono ?_; rintro r u ⟨rfl, rfl⟩; rw [d2]))
      go_ret
      exact ⟨rfl, rfl⟩
  · have d1 : decide (0 ≤ l ∧ l ≤ 65520) = false := by simpa using h1
    rw [clC_bad (fun h => h1 h.1)]
    clear h1
    go_enter Tryz.func106, Tryz.ntmps106
    go_wp2_with (go_at_call 77; refine (l2Is_any l _).mono ?_; rintro r u ⟨rfl, rfl⟩; rw [d1])
    go_ret
    exact ⟨rfl, rfl⟩

theorem clC_zero {l a s : Int} {p : List Int} (h : clC l a s p = 0) : ((0 ≤ l ∧ l ≤ 65520) ∧ (1 ≤ s ∧ s ≤ 24) ∧ 0 ≤ a ∧ a < s) ∧ allS p = true ∧ p.length = stN a s := by
  unfold clC at h
  split at h
  · split at h
    · omega
    · split at h
      · split at h
        · exact ⟨‹_›, ‹_›, ‹_›⟩
        · omega
      · omega
  · omega

set_option maxHeartbeats 2000000 in
theorem specClimb_any (l a s : Int) (x : Option Addr) (c : Nat) (p : List Int) (w : World) (hp : Has w .i64 x p.length p) (hl : p.length ≤ 1048576) (hc : p.length ≤ c) (hm : c ≤ maxLen) (hs : -9223372036854775808 ≤ s ∧ s ≤ 9223372036854775807) :
    Calls Tryz.prog 87 #[.int .i64 l, .int .i64 a, .int .i64 s, .slice x p.length c] w fun r w' => r = .returned (.agg #[.int .i64 (clC l a s p), .int .i64 (clV l a s p)]) ∧ Below w.heap.size w w' := by
  by_cases h0 : clC l a s p = 0
  · have hV : clV l a s p = clM nS l a s p := by unfold clV; rw [if_pos h0]
    obtain ⟨⟨g1, g2, g3⟩, ga, gl⟩ := clC_zero h0
    have H0 : Hid (clC l a s p = 0) := h0
    rw [hV, h0]
    clear hV h0
    have GL : Hid (p.length = stN a s) := gl
    clear gl
    go_enter Tryz.func87, Tryz.ntmps87
    go_wp2_with fail
    refine (l4Asked_any l a s x c p _ (hp.alloc _) hl hs).mono ?_
    rintro r u ⟨rfl, rfl⟩
    rw [H0.out]
    go_wp2_with fail
    refine (l4Climb_any _ l a s x c p _ (Nat.le_refl _) g1.1 g1.2 g3.1 g3.2 (by omega) GL.out ga (hp.alloc _) hc hm).mono ?_
    rintro r u ⟨rfl, hb1⟩
    obtain ⟨hc1, hf1⟩ := bcell hb1
    have hz1 := hb1.size
    simp at hz1
    go_wp2
    refine bodyPost_ret (v := .agg #[.int .i64 0, .int .i64 (clM nS l a s p)]) (by simp [results, Tryz.results87, go_sem, hc1]) rfl ⟨rfl, ?_⟩
    repeat (first | exact Below.refl _ _ | (refine Below.alloc ?_ (by (try simp) <;> omega) _) | (refine Below.setCell ?_ (by (try simp) <;> omega) _) | (refine Below.trans ?_ (hb1.mono (by (try simp) <;> omega))))
  · rw [clV_of h0]
    have h0' : (clC l a s p != 0) = true := by simpa using h0
    generalize hcc : clC l a s p = cc at *
    have HC : Hid (clC l a s p = cc) := hcc
    clear hcc
    go_enter Tryz.func87, Tryz.ntmps87
    go_wp2_with fail
    refine (l4Asked_any l a s x c p _ (hp.alloc _) hl hs).mono ?_
    rintro r u ⟨rfl, rfl⟩
    rw [HC.out]
    go_wp2
    refine bodyPost_ret (v := .agg #[.int .i64 cc, .int .i64 0]) (by simp [results, Tryz.results87, go_sem]) rfl ⟨rfl, ?_⟩
    repeat (first | exact Below.refl _ _ | (refine Below.alloc ?_ (by (try simp) <;> omega) _) | (refine Below.setCell ?_ (by (try simp) <;> omega) _))

end Go.Proofs.YtffidkoejlebeaaGreatDoor

namespace Go.Proofs.YtffidkoejlebeaaGreatDoor
open Go.ChangeShapes Go.WideShapes Go.ChangeAt Go.RowKit
set_option linter.unusedVariables false
set_option linter.unusedSimpArgs false

/-- A number in two bytes. -/
def twoL (x : Int) : List Int := [x / 256, x % 256]
theorem twoL_wf {x : Int} (h0 : 0 ≤ x) (h1 : x ≤ 65535) : ∀ n ∈ twoL x, (Lit.int .u8 n).wf = true := by
  intro n hn
  simp [twoL] at hn
  exact wf_u8 (by omega) (by omega)
/-- What is summed for a secret, and the secret. -/
def secL (s i b d : Int) : List Int := [3, s / 256, s % 256, i, b, d]
def secV (s i b d : Int) : Int := sumL (secL s i b d)
theorem secV_bd (s i b d : Int) : 0 ≤ secV s i b d ∧ secV s i b d ≤ 65520 := sum_bd _
theorem secL_wf {s i b d : Int} (hs : 0 ≤ s ∧ s ≤ 999) (hi : 0 ≤ i ∧ i ≤ 7) (hb : 0 ≤ b ∧ b ≤ 15) (hd : 0 ≤ d ∧ d ≤ 1) : ∀ n ∈ secL s i b d, (Lit.int .u8 n).wf = true := by
  intro n hn
  simp [secL] at hn
  exact wf_u8 (by omega) (by omega)
/-- The public number of a secret. -/
def opnV (x : Int) : Int := sumL (leafL (twoL x))
theorem opnV_bd (x : Int) : 0 ≤ opnV x ∧ opnV x ≤ 65520 := sum_bd _
theorem flatMap_same {α β : Type} {f g : α → List β} : ∀ {l : List α}, (∀ a ∈ l, f a = g a) → l.flatMap f = l.flatMap g
  | [], _ => rfl
  | a :: r, h => by rw [List.flatMap_cons, List.flatMap_cons, h a (by simp), flatMap_same (fun b hb => h b (by simp [hb]))]
/-- Both public numbers of a bit; those of bits. -/
def prAt (s i : Int) (b : Nat) : List Int := [opnV (secV s i b 0), opnV (secV s i b 1)]
def pubW (s i : Int) (bs : List Nat) : List Int := bs.flatMap (prAt s i)
def pubL (s i : Int) : List Int := pubW s i (List.range 16)
theorem pubW_snoc (s i : Int) (bs : List Nat) (b : Nat) : pubW s i (bs ++ [b]) = pubW s i bs ++ [opnV (secV s i b 0), opnV (secV s i b 1)] := by simp [pubW, prAt]
theorem pubW_succ (s i : Int) (n : Nat) : pubW s i (List.range (n + 1)) = pubW s i (List.range n) ++ [opnV (secV s i n 0), opnV (secV s i n 1)] := by rw [List.range_succ, pubW_snoc]
theorem pubW_len (s i : Int) (bs : List Nat) : (pubW s i bs).length = 2 * bs.length := by
  unfold pubW
  induction bs with
  | nil => rfl
  | cons b r ih => rw [List.flatMap_cons, List.length_append, ih, List.length_cons]; simp [prAt]; omega
theorem pubL_len (s i : Int) : (pubL s i).length = 32 := by unfold pubL; rw [pubW_len]; simp
theorem pubW_all (s i : Int) (bs : List Nat) : allS (pubW s i bs) = true := by
  unfold allS
  rw [List.all_eq_true]
  intro n hn
  simp only [pubW, List.mem_flatMap, prAt] at hn
  obtain ⟨b, _, hb⟩ := hn
  simp at hb
  rcases hb with rfl | rfl
  · simpa using opnV_bd _
  · simpa using opnV_bd _
theorem pubL_all (s i : Int) : allS (pubL s i) = true := pubW_all s i _
theorem pubW_get (s i : Int) : ∀ (n b : Nat), b < n → (pubW s i (List.range n)).getD (2 * b) 0 = opnV (secV s i b 0) ∧ (pubW s i (List.range n)).getD (2 * b + 1) 0 = opnV (secV s i b 1)
  | 0, b, h => by omega
  | n + 1, b, h => by
    have hl : (pubW s i (List.range n)).length = 2 * n := by rw [pubW_len, List.length_range]
    rw [pubW_succ]
    by_cases e : b = n
    · subst e
      simp only [List.getD_eq_getElem?_getD]
      rw [List.getElem?_append_right (by omega), List.getElem?_append_right (by omega), hl]
      simp
    · have := pubW_get s i n b (by omega)
      simp only [List.getD_eq_getElem?_getD] at this ⊢
      rw [List.getElem?_append_left (by omega), List.getElem?_append_left (by omega)]
      exact this
/-- Numbers in two bytes each; what is summed for a key, and its sum. -/
def numB (l : List Int) : List Int := l.flatMap twoL
def keyB (l : List Int) : List Int := 4 :: numB l
def keyS (l : List Int) : Int := sumL (keyB l)
theorem keyS_bd (l : List Int) : 0 ≤ keyS l ∧ keyS l ≤ 65520 := sum_bd _
theorem numB_len (l : List Int) : (numB l).length = 2 * l.length := by
  unfold numB
  induction l with
  | nil => rfl
  | cons b r ih => rw [List.flatMap_cons, List.length_append, ih, List.length_cons]; simp [twoL]; omega
theorem numB_succ (l : List Int) (k : Nat) (h : k < l.length) : numB (l.take (k + 1)) = numB (l.take k) ++ twoL l[k] := by
  unfold numB
  rw [List.take_succ_eq_append_getElem h, List.flatMap_append]
  simp
theorem numB_wf {l : List Int} (h : allS l = true) : ∀ n ∈ numB l, (Lit.int .u8 n).wf = true := by
  intro n hn
  simp only [numB, List.mem_flatMap] at hn
  obtain ⟨x, hx, hn⟩ := hn
  unfold allS at h
  rw [List.all_eq_true] at h
  have := h x hx
  simp at this
  exact twoL_wf this.1 (by omega) n hn
theorem keyB_wf {l : List Int} (h : allS l = true) : ∀ n ∈ keyB l, (Lit.int .u8 n).wf = true := by
  intro n hn
  simp only [keyB, List.mem_cons] at hn
  rcases hn with rfl | hn
  · rfl
  · exact numB_wf h n hn
theorem keyB_len (l : List Int) : (keyB l).length = 2 * l.length + 1 := by simp [keyB, numB_len]
/-- The sums of the first keys. -/
def keysW (s : Int) (is : List Nat) : List Int := is.map fun i : Nat => keyS (pubL s i)
def keysL (s : Int) (n : Nat) : List Int := keysW s (List.range n)
theorem keysL_succ (s : Int) (n : Nat) : keysL s (n + 1) = keysL s n ++ [keyS (pubL s n)] := by unfold keysL keysW; rw [List.range_succ, List.map_append]; rfl
theorem keysL_len (s : Int) (n : Nat) : (keysL s n).length = n := by simp [keysL, keysW]
theorem keysL_all (s : Int) (n : Nat) : allS (keysL s n) = true := by
  unfold allS
  rw [List.all_eq_true]
  intro x hx
  simp only [keysL, keysW, List.mem_map] at hx
  obtain ⟨i, _, rfl⟩ := hx
  simpa using keyS_bd _
theorem keysL_get (s : Int) {n i : Nat} (h : i < n) : (keysL s n).getD i 0 = keyS (pubL s i) := by simp [keysL, keysW, List.getD, h]
/-- The bit b of a number. -/
def bitV (x : Int) (b : Nat) : Int := x / 2 ^ b % 2
theorem bitV_01 (x : Int) (b : Nat) : bitV x b = 0 ∨ bitV x b = 1 := by unfold bitV; omega
/-- What a signature shows, and the others. -/
def shW (s i x : Int) (bs : List Nat) : List Int := bs.map fun b : Nat => secV s i b (bitV x b)
def otW (s i x : Int) (bs : List Nat) : List Int := bs.map fun b : Nat => opnV (secV s i b (1 - bitV x b))
theorem shW_snoc (s i x : Int) (bs : List Nat) (b : Nat) : shW s i x (bs ++ [b]) = shW s i x bs ++ [secV s i b (bitV x b)] := by simp [shW]
theorem otW_snoc (s i x : Int) (bs : List Nat) (b : Nat) : otW s i x (bs ++ [b]) = otW s i x bs ++ [opnV (secV s i b (1 - bitV x b))] := by simp [otW]
theorem shW_len (s i x : Int) (bs : List Nat) : (shW s i x bs).length = bs.length := by simp [shW]
theorem otW_len (s i x : Int) (bs : List Nat) : (otW s i x bs).length = bs.length := by simp [otW]
theorem shW_all (s i x : Int) (bs : List Nat) : allS (shW s i x bs) = true := by
  unfold allS; rw [List.all_eq_true]; intro n hn
  simp only [shW, List.mem_map] at hn
  obtain ⟨b, _, rfl⟩ := hn
  simpa using secV_bd _ _ _ _
theorem otW_all (s i x : Int) (bs : List Nat) : allS (otW s i x bs) = true := by
  unfold allS; rw [List.all_eq_true]; intro n hn
  simp only [otW, List.mem_map] at hn
  obtain ⟨b, _, rfl⟩ := hn
  simpa using opnV_bd _
theorem shW_get (s i x : Int) {n b : Nat} (h : b < n) : (shW s i x (List.range n)).getD b 0 = secV s i b (bitV x b) := by simp [shW, List.getD, h]
theorem otW_get (s i x : Int) {n b : Nat} (h : b < n) : (otW s i x (List.range n)).getD b 0 = opnV (secV s i b (1 - bitV x b)) := by simp [otW, List.getD, h]
/-- What opens: both numbers of a bit, those of bits. -/
def opAt (x : Int) (sh ot : List Int) (b : Nat) : List Int := if bitV x b = 0 then [opnV (sh.getD b 0), ot.getD b 0] else [ot.getD b 0, opnV (sh.getD b 0)]
def opW (x : Int) (sh ot : List Int) (bs : List Nat) : List Int := bs.flatMap (opAt x sh ot)
theorem opAt_len (x : Int) (sh ot : List Int) (b : Nat) : (opAt x sh ot b).length = 2 := by unfold opAt; split <;> rfl
theorem opW_snoc (x : Int) (sh ot : List Int) (bs : List Nat) (b : Nat) : opW x sh ot (bs ++ [b]) = opW x sh ot bs ++ opAt x sh ot b := by simp [opW]
theorem opW_succ (x : Int) (sh ot : List Int) (n : Nat) : opW x sh ot (List.range (n + 1)) = opW x sh ot (List.range n) ++ opAt x sh ot n := by rw [List.range_succ, opW_snoc]
theorem opW_len (x : Int) (sh ot : List Int) (bs : List Nat) : (opW x sh ot bs).length = 2 * bs.length := by
  unfold opW
  induction bs with
  | nil => rfl
  | cons b r ih => rw [List.flatMap_cons, List.length_append, ih, List.length_cons, opAt_len]; omega
theorem getD_all {zs : List Int} (h : allS zs = true) (k : Nat) : 0 ≤ zs.getD k 0 ∧ zs.getD k 0 ≤ 65520 := by
  by_cases hk : k < zs.length
  · have := allS_get h k hk
    simpa [List.getD, hk] using this
  · simp [List.getD, List.getElem?_eq_none (show zs.length ≤ k by omega)]
theorem opW_all {x : Int} {sh ot : List Int} (h : allS ot = true) (bs : List Nat) : allS (opW x sh ot bs) = true := by
  unfold allS; rw [List.all_eq_true]; intro n hn
  simp only [opW, List.mem_flatMap] at hn
  obtain ⟨b, _, hb⟩ := hn
  have h1 := opnV_bd (sh.getD b 0)
  have h2 := getD_all h b
  unfold opAt at hb
  split at hb
  · simp only [List.mem_cons, List.not_mem_nil, or_false] at hb
    rcases hb with rfl | rfl
    · simpa using h1
    · simpa using h2
  · simp only [List.mem_cons, List.not_mem_nil, or_false] at hb
    rcases hb with rfl | rfl
    · simpa using h2
    · simpa using h1
/-- What was signed opens to the public numbers. -/
theorem opW_sign (s i x : Int) : opW x (shW s i x (List.range 16)) (otW s i x (List.range 16)) (List.range 16) = pubL s i := by
  unfold opW pubL pubW
  refine flatMap_same fun b hb => ?_
  have hb' : b < 16 := List.mem_range.1 hb
  unfold opAt prAt
  rw [shW_get s i x hb', otW_get s i x hb']
  rcases bitV_01 x b with h | h
  · rw [if_pos h, h]; simp
  · rw [if_neg (by omega), h]; simp

/-- The codes and the values of the functions. -/
def seOk (s i b d : Int) : Bool := decide ((0 ≤ s ∧ s ≤ 999) ∧ (0 ≤ i ∧ i ≤ 7) ∧ (0 ≤ b ∧ b ≤ 15) ∧ 0 ≤ d ∧ d ≤ 1)
def seC (s i b d : Int) : Int := if seOk s i b d = true then 0 else 3
def seV (s i b d : Int) : Int := if seOk s i b d = true then secV s i b d else 0
def siOk (s i : Int) : Bool := decide ((0 ≤ s ∧ s ≤ 999) ∧ 0 ≤ i ∧ i ≤ 7)
def pkC (s i : Int) : Int := if siOk s i = true then 0 else 3
def pkL (s i : Int) : List Int := if siOk s i = true then pubL s i else []
def kyC (l : List Int) : Int := if l.length = 32 then suF l else 2
def kyV (l : List Int) : Int := if kyC l = 0 then keyS l else 0
def krOk (s n : Int) : Bool := decide ((0 ≤ s ∧ s ≤ 999) ∧ 1 ≤ n ∧ n ≤ 8)
def krC (s n : Int) : Int := if krOk s n = true then 0 else 3
def krV (s n : Int) : Int := if krOk s n = true then rtM nS 11 (keysL s n.toNat) else 0
def ssOk (s i x : Int) : Bool := decide ((0 ≤ s ∧ s ≤ 999) ∧ (0 ≤ i ∧ i ≤ 7) ∧ 0 ≤ x ∧ x ≤ 65520)
def ssC (s i x : Int) : Int := if ssOk s i x = true then 0 else 3
def ssI (s i x : Int) : Int := if ssOk s i x = true then i else 0
def ssS (s i x : Int) : List Int := if ssOk s i x = true then shW s i x (List.range 16) else []
def ssO (s i x : Int) : List Int := if ssOk s i x = true then otW s i x (List.range 16) else []
def opC (i : Int) (sh ot : List Int) (x : Int) : Int := if sgF i sh ot = 0 then (if 0 ≤ x ∧ x ≤ 65520 then 0 else 3) else sgF i sh ot
def opV (i : Int) (sh ot : List Int) (x : Int) : Int := if opC i sh ot x = 0 then keyS (opW x sh ot (List.range 16)) else 0
def ckB (i : Int) (sh ot : List Int) (x n : Int) (p : List Int) (root : Int) : Bool := decide (opC i sh ot x = 0 ∧ clC (opV i sh ot x) i n p = 0 ∧ clV (opV i sh ot x) i n p = root)
theorem kyC_zero {l : List Int} (h : kyC l = 0) : l.length = 32 ∧ allS l = true := by
  unfold kyC suF at h
  split at h
  · rename_i h1
    split at h
    · rename_i h2; exact ⟨h1, h2⟩
    · omega
  · omega
theorem kyC_of {l : List Int} (h1 : l.length = 32) (h2 : allS l = true) : kyC l = 0 := by unfold kyC suF; rw [if_pos h1, if_pos h2]
theorem kyV_of {l : List Int} (h1 : l.length = 32) (h2 : allS l = true) : kyV l = keyS l := by unfold kyV; rw [if_pos (kyC_of h1 h2)]

end Go.Proofs.YtffidkoejlebeaaGreatDoor

namespace Go.Proofs.YtffidkoejlebeaaGreatDoor
open Go.ChangeShapes Go.WideShapes Go.ChangeAt Go.RowKit
set_option linter.unusedVariables false
set_option linter.unusedSimpArgs false

/-- A head is as it should be. -/
def hdB (z r m k : Int) : Bool := decide ((0 ≤ z ∧ z ≤ 24) ∧ (0 ≤ r ∧ r ≤ 65520) ∧ (0 ≤ m ∧ m ≤ 65520) ∧ 0 ≤ k ∧ k ≤ 7)
theorem hdB_iff {z r m k : Int} : hdB z r m k = true ↔ ((0 ≤ z ∧ z ≤ 24) ∧ (0 ≤ r ∧ r ≤ 65520) ∧ (0 ≤ m ∧ m ≤ 65520) ∧ 0 ≤ k ∧ k ≤ 7) := decide_eq_true_iff
def hdF (z r m k : Int) : Int := if hdB z r m k = true then 0 else 3
theorem hdF_zero {z r m k : Int} (h : hdF z r m k = 0) : hdB z r m k = true := by unfold hdF at h; split at h; assumption; omega
/-- The bytes of a head. -/
def hdL (z r m k : Int) : List Int := [5, z, r / 256, r % 256, m / 256, m % 256, k]
theorem hdL_len (z r m k : Int) : (hdL z r m k).length = 7 := rfl
theorem hdL_wf {z r m k : Int} (h : hdB z r m k = true) : ∀ n ∈ hdL z r m k, (Lit.int .u8 n).wf = true := by
  have := hdB_iff.1 h
  intro n hn
  simp [hdL] at hn
  exact wf_u8 (by omega) (by omega)
def hdP (z r m k : Int) : List Int := if hdB z r m k = true then hdL z r m k else []
def hdV (z r m k : Int) : Int := sumL (hdL z r m k)
def hsV (z r m k : Int) : Int := if hdB z r m k = true then hdV z r m k else 0
theorem hdV_bd (z r m k : Int) : 0 ≤ hdV z r m k ∧ hdV z r m k ≤ 65520 := sum_bd _
/-- What is read out of bytes. -/
def rdZ9 (d : List Int) : Int := d.getD 1 0
def rdR (d : List Int) : Int := 256 * d.getD 2 0 + d.getD 3 0
def rdM7 (d : List Int) : Int := 256 * d.getD 4 0 + d.getD 5 0
def rdK (d : List Int) : Int := d.getD 6 0
def rdB (d : List Int) : Bool := decide (d.length = 7 ∧ d.getD 0 0 = 5) && hdB (rdZ9 d) (rdR d) (rdM7 d) (rdK d)
def rdC9 (d : List Int) : Int := if rdB d = true then 0 else 5
def rdI (d : List Int) (v : Int) : Int := if rdB d = true then v else 0
theorem rd_pack {z r m k : Int} (h : hdB z r m k = true) : rdB (hdL z r m k) = true ∧ rdZ9 (hdL z r m k) = z ∧ rdR (hdL z r m k) = r ∧ rdM7 (hdL z r m k) = m ∧ rdK (hdL z r m k) = k := by
  have e1 : rdZ9 (hdL z r m k) = z := rfl
  have e2 : rdR (hdL z r m k) = r := by show 256 * (r / 256) + r % 256 = r; omega
  have e3 : rdM7 (hdL z r m k) = m := by show 256 * (m / 256) + m % 256 = m; omega
  have e4 : rdK (hdL z r m k) = k := rfl
  refine ⟨?_, e1, e2, e3, e4⟩
  unfold rdB
  rw [e1, e2, e3, e4, h]
  rfl
theorem pack_rd {d : List Int} (h : rdB d = true) (hw : ∀ n ∈ d, (Lit.int .u8 n).wf = true) : hdL (rdZ9 d) (rdR d) (rdM7 d) (rdK d) = d ∧ hdB (rdZ9 d) (rdR d) (rdM7 d) (rdK d) = true := by
  unfold rdB at h
  simp only [Bool.and_eq_true, decide_eq_true_eq] at h
  obtain ⟨⟨h7, h5⟩, hb⟩ := h
  refine ⟨?_, hb⟩
  match d, h7 with
  | [a, b, c, e, f, g, i], _ =>
    have u : ∀ n ∈ [a, b, c, e, f, g, i], 0 ≤ n ∧ n ≤ 255 := fun n hn => by
      have := range_u8 (zs := [n]) (fun y hy => by simp at hy; subst hy; exact hw _ hn) 0
      simpa using this
    have ua := u a (by simp)
    have uc := u c (by simp)
    have ue := u e (by simp)
    have uf := u f (by simp)
    have ug := u g (by simp)
    simp only [rdZ9, rdR, rdM7, rdK, hdL, List.getD_cons_zero, List.getD_cons_succ] at h5 ⊢
    subst h5
    have e1 : (256 * c + e) / 256 = c := by omega
    have e2 : (256 * c + e) % 256 = e := by omega
    have e3 : (256 * f + g) / 256 = f := by omega
    have e4 : (256 * f + g) % 256 = g := by omega
    rw [e1, e2, e3, e4]
/-- The fault of a signed head. -/
def sdF (z r m k i : Int) (sh ot p : List Int) : Int := if hdB z r m k = true then (if sgF i sh ot = 0 then (if i = k then (if p.length ≤ 6 then suF p else 2) else 1) else sgF i sh ot) else 3
theorem sdF_zero {z r m k i : Int} {sh ot p : List Int} (h : sdF z r m k i sh ot p = 0) : hdB z r m k = true ∧ sgF i sh ot = 0 ∧ i = k ∧ p.length ≤ 6 ∧ allS p = true := by
  unfold sdF at h
  split at h
  · split at h
    · split at h
      · split at h
        · rename_i h1 h2 h3 h4
          unfold suF at h
          split at h
          · exact ⟨h1, h2, h3, h4, ‹_›⟩
          · omega
        · omega
      · omega
    · exact absurd h ‹_›
  · omega
theorem sdF_of {z r m k i : Int} {sh ot p : List Int} (h1 : hdB z r m k = true) (h2 : sgF i sh ot = 0) (h3 : i = k) (h4 : p.length ≤ 6) (h5 : allS p = true) : sdF z r m k i sh ot p = 0 := by
  unfold sdF suF
  rw [if_pos h1, if_pos h2, if_pos h3, if_pos h4, if_pos h5]

end Go.Proofs.YtffidkoejlebeaaGreatDoor
