/- A signature in memory of one's own, number by number. Contracts of the model of chapter 8: secrets, public numbers, keys. What chapter 8 answers fits into memory. -/
import Derived.Test.YtffidkoejlebeaaGreatDoorHdD
import Derived.Test.YtffidkoejlebeaaGreatDoorRegB
import Derived.RangeFuncOwn
import Derived.RangeFuncNested
namespace Go.Proofs.YtffidkoejlebeaaGreatDoor
open Go.ChangeShapes Go.WideShapes Go.ChangeAt Go.RowKit
set_option maxRecDepth 100000
set_option linter.unusedVariables false
set_option linter.unusedSimpArgs false

/-- Numbers in memory of one's own. -/
abbrev OwnN (w : World) (base : Nat) (v : Value) (zs : List Int) : Prop := w.ownsRow base 2 1 v zs.length (zs.map (.int .i64))
/-- A signature in memory of one's own: its block, and both its lists. -/
structure SgS (V : Nat) (W0 : World) (i : Int) (sh ot : List Int) (W : World) (sv ov : Value) : Prop where
  v : Blk W V #[.int .i64 i, sv, ov] 36
  s : OwnN W W0.heap.size sv sh
  o : OwnN W W0.heap.size ov ot
  apart : ∀ g, sv.ownBlock = some g → ov.ownBlock ≠ some g
  fr : Fr (fun k => k = V) W0 W
theorem SgS.below {V : Nat} {W0 : World} {i : Int} {sh ot : List Int} {W W' : World} {sv ov : Value} (h : SgS V W0 i sh ot W sv ov) (hb : Below W.heap.size W W') : SgS V W0 i sh ot W' sv ov :=
  ⟨h.v.below hb h.v.lt, own_below h.s hb, own_below h.o hb, h.apart, h.fr.trans (M' := fun _ => False) (.of_below hb (Nat.le_refl _)) (fun _ _ e => e.elim)⟩
theorem own_ne {W : World} {b e n : Nat} {v : Value} {xs : List Value} (h : W.ownsRow b e 1 v n xs) (g : Nat) (hg : v.ownBlock = some g) : g < W.heap.size := (h.lt g hg).2
/-- One more. -/
theorem SgS.show1 {V : Nat} {W0 : World} {i x : Int} {sh ot : List Int} {W W2 W3 : World} {sv ov tv : Value} (h : SgS V W0 i sh ot W sv ov) (hV : V < W0.heap.size)
    (hb : Below W.heap.size W W2) (hown : W3.ownsRow W0.heap.size 2 1 tv (sh.length + 1) (sh.map (.int .i64) ++ [.int .i64 x])) (hg : W2.grownBy W3 sv.ownBlock)
    (hat : tv.ownBlock = sv.ownBlock ∨ tv.ownBlock = some W2.heap.size) :
    SgS V W0 i (sh ++ [x]) ot (W3.setCell ⟨V, 1, none⟩ tv) tv ov ∧ Blk W3 V #[.int .i64 i, sv, ov] 36 ∧ Fr (fun k => k = V ∨ sv.ownBlock = some k) W (W3.setCell ⟨V, 1, none⟩ tv) := by
  have h2 := h.below hb
  have f3 : Fr (fun k => sv.ownBlock = some k) W2 W3 := .of_grown hg (fun k e => e)
  have hsv : ∀ k, sv.ownBlock = some k → W0.heap.size ≤ k := fun k e => (h2.s.lt k e).1
  have v3 : Blk W3 V #[.int .i64 i, sv, ov] 36 := h2.v.fr f3 (fun e => by have := hsv V e; omega)
  have fs : Fr (fun k => k = V) W3 (W3.setCell ⟨V, 1, none⟩ tv) := (Fr.refl _ _).setCell _ _ rfl
  have o3 : OwnN W3 W0.heap.size ov ot := own_fr h2.o f3 (fun g e1 e2 => h2.apart g e2 e1)
  have os : OwnN (W3.setCell ⟨V, 1, none⟩ tv) W0.heap.size ov ot := own_fr o3 fs (fun g e1 e2 => by have := (o3.lt g e1).1; omega)
  have ns : OwnN (W3.setCell ⟨V, 1, none⟩ tv) W0.heap.size tv (sh ++ [x]) := by
    have := own_fr hown fs (fun g e1 e2 => by have := (hown.lt g e1).1; omega)
    simpa [OwnN] using this
  refine ⟨⟨by have := v3.set 1 tv; simpa using this, ns, os, fun g e1 e2 => ?_, (h2.fr.trans f3 (fun i hi e => by have := hsv i e; omega)).trans fs (fun i hi e => e)⟩, v3, ((Fr.of_below hb (Nat.le_refl _)).trans f3 (fun i _ e => .inr e)).trans fs (fun i _ e => .inl e)⟩
  rcases hat with h0 | h0
  · exact h2.apart g (h0.symm.trans e1) e2
  · rw [h0] at e1
    have := own_ne h2.o g e2
    cases e1
    omega
/-- One more. -/
theorem SgS.other1 {V : Nat} {W0 : World} {i x : Int} {sh ot : List Int} {W W2 W3 : World} {sv ov tv : Value} (h : SgS V W0 i sh ot W sv ov) (hV : V < W0.heap.size)
    (hb : Below W.heap.size W W2) (hown : W3.ownsRow W0.heap.size 2 1 tv (ot.length + 1) (ot.map (.int .i64) ++ [.int .i64 x])) (hg : W2.grownBy W3 ov.ownBlock)
    (hat : tv.ownBlock = ov.ownBlock ∨ tv.ownBlock = some W2.heap.size) :
    SgS V W0 i sh (ot ++ [x]) (W3.setCell ⟨V, 2, none⟩ tv) sv tv ∧ Blk W3 V #[.int .i64 i, sv, ov] 36 ∧ Fr (fun k => k = V ∨ ov.ownBlock = some k) W (W3.setCell ⟨V, 2, none⟩ tv) := by
  have h2 := h.below hb
  have f3 : Fr (fun k => ov.ownBlock = some k) W2 W3 := .of_grown hg (fun k e => e)
  have hsv : ∀ k, ov.ownBlock = some k → W0.heap.size ≤ k := fun k e => (h2.o.lt k e).1
  have v3 : Blk W3 V #[.int .i64 i, sv, ov] 36 := h2.v.fr f3 (fun e => by have := hsv V e; omega)
  have fs : Fr (fun k => k = V) W3 (W3.setCell ⟨V, 2, none⟩ tv) := (Fr.refl _ _).setCell _ _ rfl
  have o3 : OwnN W3 W0.heap.size sv sh := own_fr h2.s f3 (fun g e1 e2 => h2.apart g e1 e2)
  have os : OwnN (W3.setCell ⟨V, 2, none⟩ tv) W0.heap.size sv sh := own_fr o3 fs (fun g e1 e2 => by have := (o3.lt g e1).1; omega)
  have ns : OwnN (W3.setCell ⟨V, 2, none⟩ tv) W0.heap.size tv (ot ++ [x]) := by
    have := own_fr hown fs (fun g e1 e2 => by have := (hown.lt g e1).1; omega)
    simpa [OwnN] using this
  refine ⟨⟨by have := v3.set 2 tv; simpa using this, os, ns, fun g e1 e2 => ?_, (h2.fr.trans f3 (fun i hi e => by have := hsv i e; omega)).trans fs (fun i hi e => e)⟩, v3, ((Fr.of_below hb (Nat.le_refl _)).trans f3 (fun i _ e => .inr e)).trans fs (fun i _ e => .inl e)⟩
  rcases hat with h0 | h0
  · exact h2.apart g e1 (h0.symm.trans e2)
  · rw [h0] at e2
    have := own_ne h2.s g e1
    cases e2
    omega
theorem SgS.kept {V : Nat} {W0 W W' : World} {i : Int} {sh ot : List Int} {sv ov : Value} {row : Option Nat} (h : SgS V W0 i sh ot W sv ov) (hV : V < W0.heap.size) (hg : W.grownBy W' row) (hr : ∀ k, row = some k → W0.heap.size ≤ k ∧ ∃ o : Obj, W.heap[k]? = some o ∧ o.isCells = false) : SgS V W0 i sh ot W' sv ov := by
  have hf : Fr (fun k => row = some k) W W' := .of_grown hg (fun k e => e)
  refine ⟨h.v.fr hf (fun e => by have := (hr V e).1; omega), own_fr h.s hf (fun g e1 e2 => ?_), own_fr h.o hf (fun g e1 e2 => ?_), h.apart, h.fr.trans hf (fun i hi e => by have := (hr i e).1; omega)⟩
  · obtain ⟨cs, hc⟩ := own_cells h.s e1
    obtain ⟨_, o, ho, hn⟩ := hr g e2
    rw [hc] at ho; cases ho; cases hn
  · obtain ⟨cs, hc⟩ := own_cells h.o e1
    obtain ⟨_, o, ho, hn⟩ := hr g e2
    rw [hc] at ho; cases ho; cases hn
/-- What a round owes to the loop over the iterator. -/
theorem SgS.pays {V : Nat} {W0 W W' : World} {i : Int} {sh ot : List Int} {sv ov : Value} (h : SgS V W0 i sh ot W sv ov) (hV : V < W0.heap.size) (hf : Fr (fun k => k = V ∨ sv.ownBlock = some k ∨ ov.ownBlock = some k) W W') : KeepsFrom W0.heap.size W W' := by
  refine ⟨hf.size, fun k o hk ho hn => ?_⟩
  refine (hf.block k (Array.getElem?_eq_some_iff.1 ho).1 ?_).trans ho
  rintro (e | e | e)
  · omega
  · obtain ⟨cs, hc⟩ := own_cells h.s e
    rw [hc] at ho; cases ho; cases hn
  · obtain ⟨cs, hc⟩ := own_cells h.o e
    rw [hc] at ho; cases ho; cases hn

end Go.Proofs.YtffidkoejlebeaaGreatDoor

namespace Go.Proofs.YtffidkoejlebeaaGreatDoor
open Go.ChangeShapes Go.WideShapes Go.ChangeAt Go.RowKit
set_option maxRecDepth 100000
set_option linter.unusedVariables false
set_option linter.unusedSimpArgs false

theorem lit_new (w : World) (xs : List Value) (T : Nat) : ∀ (j : Nat) (u : Value), xs[j]? = some u → (w.alloc (.cells xs.toArray T)).cell? ((⟨w.heap.size, 0, none⟩ : Addr).add j) = some u := by
  intro j u hj
  have h := (Blk.new w xs.toArray T).cell j
  rw [List.getElem?_toArray, hj] at h
  by_cases h0 : j = 0
  · subst h0; simpa [Addr.add] using h
  · simpa [Addr.add, h0] using h
theorem empty_ownN (w : World) : OwnN (w.alloc (.cells #[] 2)) w.heap.size (.slice (some ⟨w.heap.size, 0, none⟩) 0 0) [] := World.ownsRow_lit w #[] 0 (Nat.le_refl _) (Nat.zero_le _) rfl
theorem nil_ownN (w : World) (base : Nat) : OwnN w base (.slice none 0 0) [] := ⟨rfl, .inl ⟨rfl, rfl⟩⟩
theorem own_shape1 {w : World} {base e n : Nat} {v : Value} {xs : List Value} (h : w.ownsRow base e 1 v n xs) : ∃ a c, v = .slice a n c ∧ n ≤ c ∧ c ≤ maxLen := by
  rcases h.2 with ⟨rfl, h0⟩ | ⟨g, cap, cur, rfl, _, _, h1, h2, _⟩
  · exact ⟨none, 0, by rw [h0], by omega, Nat.zero_le _⟩
  · exact ⟨_, cap, rfl, h1, h2⟩

theorem l8Bit_any (x : Int) (b : Nat) (w : World) (hx : 0 ≤ x ∧ x ≤ 65520) (hb : b < 16) : Calls Tryz.prog 99 #[.int .i64 x, .int .i64 b] w fun r w' => r = .returned (.int .i64 (bitV x b)) ∧ w' = w := by
  have HB : Hid (bitV x b = x / 2 ^ b % 2) := rfl
  have hb' : (b : Int) < 16 := by omega
  have hq : 0 ≤ x / 2 ^ b := Int.ediv_nonneg hx.1 (by have := Int.pow_pos (show (0 : Int) < 2 by decide) (m := b); omega)
  obtain ⟨Q, hQ⟩ : ∃ Q, x / 2 ^ b = Q := ⟨_, rfl⟩
  rw [hQ] at hq HB
  go_enter Tryz.func99, Tryz.ntmps99
  go_wp2
  go_ret
  exact ⟨ret_int HB.out.symm, rfl⟩

set_option maxHeartbeats 2000000 in
theorem l8Secret_any (s i b d : Int) (w : World) (hs : 0 ≤ s ∧ s ≤ 999) (h2 : 0 ≤ i ∧ i ≤ 7) (hb : 0 ≤ b ∧ b ≤ 15) (hd : 0 ≤ d ∧ d ≤ 1) :
    Calls Tryz.prog 100 #[.int .i64 s, .int .i64 i, .int .i64 b, .int .i64 d] w fun r w' => r = .returned (.int .i64 (secV s i b d)) ∧ Below w.heap.size w w' := by
  obtain ⟨i0, hi, hz0, hz1, hz2⟩ := info_parts info8
  have hown0 : (w.alloc (.cells #[.int .u8 3] 5)).ownsRow w.heap.size 5 1 (.slice (some ⟨w.heap.size, 0, none⟩) 1 1) 1 [.int .u8 3] := World.ownsRow_lit w #[.int .u8 3] 1 (Nat.le_refl _) (by unfold maxLen; omega) rfl
  have WF : Hid (∀ n ∈ secL s i b d, (Lit.int .u8 n).wf = true) := secL_wf hs h2 hb hd
  go_enter Tryz.func100, Tryz.ntmps100
  go_wp2_with fail
  refine (l2Two_any s _ hs.1 (by omega)).mono ?_
  rintro r u1 ⟨rfl, rfl⟩
  go_wp2_with (first | ((at_builtin; refine wpList_append_own _ rfl _ _ 22 rfl w.heap.size 5 i0 (.int .u8 0) 1 1 Tryz.underlying22 hi hz0 hz1 hz2 rfl (by decide) _ _ _ rfl (hown0.alloc _) ⟨w.heap.size + 1, 0, none⟩ 2 2 [.int .u8 (s / 256), .int .u8 (s % 256)] rfl (by simp) (by simpa using two_new (w.alloc (.cells #[.int .u8 3] 5)) (.int .u8 (s / 256)) (.int .u8 (s % 256)) 5) (by intro u hu; simp at hu; rcases hu with rfl | rfl <;> rfl) (by unfold maxLen; omega) (by omega) (by simp; omega) ?_; intro v1 w1 hn1 hg1 hx1); have hb1 := (((Below.refl w.heap.size w).alloc (Nat.le_refl _) _).alloc (by simp) _).trans ((Below.refl _ _).grown hg1 (by simp; omega) (fun k hk => (hown0.lt k hk).1)); have hz1' := hb1.size; have HN := hn1; clear hn1 hg1 hx1) | ((at_builtin; refine wpList_append_own _ rfl _ _ 22 rfl w.heap.size 5 i0 (.int .u8 0) 1 1 Tryz.underlying22 hi hz0 hz1 hz2 rfl (by decide) _ _ _ rfl (HN.alloc _) ⟨_, 0, none⟩ 3 3 [.int .u8 i, .int .u8 b, .int .u8 d] rfl (by simp) (lit_new _ [.int .u8 i, .int .u8 b, .int .u8 d] 5) (by intro u hu; simp at hu; rcases hu with rfl | rfl | rfl <;> rfl) (by unfold maxLen; omega) (by omega) (by simp; omega) ?_; intro v2 w2 hn2 hg2 hx2)))
  have hb2 := (hb1.alloc hz1' (.cells #[.int .u8 i, .int .u8 b, .int .u8 d] 5)).trans ((Below.refl w.heap.size _).grown hg2 (by simp; omega) (fun k hk => (HN.lt k hk).1))
  have hown4 : w2.ownsRow w.heap.size 5 1 v2 (secL s i b d).length ((secL s i b d).map (.int .u8)) := by simpa [secL] using hn2
  obtain ⟨a', c', rfl⟩ := own_row_shape hown4
  have H := has_of_own hown4 WF.out
  clear hn2 hg2 hx2 HN hown0
  refine (l2Sum_any a' c' (secL s i b d) _ H (by simp [secL])).mono ?_
  rintro r u2 ⟨rfl, rfl⟩
  go_wp2
  go_ret
  exact ⟨rfl, hb2⟩

theorem l8Open_any (x : Int) (w : World) (h0 : 0 ≤ x) (h1 : x ≤ 65535) :
    Calls Tryz.prog 101 #[.int .i64 x] w fun r w' => r = .returned (.int .i64 (opnV x)) ∧ Below w.heap.size w w' := by
  have WF : Hid (∀ n ∈ leafL (twoL x), (Lit.int .u8 n).wf = true) := leaf_wf (twoL_wf h0 h1)
  have H2 := has_two w (x := x / 256) (y := x % 256) 5 (by omega) (by omega)
  go_enter Tryz.func101, Tryz.ntmps101
  go_wp2_with fail
  refine (l2Two_any x _ h0 h1).mono ?_
  rintro r u1 ⟨rfl, rfl⟩
  go_wp2_with fail
  refine (l2Leaf_any _ 2 (twoL x) _ H2 (by simp [twoL])).mono ?_
  rintro r u2 ⟨a', c', rfl, O2, hb2⟩
  have H := has_of_own O2 WF.out
  have e : (twoL x).length + 1 = (leafL (twoL x)).length := by simp [leafL]
  rw [e]
  clear O2 H2 e
  have B2 : Below w.heap.size w u2 := ((Below.refl _ _).alloc (Nat.le_refl _) _).trans (hb2.mono (by simp))
  go_wp2_with fail
  refine (l2Sum_any a' c' (leafL (twoL x)) _ H (by simp [leafL, twoL])).mono ?_
  rintro r u3 ⟨rfl, rfl⟩
  go_wp2
  go_ret
  exact ⟨rfl, B2⟩

set_option maxHeartbeats 2000000 in
theorem l8Public_any (s i : Int) (w : World) (hs : 0 ≤ s ∧ s ≤ 999) (h2 : 0 ≤ i ∧ i ≤ 7) :
    Calls Tryz.prog 74 #[.int .i64 s, .int .i64 i] w fun r w' => ∃ a' c', r = .returned (.slice a' (pubL s i).length c') ∧ OwnN w' w.heap.size (.slice a' (pubL s i).length c') (pubL s i) ∧ Below w.heap.size w w' := by
  obtain ⟨i0, hi, hz0, hz1, hz2⟩ := info_parts info64
  have hown0 := empty_ownN w
  have SE : Hid (∀ (n : Nat) (d : Int) (u : World), n < 16 → 0 ≤ d ∧ d ≤ 1 → Calls Tryz.prog 100 #[.int .i64 s, .int .i64 i, .int .i64 n, .int .i64 d] u fun r w' => r = .returned (.int .i64 (secV s i n d)) ∧ Below u.heap.size u w') := fun n d u h h' => l8Secret_any s i n d u hs h2 (by omega) h'
  have OP : Hid (∀ (n : Nat) (d : Int) (u : World), Calls Tryz.prog 101 #[.int .i64 (secV s i n d)] u fun r w' => r = .returned (.int .i64 (opnV (secV s i n d))) ∧ Below u.heap.size u w') := fun n d u => l8Open_any _ u (secV_bd _ _ _ _).1 (by have := secV_bd s i n d; omega)
  have SU : Hid (∀ n, pubW s i (List.range (n + 1)) = pubW s i (List.range n) ++ [opnV (secV s i n 0), opnV (secV s i n 1)]) := fun n => pubW_succ s i n
  have LN : Hid (∀ n, (pubW s i (List.range n)).length = 2 * n) := fun n => by rw [pubW_len, List.length_range]
  have EQ : Hid (pubL s i = pubW s i (List.range 16)) := rfl
  go_enter Tryz.func74, Tryz.ntmps74
  go_wp2
  go_loopw [5, 6] (fun v b wr => ∃ n : Nat, n ≤ 16 ∧ b = .int .i64 n ∧ OwnN wr w.heap.size v (pubW s i (List.range n)) ∧ Below w.heap.size w wr) (fun _ b _ => 16 - (intOf b).toNat)
  case atStart => exact ⟨0, Nat.zero_le _, rfl, hown0, (Below.refl _ _).alloc (Nat.le_refl _) _⟩
  case round =>
    clear hown0
    obtain ⟨n, hn, rfl, hO, hbel⟩ := hrel
    obtain ⟨va, vc, rfl, _, _⟩ := own_shape1 hO
    have zr := hbel.size
    by_cases hlt : n < 16
    · have hlt' : (n : Int) < 16 := by omega
      have hl := LN.out n
      have zl : (pubW s i (List.range n)).length ≤ 32 := by omega
      clear hl
      have HSU := SU.out n
      have S0 := SE.out n 0
      have S1 := SE.out n 1
      have P0 := OP.out n 0
      have P1 := OP.out n 1
      generalize secV s i n 0 = x0 at *
      generalize secV s i n 1 = x1 at *
      generalize opnV x0 = y0 at *
      generalize opnV x1 = y1 at *
      generalize pubW s i (List.range n) = zs at *
      have HS2 : Hid (pubW s i (List.range (n + 1)) = zs ++ [y0, y1]) := HSU
      clear HSU
      go_wp2_with fail
      refine (S0 _ hlt ⟨by decide, by decide⟩).mono ?_
      rintro r u1 ⟨rfl, hb1⟩
      have B1 := hbel.trans (hb1.mono zr)
      replace hO := own_below hO hb1
      clear hb1
      go_wp2_with fail
      refine (P0 _).mono ?_
      rintro r u2 ⟨rfl, hb2⟩
      have B2 := B1.trans (hb2.mono B1.size)
      replace hO := own_below hO hb2
      clear hb2
      go_wp2_with fail
      refine (S1 _ hlt ⟨by decide, by decide⟩).mono ?_
      rintro r u3 ⟨rfl, hb3⟩
      have B3 := B2.trans (hb3.mono B2.size)
      replace hO := own_below hO hb3
      clear hb3
      go_wp2_with fail
      refine (P1 _).mono ?_
      rintro r u4 ⟨rfl, hb4⟩
      have B4 := B3.trans (hb4.mono B3.size)
      replace hO := own_below hO hb4
      clear hb4
      have z4 := B4.size
      go_wp2_with (at_builtin; refine wpList_append_own _ rfl _ _ 34 rfl w.heap.size 2 i0 (.int .i64 0) 1 8 Tryz.underlying34 hi hz0 hz1 hz2 rfl (by decide) _ (zs.length) _ rfl (hO.alloc _) ⟨u4.heap.size, 0, none⟩ 2 2 [.int .i64 y0, .int .i64 y1] rfl (by simp) (lit_new _ [.int .i64 y0, .int .i64 y1] 2) (by intro u hu; simp at hu; rcases hu with rfl | rfl <;> rfl) (by unfold maxLen; omega) (by omega) (by simp; omega) ?_; intro v5 w5 hn5 hg5 hx5)
      have B5 : Below w.heap.size w w5 := (B4.alloc z4 _).trans ((Below.refl _ _).grown hg5 (by simp; omega) (fun k hk => (hO.lt k hk).1))
      have O5 : OwnN w5 w.heap.size v5 (pubW s i (List.range (n + 1))) := by
        rw [HS2.out]
        show World.ownsRow w5 _ _ 1 v5 (zs ++ [y0, y1]).length _
        rw [List.length_append]
        simpa using hn5
      clear hn5 hg5 hx5 hO
      go_wp2
      go_roundw
      case rel => exact ⟨n + 1, by omega, by go_num, O5, B5⟩
      case measure => simp [intOf]; omega
    · obtain rfl : n = 16 := by omega
      clear hlt
      rw [← EQ.out] at hO
      have HO : Hid (_) := hO
      clear hO
      go_wp2
      go_ret
      refine ⟨va, vc, ?_, HO.out, hbel⟩
      rw [EQ.out]
      rfl

set_option maxHeartbeats 2000000 in
theorem l8KeySum_any (a : Option Addr) (c : Nat) (l : List Int) (w : World) (h : Has w .i64 a l.length l) (hpos : 0 < l.length) (hl : l.length ≤ 100) (hall : allS l = true) :
    Calls Tryz.prog 73 #[.slice a l.length c] w fun r w' => r = .returned (.int .i64 (keyS l)) ∧ Below w.heap.size w w' := by
  obtain ⟨i0, hi, hz0, hz1, hz2⟩ := info_parts info8
  have hown0 : (w.alloc (.cells #[.int .u8 4] 5)).ownsRow w.heap.size 5 1 (.slice (some ⟨w.heap.size, 0, none⟩) 1 1) 1 [.int .u8 4] := World.ownsRow_lit w #[.int .u8 4] 1 (Nat.le_refl _) (by unfold maxLen; omega) rfl
  have WF : Hid (∀ n ∈ keyB l, (Lit.int .u8 n).wf = true) := keyB_wf hall
  have SU : Hid (∀ k (h : k < l.length), keyB (l.take (k + 1)) = keyB (l.take k) ++ [l[k] / 256, l[k] % 256]) := fun k h => by unfold keyB; rw [numB_succ l k h]; rfl
  have LN : Hid (∀ k, k ≤ l.length → (keyB (l.take k)).length = 2 * k + 1) := fun k h => by rw [keyB_len, List.length_take]; omega
  have EN : Hid (keyB (l.take l.length) = keyB l) := by show _ = _; rw [List.take_length]
  have BD : Hid (∀ k (h : k < l.length), 0 ≤ l[k] ∧ l[k] ≤ 65520) := fun k h => allS_get hall k h
  have KS : Hid (keyS l = sumL (keyB l)) := rfl
  have KL : Hid ((keyB l).length ≤ 2097152) := by show _ ≤ _; rw [keyB_len]; omega
  rcases h.2.2 with h0 | ⟨b, off, rfl, hb, hcell⟩
  · omega
  clear h hall
  go_enter Tryz.func73, Tryz.ntmps73
  go_wp2
  go_loopw [3, 4] (fun v i wr => ∃ k : Nat, k ≤ l.length ∧ i = .int .i64 k ∧ wr.ownsRow w.heap.size 5 1 v (keyB (l.take k)).length ((keyB (l.take k)).map (.int .u8)) ∧ Below w.heap.size w wr) (fun _ i _ => l.length - (intOf i).toNat)
  case atStart => exact ⟨0, Nat.zero_le _, rfl, hown0, (Below.refl _ _).alloc (Nat.le_refl _) _⟩
  case round =>
    clear hown0
    obtain ⟨k, hk, rfl, hO, hbel⟩ := hrel
    obtain ⟨va, vc, rfl, _, _⟩ := own_shape1 hO
    have zr := hbel.size
    by_cases hlt : k < l.length
    · have hlt' : (k : Int) < (l.length : Int) := by omega
      have zl : (keyB (l.take k)).length ≤ 300 := by have := LN.out k hk; omega
      have e1 : wr.cell? ⟨b, off + k, none⟩ = some (.int .i64 l[k]) := (hbel.cell (p := ⟨b, off + k, none⟩) hb).trans (by rw [hcell k hlt]; simp [List.getD, hlt])
      have bd := BD.out k hlt
      have HSU : Hid (_) := SU.out k hlt
      clear hcell
      generalize l[k] = x at *
      generalize keyB (l.take k) = zs at *
      go_wp2_with fail
      refine (l2Two_any x _ bd.1 (by omega)).mono ?_
      rintro r u1 ⟨rfl, rfl⟩
      go_wp2_with (at_builtin; refine wpList_append_own _ rfl _ _ 22 rfl w.heap.size 5 i0 (.int .u8 0) 1 1 Tryz.underlying22 hi hz0 hz1 hz2 rfl (by decide) _ (zs.length) _ rfl (hO.alloc _) ⟨wr.heap.size, 0, none⟩ 2 2 [.int .u8 (x / 256), .int .u8 (x % 256)] rfl (by simp) (two_new _ _ _ _) (by intro u hu; simp at hu; rcases hu with rfl | rfl <;> rfl) (by unfold maxLen; omega) (by omega) (by simp; omega) ?_; intro v5 w5 hn5 hg5 hx5)
      have B5 : Below w.heap.size w w5 := (hbel.alloc zr _).trans ((Below.refl _ _).grown hg5 (by simp; omega) (fun k hk => (hO.lt k hk).1))
      have O5 : w5.ownsRow w.heap.size 5 1 v5 (keyB (l.take (k + 1))).length ((keyB (l.take (k + 1))).map (.int .u8)) := by
        rw [HSU.out, List.length_append]
        simpa using hn5
      clear hn5 hg5 hx5 hO
      go_wp2
      go_roundw
      case rel => exact ⟨k + 1, by omega, by go_num, O5, B5⟩
      case measure => simp [intOf]; omega
    · obtain rfl : k = l.length := by omega
      clear hlt
      rw [EN.out] at hO
      have H := has_of_own hO WF.out
      clear hO hcell
      have el := EN.out
      rw [el]
      clear el
      go_wp2_with fail
      refine (l2Sum_any va vc (keyB l) _ H KL.out).mono ?_
      rintro r u2 ⟨rfl, rfl⟩
      go_wp2
      go_ret
      exact ⟨ret_int KS.out.symm, hbel⟩

set_option maxHeartbeats 2000000 in
theorem l8Keys_any (s : Int) (N : Nat) (w : World) (hs : 0 ≤ s ∧ s ≤ 999) (hN : N ≤ 8) :
    Calls Tryz.prog 43 #[.int .i64 s, .int .i64 N] w fun r w' => ∃ a' c', r = .returned (.slice a' (keysL s N).length c') ∧ OwnN w' w.heap.size (.slice a' (keysL s N).length c') (keysL s N) ∧ Below w.heap.size w w' := by
  obtain ⟨i0, hi, hz0, hz1, hz2⟩ := info_parts info64
  have hown0 := empty_ownN w
  have PB : Hid (∀ (n : Nat) (u : World), n < 8 → Calls Tryz.prog 74 #[.int .i64 s, .int .i64 n] u fun r w' => ∃ a' c', r = .returned (.slice a' (pubL s n).length c') ∧ OwnN w' u.heap.size (.slice a' (pubL s n).length c') (pubL s n) ∧ Below u.heap.size u w') := fun n u h => l8Public_any s n u hs (by omega)
  have KS : Hid (∀ (n : Nat) (a : Option Addr) (c : Nat) (u : World), Has u .i64 a (pubL s n).length (pubL s n) → Calls Tryz.prog 73 #[.slice a (pubL s n).length c] u fun r w' => r = .returned (.int .i64 (keyS (pubL s n))) ∧ Below u.heap.size u w') := fun n a c u h => l8KeySum_any a c _ u h (by rw [pubL_len]; omega) (by rw [pubL_len]; omega) (pubL_all _ _)
  have WF : Hid (∀ n : Nat, ∀ x ∈ pubL s n, (Lit.int .i64 x).wf = true) := fun n => allS_wf (pubL_all s n)
  have SU : Hid (∀ n, keysL s (n + 1) = keysL s n ++ [keyS (pubL s n)]) := fun n => keysL_succ s n
  have LN : Hid (∀ n, (keysL s n).length = n) := fun n => keysL_len s n
  go_enter Tryz.func43, Tryz.ntmps43
  go_wp2
  go_loopw [5, 6] (fun v b wr => ∃ n : Nat, n ≤ N ∧ b = .int .i64 n ∧ OwnN wr w.heap.size v (keysL s n) ∧ Below w.heap.size w wr) (fun _ b _ => N - (intOf b).toNat)
  case atStart => exact ⟨0, Nat.zero_le _, rfl, hown0, (Below.refl _ _).alloc (Nat.le_refl _) _⟩
  case round =>
    clear hown0
    obtain ⟨n, hn, rfl, hO, hbel⟩ := hrel
    obtain ⟨va, vc, rfl, _, _⟩ := own_shape1 hO
    have zr := hbel.size
    by_cases hlt : n < N
    · have hlt' : (n : Int) < (N : Int) := by omega
      have zl : (keysL s n).length ≤ 32 := by have := LN.out n; omega
      have HSU := SU.out n
      have P := PB.out n
      have K := KS.out n
      have W := WF.out n
      generalize keyS (pubL s n) = y at *
      generalize pubL s n = ps at *
      generalize keysL s n = zs at *
      have HS2 : Hid (keysL s (n + 1) = zs ++ [y]) := HSU
      have WH : Hid (∀ x ∈ ps, (Lit.int .i64 x).wf = true) := W
      clear HSU W
      go_wp2_with fail
      refine (P _ (by omega)).mono ?_
      rintro r u1 ⟨pa, pc, rfl, O1, hb1⟩
      have B1 := hbel.trans (hb1.mono zr)
      replace hO := own_below hO hb1
      have H1 := has_of_own O1 WH.out
      clear hb1 O1
      go_wp2_with fail
      refine (K pa pc _ H1).mono ?_
      rintro r u2 ⟨rfl, hb2⟩
      have B2 := B1.trans (hb2.mono B1.size)
      replace hO := own_below hO hb2
      clear hb2 H1
      have z2 := B2.size
      go_wp2_with (at_builtin; refine wpList_append_own _ rfl _ _ 34 rfl w.heap.size 2 i0 (.int .i64 0) 1 8 Tryz.underlying34 hi hz0 hz1 hz2 rfl (by decide) _ (zs.length) _ rfl (hO.alloc _) ⟨u2.heap.size, 0, none⟩ 1 1 [.int .i64 y] rfl (by simp) (lit_new _ [.int .i64 y] 2) (by intro u hu; simp at hu; rcases hu with rfl <;> rfl) (by unfold maxLen; omega) (by omega) (by simp; omega) ?_; intro v5 w5 hn5 hg5 hx5)
      have B5 : Below w.heap.size w w5 := (B2.alloc z2 _).trans ((Below.refl _ _).grown hg5 (by simp; omega) (fun k hk => (hO.lt k hk).1))
      have O5 : OwnN w5 w.heap.size v5 (keysL s (n + 1)) := by
        rw [HS2.out]
        show World.ownsRow w5 _ _ 1 v5 (zs ++ [y]).length _
        rw [List.length_append]
        simpa using hn5
      clear hn5 hg5 hx5 hO
      go_wp2
      go_roundw
      case rel => exact ⟨n + 1, by omega, by go_num, O5, B5⟩
      case measure => simp [intOf]; omega
    · obtain rfl : n = N := by omega
      clear hlt
      have HO : Hid (_) := hO
      clear hO
      go_wp2
      go_ret
      exact ⟨va, vc, rfl, HO.out, hbel⟩

end Go.Proofs.YtffidkoejlebeaaGreatDoor

namespace Go.Proofs.YtffidkoejlebeaaGreatDoor
open Go.ChangeShapes Go.WideShapes Go.ChangeAt Go.RowKit
set_option maxRecDepth 100000
set_option linter.unusedVariables false
set_option linter.unusedSimpArgs false

theorem pkL_ok (s i : Int) : (pkL s i).length ≤ 1048576 ∧ ∀ n ∈ pkL s i, (Lit.int .i64 n).wf = true := by
  unfold pkL
  by_cases h : siOk s i = true
  · rw [if_pos h]
    exact ⟨by rw [pubL_len]; decide, allS_wf (pubL_all s i)⟩
  · rw [if_neg h]
    exact ⟨by decide, fun n hn => by cases hn⟩
theorem ssS_ok (s i x : Int) : (ssS s i x).length ≤ 300 ∧ ∀ n ∈ ssS s i x, (Lit.int .i64 n).wf = true := by
  unfold ssS
  by_cases h : ssOk s i x = true
  · rw [if_pos h]
    exact ⟨by rw [shW_len]; decide, allS_wf (shW_all s i x _)⟩
  · rw [if_neg h]
    exact ⟨by decide, fun n hn => by cases hn⟩
theorem ssO_ok (s i x : Int) : (ssO s i x).length ≤ 300 ∧ ∀ n ∈ ssO s i x, (Lit.int .i64 n).wf = true := by
  unfold ssO
  by_cases h : ssOk s i x = true
  · rw [if_pos h]
    exact ⟨by rw [otW_len]; decide, allS_wf (otW_all s i x _)⟩
  · rw [if_neg h]
    exact ⟨by decide, fun n hn => by cases hn⟩
theorem fldG0 (a b : Int) (p q : Option Addr) (n c m d : Nat) (w : World) : (Instr.field 90 (.agg #[.int .i64 a, .int .i64 b, .slice p n c, .slice q m d]) 0).run Tryz.prog w = .ok (.int .i64 a) w := by kernel_rfl
theorem getD_at {l : List Int} {k : Nat} (h : k < l.length) : l[k] = l.getD k 0 := by simp [List.getD, h]

end Go.Proofs.YtffidkoejlebeaaGreatDoor
