/- Contracts: the model's draw of slots and a proof of a key. -/
import Derived.Test.YtjkehgnelfgoaaaDoorSDr
import Derived.Test.YtjkehgnelfgoaaaDoorSlP
import Derived.Test.YtjkehgnelfgoaaaDoorSlG
namespace Go.Proofs.YtjkehgnelfgoaaaDoor
open Go.ChangeShapes Go.WideShapes Go.ChangeAt Go.RowKit
set_option maxRecDepth 100000
set_option linter.unusedVariables false
set_option linter.unusedSimpArgs false

/-- What is drawn: slots, a key, a value, a path. -/
structure WiA (w : World) (lo : Nat) (l : List Sl) (a1 : Option Addr) (c1 : Nat) (k v : Int) (a2 : Option Addr) (c2 : Nat) (p : List Int) : Prop where
  l4 : l.length ≤ 4
  ok : ∀ x ∈ l, slOk x = true
  ris : Rises l
  h1 : OwnS w lo (.slice a1 l.length c1) l
  kb : 0 ≤ k ∧ k ≤ 64
  vb : 0 ≤ v ∧ v ≤ 65521
  p6 : p.length ≤ 6
  cp : p.length ≤ c2 ∧ c2 ≤ maxLen
  h2 : Has w .i64 a2 p.length p
  b2 : ∀ ad, a2 = some ad → lo ≤ ad.block
theorem WiA.below {w w' : World} {lo c1 c2 : Nat} {l : List Sl} {a1 a2 : Option Addr} {k v : Int} {p : List Int} (h : WiA w lo l a1 c1 k v a2 c2 p) (hb : Below w.heap.size w w') : WiA w' lo l a1 c1 k v a2 c2 p :=
  ⟨h.l4, h.ok, h.ris, own2_below h.h1 hb, h.kb, h.vb, h.p6, h.cp, h.h2.below hb (Nat.le_refl _), h.b2⟩
theorem WiA.only {w w' : World} {s lo c1 c2 : Nat} {l : List Sl} {a1 a2 : Option Addr} {k v : Int} {p : List Int} (h : WiA w lo l a1 c1 k v a2 c2 p) (ho : Only s w w') (hs : s < lo) : WiA w' lo l a1 c1 k v a2 c2 p :=
  ⟨h.l4, h.ok, h.ris, own_only h.h1 ho hs, h.kb, h.vb, h.p6, h.cp, h.h2.only ho (fun ad e => by have := h.b2 ad e; omega), h.b2⟩
theorem own_form7 {w : World} {base e n c : Nat} {a : Option Addr} {xs : List Value} (h : w.ownsRow base e 1 (.slice a n c) n xs) (hn : n = 6) : ∃ g, a = some ⟨g, 0, none⟩ ∧ base ≤ g ∧ g < w.heap.size ∧ 6 ≤ c ∧ c ≤ maxLen := by
  subst hn
  rcases h.2 with ⟨_, h0⟩ | ⟨g, cap, cur, hv, hb, hg, h1, h2, _⟩
  · omega
  · simp at hv
    obtain ⟨rfl, rfl⟩ := hv
    exact ⟨g, rfl, hb, (Array.getElem?_eq_some_iff.1 hg).1, h1, h2⟩
theorem hasP7 {w : World} {base c g : Nat} {P : List Int} (h : w.ownsRow base 2 1 (.slice (some ⟨g, 0, none⟩) 6 c) 6 (P.map (.int .i64))) (hw : ∀ n ∈ P, (Lit.int .i64 n).wf = true) (h6 : P.length = 6) : Has w .i64 (some ⟨g, 0, none⟩) P.length P := by
  have h' : w.ownsRow base 2 1 (.slice (some ⟨g, 0, none⟩) P.length c) P.length (P.map (.int .i64)) := by rw [h6]; exact h
  exact has_of_own h' hw
theorem hasT7 {w : World} {base c g : Nat} {P : List Int} (h : w.ownsRow base 2 1 (.slice (some ⟨g, 0, none⟩) 6 c) 6 (P.map (.int .i64))) (hw : ∀ n ∈ P, (Lit.int .i64 n).wf = true) (h6 : P.length = 6) : Has w .i64 (some ⟨g, 1, none⟩) (P.drop 1).length (P.drop 1) := by
  obtain ⟨e1, e2, e3⟩ := hasP7 h hw h6
  refine ⟨rfl, fun n hn => hw n (List.mem_of_mem_drop hn), .inr ?_⟩
  rcases e3 with h0 | ⟨b, off, e, hlt, hc⟩
  · omega
  · simp at e
    obtain ⟨rfl, rfl⟩ := e
    refine ⟨g, 1, rfl, hlt, fun i hi => ?_⟩
    have := hc (1 + i) (by simp at hi; omega)
    rw [show 0 + (1 + i) = 1 + i by omega] at this
    rw [this]
    simp [List.getD, List.getElem?_drop, Nat.add_comm]
theorem wf_set7 {l : List Int} (h : ∀ n ∈ l, (Lit.int .i64 n).wf = true) (k : Nat) {x : Int} (hx : (Lit.int .i64 x).wf = true) : ∀ n ∈ l.set k x, (Lit.int .i64 n).wf = true := by
  intro n hn
  rcases List.mem_or_eq_of_mem_set hn with c | c
  · exact h n c
  · rw [c]; exact hx
theorem cell7 {w : World} {base c g : Nat} {P : List Int} (h : w.ownsRow base 2 1 (.slice (some ⟨g, 0, none⟩) 6 c) 6 (P.map (.int .i64))) (h6 : P.length = 6) {j : Nat} (hj : j < 6) (v : Value) (y : Int) (hv : v = .int .i64 y) : w.cell? ⟨g, j, none⟩ = some (.int .i64 (P.getD j 0)) ∧ w.frozen? ⟨g, j, none⟩ = false ∧ (w.setCell ⟨g, j, none⟩ v).ownsRow base 2 1 (.slice (some ⟨g, 0, none⟩) 6 c) 6 ((P.set j y).map (.int .i64)) := by
  subst hv
  refine ⟨(h.cellAt j (by simp; omega)).trans ?_, h.frozenAt j, ?_⟩
  · rw [List.getElem?_map, List.getElem?_eq_getElem (show j < P.length by omega)]
    simp [List.getD, List.getElem?_eq_getElem (show j < P.length by omega)]
  · rw [List.map_set]
    exact (h.stored j (.int .i64 y)).1

set_option maxHeartbeats 8000000 in
theorem l7With_any (w : World) (B s : Nat) (a : Option Addr) (len cap : Nat) (zs : List Int) (t : Nat) (h : SrcAt (w) B s a len cap zs (t)) (ht : t ≤ 80000) :
    Calls Tryd.prog 45 #[.pointer (some ⟨s, 0, none⟩)] w fun e w' => ∃ (a1 : Option Addr) (c1 : Nat) (l : List Sl) (k : Int) (tt : Bool) (v : Int) (a2 : Option Addr) (c2 : Nat) (p : List Int) (t' : Nat), e = .returned (.tuple #[.slice a1 l.length c1, .int .i64 k, .bool tt, .int .i64 v, .slice a2 p.length c2]) ∧ WiA w' w.heap.size l a1 c1 k v a2 c2 p ∧ SrcAt (w') B s a len cap zs (t') ∧ t' ≤ t + 20 ∧ Only s w w' := by
  have hlt := h.lt
  go_enter Tryd.func45, Tryd.ntmps45
  go_wp2_with fail
  refine (l7Draw_any w B s a len cap zs t h (by omega)).mono ?_
  rintro e u1 ⟨a1, c1, l, t1, rfl, l4, ok, ri, P1, S1, ht1, N1⟩
  clear h
  have PH : Hid (∀ i, i < ([0, 1, 5, 63, 33] : List Int).length → (u1.alloc (.cells #[.int .i64 0, .int .i64 1, .int .i64 5, .int .i64 63, .int .i64 33] 2)).cell? ⟨u1.heap.size, i, none⟩ = some (.int .i64 (([0, 1, 5, 63, 33] : List Int).getD i 0))) := cells_lit u1 [0, 1, 5, 63, 33] 2 _ rfl
  go_wp2_with fail
  refine (pick_any _ B s a len cap zs t1 (S1.alloc _) (by omega) u1.heap.size [0, 1, 5, 63, 33] 5 rfl (by simp) (by have := S1.lt; omega) (by omega) (by omega) 5 PH.out).mono ?_
  rintro e u2 ⟨k, rfl, hp2, S2, Y2⟩
  clear PH
  have kb' : 0 ≤ k ∧ k ≤ 63 := by simp at hp2; omega
  have kb : 0 ≤ k ∧ k ≤ 64 := ⟨kb'.1, by omega⟩
  have P2 : OwnS u2 w.heap.size (.slice a1 l.length c1) l := own_only (own2_below P1 ((Below.refl _ _).alloc (Nat.le_refl _) _)) Y2 hlt
  have N2 := (N1.alloc (.cells #[.int .i64 0, .int .i64 1, .int .i64 5, .int .i64 63, .int .i64 33] 2)).trans Y2
  have z2 := N2.size
  have LB : Hid (∀ g, (Value.slice a1 l.length c1).ownBlock = some g → g < u2.heap.size) := fun g e => (P2.lt g e).2
  have H2 := OwnS.has P2 (slOk_wf ok)
  have AT := l7At_any a1 c1 l k u2 H2 (by omega)
  have PA : Hid (HasS u2 a1 l → Calls Tryd.prog 57 #[.slice a1 l.length c1, .int .i64 k] u2 fun r w' => ∃ a' c', r = .returned (.slice a' (mpP l k).length c') ∧ OwnI w' u2.heap.size (.slice a' (mpP l k).length c') (mpP l k) ∧ Below u2.heap.size u2 w') := fun hh => l7Path_any a1 c1 l k u2 hh (by omega) ok kb'.1 kb'.2
  have P6 : Hid ((mpP l k).length = 6) := mpP_len l k
  have PW : Hid (∀ n ∈ mpP l k, (Lit.int .i64 n).wf = true) := mpP_wf l k
  have VB : Hid (∀ i : Nat, i < l.length → 0 ≤ (l.getD i (0, 0)).2 ∧ (l.getD i (0, 0)).2 ≤ 65520) := fun i hi => by
    rw [List.getD_eq_getElem?_getD, List.getElem?_eq_getElem hi]
    exact (slOk_iff.1 (ok _ (List.getElem_mem hi))).2
  have OK : Hid (∀ x ∈ l, slOk x = true) := ok
  have RI : Hid (Rises l) := ri
  generalize mpP l k = P at *
  clear P1 S1 N1 Y2 hp2 ok ri kb'
  go_wp2_with fail
  refine AT.mono ?_
  rintro r u ⟨hr, hu⟩; have hu2 := hu.symm; subst hu2; clear hu AT
  rcases hr with ⟨hf, rfl⟩ | ⟨i, hi, rfl, hf⟩
  · have vb : (0 : Int) ≤ 0 ∧ (0 : Int) ≤ 65520 := by decide
    clear hf VB
    go_wp2_with fail
    refine (PA.out H2).mono ?_
    rintro r u3 ⟨a3, c3, rfl, O3, hb3⟩
    have S3 := S2.below hb3
    have N3 := N2.then_below (hb3.mono z2)
    have P3 := own2_below P2 hb3
    obtain ⟨g, hg1, hg2, hg3, hg4⟩ := own_form7 O3 P6.out
    subst hg1
    have O3' : World.ownsRow u3 u2.heap.size 2 1 (.slice (some ⟨g, 0, none⟩) 6 c3) 6 (P.map (.int .i64)) := by
      have hh : World.ownsRow u3 u2.heap.size 2 1 (.slice (some ⟨g, 0, none⟩) P.length c3) P.length (P.map (.int .i64)) := O3
      rw [P6.out] at hh
      exact hh
    rw [P6.out]
    clear S2 N2 P2 hb3 H2 PA
    go_wp2_with fail
    refine (next_any _ B s a len cap zs _ 10 S3 (by omega) (by omega) (by omega)).mono ?_
    rintro e u4 ⟨q, rfl, q0, q1, S4, Y4⟩
    have N4 := N3.trans Y4
    have P4 : OwnS u4 w.heap.size (.slice a1 l.length c1) l := own_only P3 Y4 hlt
    have O4 : World.ownsRow u4 u2.heap.size 2 1 (.slice (some ⟨g, 0, none⟩) 6 c3) 6 (P.map (.int .i64)) := own_only O3' Y4 (by omega)
    have z4 := N4.size
    clear S3 N3 P3 O3 O3' Y4
    by_cases d0 : q = 0
    case pos =>
      have d0b : (q == 0) = true := by simpa using d0
      clear d0
      have H4 := hasP7 O4 PW.out P6.out
      have PH : Hid (∀ i, i < ([5, 65521, 0] : List Int).length → (u4.alloc (.cells #[.int .i64 5, .int .i64 65521, .int .i64 0] 2)).cell? ⟨u4.heap.size, i, none⟩ = some (.int .i64 (([5, 65521, 0] : List Int).getD i 0))) := cells_lit u4 [5, 65521, 0] 2 _ rfl
      go_wp2_with fail
      refine (pick_any _ B s a len cap zs _ (S4.alloc _) (by omega) u4.heap.size [5, 65521, 0] 3 rfl (by simp) (by have := S4.lt; omega) (by omega) (by omega) 3 PH.out).mono ?_
      rintro e u5 ⟨y, rfl, hp5, S5, Y5⟩
      clear PH
      have yb : 0 ≤ y ∧ y ≤ 65521 := by simp at hp5; omega
      have N5 := (N4.alloc (.cells #[.int .i64 5, .int .i64 65521, .int .i64 0] 2)).trans Y5
      have W4 := WiA.mk l4 OK.out RI.out P4 kb yb (by rw [P6.out]; omega) (by rw [P6.out]; exact hg4) H4 (fun ad e => by cases e; exact Nat.le_trans z2 hg2)
      have W5 := (W4.below ((Below.refl _ _).alloc (Nat.le_refl _) (.cells #[.int .i64 5, .int .i64 65521, .int .i64 0] 2))).only Y5 hlt
      clear S4 N4 P4 O4 Y5 hp5 H4 W4
      go_wp2
      refine bodyPost_ret (v := .tuple #[(.slice a1 l.length c1), .int .i64 (k), .bool false, .int .i64 (y), .slice (some ⟨g, 0, none⟩) 6 c3]) (by simp [results, Tryd.results45, go_sem]) rfl ⟨a1, c1, l, k, false, y, some ⟨g, 0, none⟩, c3, P, _, by rw [P6.out], W5, S5, by omega, N5⟩
    have d0b : (q == 0) = false := by simpa using d0
    clear d0
    by_cases d1 : q = 1
    case pos =>
      have d1b : (q == 1) = true := by simpa using d1
      clear d1
      have H4 := hasP7 O4 PW.out P6.out
      have W4 := WiA.mk l4 OK.out RI.out P4 kb (show 0 ≤ (0) ∧ (0) ≤ 65521 from ⟨vb.1, by omega⟩) (by rw [P6.out]; omega) (by rw [P6.out]; exact hg4) H4 (fun ad e => by cases e; exact Nat.le_trans z2 hg2)
      clear P4 O4 H4
      go_wp2
      refine bodyPost_ret (v := .tuple #[(.slice a1 l.length c1), .int .i64 (k), .bool true, .int .i64 (0), .slice (some ⟨g, 0, none⟩) 6 c3]) (by simp [results, Tryd.results45, go_sem]) rfl ⟨a1, c1, l, k, true, 0, some ⟨g, 0, none⟩, c3, P, _, by rw [P6.out], W4, S4, by omega, N4⟩
    have d1b : (q == 1) = false := by simpa using d1
    clear d1
    by_cases d2 : q = 2
    case pos =>
      have d2b : (q == 2) = true := by simpa using d2
      clear d2
      go_wp2_with fail
      refine (next_any _ B s a len cap zs _ 6 S4 (by omega) (by omega) (by omega)).mono ?_
      rintro e u5 ⟨j', rfl, j0, j1, S5, Y5⟩
      obtain ⟨j, rfl⟩ := Int.eq_ofNat_of_zero_le j0
      have hj6 : j < 6 := by omega
      have N5 := N4.trans Y5
      have P5 : OwnS u5 w.heap.size (.slice a1 l.length c1) l := own_only P4 Y5 hlt
      have O5 : World.ownsRow u5 u2.heap.size 2 1 (.slice (some ⟨g, 0, none⟩) 6 c3) 6 (P.map (.int .i64)) := own_only O4 Y5 (by omega)
      clear S4 N4 P4 O4 Y5
      have PH : Hid (∀ i, i < ([9, -1] : List Int).length → (u5.alloc (.cells #[.int .i64 9, .int .i64 (-1)] 2)).cell? ⟨u5.heap.size, i, none⟩ = some (.int .i64 (([9, -1] : List Int).getD i 0))) := cells_lit u5 [9, -1] 2 _ rfl
      go_wp2_with fail
      refine (pick_any _ B s a len cap zs _ (S5.alloc _) (by omega) u5.heap.size [9, -1] 2 rfl (by simp) (by have := S5.lt; omega) (by omega) (by omega) 2 PH.out).mono ?_
      rintro e u6 ⟨y, rfl, hp6, S6, Y6⟩
      clear PH
      have yb : -1 ≤ y ∧ y ≤ 9 := by simp at hp6; omega
      have N6 := (N5.alloc (.cells #[.int .i64 9, .int .i64 (-1)] 2)).trans Y6
      have P6' : OwnS u6 w.heap.size (.slice a1 l.length c1) l := own_only (own2_below P5 ((Below.refl _ _).alloc (Nat.le_refl _) _)) Y6 hlt
      have O6 : World.ownsRow u6 u2.heap.size 2 1 (.slice (some ⟨g, 0, none⟩) 6 c3) 6 (P.map (.int .i64)) := own_only (own_below O5 ((Below.refl _ _).alloc (Nat.le_refl _) _)) Y6 (by omega)
      have z6 := N6.size
      clear S5 N5 P5 O5 Y6 hp6
      obtain ⟨x1, x2, x3⟩ := cell7 O6 P6.out hj6 (.int .i64 y) y rfl
      generalize P.getD j 0 = yo at x1
      have HS : Hid (World.ownsRow (u6.setCell ⟨g, j, none⟩ (.int .i64 y)) u2.heap.size 2 1 (.slice (some ⟨g, 0, none⟩) 6 c3) 6 ((P.set j y).map (.int .i64))) := x3
      have gw : w.heap.size ≤ g := by omega
      have N7 := N6.storeNew (b := g) (o := j) gw (.int .i64 y)
      have S7 := S6.below' (N := w.heap.size) ((Below.refl _ _).setCell (p := ⟨g, j, none⟩) gw (.int .i64 y)) hlt
      have P7 : OwnS (u6.setCell ⟨g, j, none⟩ (.int .i64 y)) w.heap.size (.slice a1 l.length c1) l := own2_fr (M := fun k => k = g) P6' (Fr.setCell (Fr.refl _ _) ⟨g, j, none⟩ (.int .i64 y) rfl) (fun g' e1 e2 => by have := LB.out g' e1; omega)
      have L7 : Hid ((P.set j y).length = 6) := by show _ = _; rw [List.length_set, P6.out]
      have H7 := hasP7 HS.out (wf_set7 PW.out j (WalkArith.wf_i64 (by omega))) L7.out
      have W7 := WiA.mk l4 OK.out RI.out P7 kb (show 0 ≤ (0) ∧ (0) ≤ 65521 from ⟨vb.1, by omega⟩) (by rw [L7.out]; omega) (by rw [L7.out]; exact hg4) H7 (fun ad e => by cases e; exact gw)
      clear S6 N6 P6' O6 HS x3 H7 P7
      have W7H : Hid (WiA (u6.setCell ⟨g, j, none⟩ (.int .i64 y)) w.heap.size l a1 c1 k (0) (some ⟨g, 0, none⟩) c3 (P.set j y)) := W7
      have hj0 : (0 : Int) ≤ (j : Int) := by omega
      have hj6' : (j : Int) < 6 := by omega
      clear W7 hj6
      go_wp2
      refine bodyPost_ret (v := .tuple #[(.slice a1 l.length c1), .int .i64 (k), .bool false, .int .i64 (0), .slice (some ⟨g, 0, none⟩) 6 c3]) (by simp [results, Tryd.results45, go_sem]) rfl ⟨a1, c1, l, k, false, 0, some ⟨g, 0, none⟩, c3, P.set j y, _, by rw [L7.out], W7H.out, S7, by omega, N7⟩
    have d2b : (q == 2) = false := by simpa using d2
    clear d2
    by_cases d3 : q = 3
    case pos =>
      have d3b : (q == 3) = true := by simpa using d3
      clear d3
      have H4 := hasT7 O4 PW.out P6.out
      have L4 : Hid ((P.drop 1).length = 5) := by show _ = _; rw [List.length_drop, P6.out]
      have W4 := WiA.mk (c2 := c3 - 1) l4 OK.out RI.out P4 kb (show 0 ≤ (0) ∧ (0) ≤ 65521 from ⟨vb.1, by omega⟩) (by rw [L4.out]; omega) (by rw [L4.out]; omega) H4 (fun ad e => by cases e; exact Nat.le_trans z2 hg2)
      clear P4 O4 H4
      have hc6 : 6 ≤ c3 := hg4.1
      have hcm : c3 ≤ maxLen := hg4.2
      unfold maxLen at hcm
      go_wp2
      refine bodyPost_ret (v := .tuple #[(.slice a1 l.length c1), .int .i64 (k), .bool false, .int .i64 (0), .slice (some ⟨g, 1, none⟩) 5 (c3 - 1)]) (by simp [results, Tryd.results45, go_sem]) rfl ⟨a1, c1, l, k, false, 0, some ⟨g, 1, none⟩, (c3 - 1), P.drop 1, _, by rw [L4.out], W4, S4, by omega, N4⟩
    have d3b : (q == 3) = false := by simpa using d3
    clear d3
    have H4 := hasP7 O4 PW.out P6.out
    by_cases d4 : q = 4
    case pos =>
      have d4b : (q == 4) = true := by simpa using d4
      clear d4
      have PH : Hid (∀ i, i < ([64, 2] : List Int).length → (u4.alloc (.cells #[.int .i64 64, .int .i64 2] 2)).cell? ⟨u4.heap.size, i, none⟩ = some (.int .i64 (([64, 2] : List Int).getD i 0))) := cells_lit u4 [64, 2] 2 _ rfl
      go_wp2_with fail
      refine (pick_any _ B s a len cap zs _ (S4.alloc _) (by omega) u4.heap.size [64, 2] 2 rfl (by simp) (by have := S4.lt; omega) (by omega) (by omega) 2 PH.out).mono ?_
      rintro e u5 ⟨y, rfl, hp5, S5, Y5⟩
      clear PH
      have yb : 0 ≤ y ∧ y ≤ 64 := by simp at hp5; omega
      have N5 := (N4.alloc (.cells #[.int .i64 64, .int .i64 2] 2)).trans Y5
      have W4 := WiA.mk l4 OK.out RI.out P4 yb (show 0 ≤ (0) ∧ (0) ≤ 65521 from ⟨vb.1, by omega⟩) (by rw [P6.out]; omega) (by rw [P6.out]; exact hg4) H4 (fun ad e => by cases e; exact Nat.le_trans z2 hg2)
      have W5 := (W4.below ((Below.refl _ _).alloc (Nat.le_refl _) (.cells #[.int .i64 64, .int .i64 2] 2))).only Y5 hlt
      clear S4 N4 P4 O4 Y5 hp5 H4 W4
      go_wp2
      refine bodyPost_ret (v := .tuple #[(.slice a1 l.length c1), .int .i64 (y), .bool false, .int .i64 (0), .slice (some ⟨g, 0, none⟩) 6 c3]) (by simp [results, Tryd.results45, go_sem]) rfl ⟨a1, c1, l, y, false, 0, some ⟨g, 0, none⟩, c3, P, _, by rw [P6.out], W5, S5, by omega, N5⟩
    have d4b : (q == 4) = false := by simpa using d4
    clear d4
    have W4 := WiA.mk l4 OK.out RI.out P4 kb (show 0 ≤ (0) ∧ (0) ≤ 65521 from ⟨vb.1, by omega⟩) (by rw [P6.out]; omega) (by rw [P6.out]; exact hg4) H4 (fun ad e => by cases e; exact Nat.le_trans z2 hg2)
    clear P4 O4 H4
    go_wp2
    refine bodyPost_ret (v := .tuple #[(.slice a1 l.length c1), .int .i64 (k), .bool false, .int .i64 (0), .slice (some ⟨g, 0, none⟩) 6 c3]) (by simp [results, Tryd.results45, go_sem]) rfl ⟨a1, c1, l, k, false, 0, some ⟨g, 0, none⟩, c3, P, _, by rw [P6.out], W4, S4, by omega, N4⟩
  · have vb := VB.out i hi
    obtain ⟨b, off, rfl, _, hc⟩ : ∃ b off, a1 = some ⟨b, off, none⟩ ∧ b < u2.heap.size ∧ ∀ i (hi : i < l.length), u2.cell? ⟨b, off + i * 2, none⟩ = some (.int .i64 l[i].1) ∧ u2.cell? ⟨b, off + i * 2 + 1, none⟩ = some (.int .i64 l[i].2) := by
      rcases HasS.cells H2 with h0 | h1
      · rw [h0] at hi; simp at hi
      · exact h1
    have cv := (hc i hi).2
    have ev : l[i].2 = (l.getD i (0, 0)).2 := by rw [List.getD_eq_getElem?_getD, List.getElem?_eq_getElem hi]; rfl
    rw [ev] at cv
    have i0 : (0 : Int) ≤ (i : Int) := by omega
    have i1 : (i : Int) < (l.length : Int) := by omega
    generalize (l.getD i (0, 0)).2 = vv at *
    clear hf VB hc ev
    go_wp2_with fail
    refine (PA.out H2).mono ?_
    rintro r u3 ⟨a3, c3, rfl, O3, hb3⟩
    have S3 := S2.below hb3
    have N3 := N2.then_below (hb3.mono z2)
    have P3 := own2_below P2 hb3
    obtain ⟨g, hg1, hg2, hg3, hg4⟩ := own_form7 O3 P6.out
    subst hg1
    have O3' : World.ownsRow u3 u2.heap.size 2 1 (.slice (some ⟨g, 0, none⟩) 6 c3) 6 (P.map (.int .i64)) := by
      have hh : World.ownsRow u3 u2.heap.size 2 1 (.slice (some ⟨g, 0, none⟩) P.length c3) P.length (P.map (.int .i64)) := O3
      rw [P6.out] at hh
      exact hh
    rw [P6.out]
    clear S2 N2 P2 hb3 H2 PA
    go_wp2_with fail
    refine (next_any _ B s a len cap zs _ 10 S3 (by omega) (by omega) (by omega)).mono ?_
    rintro e u4 ⟨q, rfl, q0, q1, S4, Y4⟩
    have N4 := N3.trans Y4
    have P4 : OwnS u4 w.heap.size (.slice (some ⟨b, off, none⟩) l.length c1) l := own_only P3 Y4 hlt
    have O4 : World.ownsRow u4 u2.heap.size 2 1 (.slice (some ⟨g, 0, none⟩) 6 c3) 6 (P.map (.int .i64)) := own_only O3' Y4 (by omega)
    have z4 := N4.size
    clear S3 N3 P3 O3 O3' Y4
    by_cases d0 : q = 0
    case pos =>
      have d0b : (q == 0) = true := by simpa using d0
      clear d0
      have H4 := hasP7 O4 PW.out P6.out
      have PH : Hid (∀ i, i < ([5, 65521, 0] : List Int).length → (u4.alloc (.cells #[.int .i64 5, .int .i64 65521, .int .i64 0] 2)).cell? ⟨u4.heap.size, i, none⟩ = some (.int .i64 (([5, 65521, 0] : List Int).getD i 0))) := cells_lit u4 [5, 65521, 0] 2 _ rfl
      go_wp2_with fail
      refine (pick_any _ B s a len cap zs _ (S4.alloc _) (by omega) u4.heap.size [5, 65521, 0] 3 rfl (by simp) (by have := S4.lt; omega) (by omega) (by omega) 3 PH.out).mono ?_
      rintro e u5 ⟨y, rfl, hp5, S5, Y5⟩
      clear PH
      have yb : 0 ≤ y ∧ y ≤ 65521 := by simp at hp5; omega
      have N5 := (N4.alloc (.cells #[.int .i64 5, .int .i64 65521, .int .i64 0] 2)).trans Y5
      have W4 := WiA.mk l4 OK.out RI.out P4 kb yb (by rw [P6.out]; omega) (by rw [P6.out]; exact hg4) H4 (fun ad e => by cases e; exact Nat.le_trans z2 hg2)
      have W5 := (W4.below ((Below.refl _ _).alloc (Nat.le_refl _) (.cells #[.int .i64 5, .int .i64 65521, .int .i64 0] 2))).only Y5 hlt
      clear S4 N4 P4 O4 Y5 hp5 H4 W4
      go_wp2
      refine bodyPost_ret (v := .tuple #[(.slice (some ⟨b, off, none⟩) l.length c1), .int .i64 (k), .bool true, .int .i64 (y), .slice (some ⟨g, 0, none⟩) 6 c3]) (by simp [results, Tryd.results45, go_sem]) rfl ⟨(some ⟨b, off, none⟩), c1, l, k, true, y, some ⟨g, 0, none⟩, c3, P, _, by rw [P6.out], W5, S5, by omega, N5⟩
    have d0b : (q == 0) = false := by simpa using d0
    clear d0
    by_cases d1 : q = 1
    case pos =>
      have d1b : (q == 1) = true := by simpa using d1
      clear d1
      have H4 := hasP7 O4 PW.out P6.out
      have W4 := WiA.mk l4 OK.out RI.out P4 kb (show 0 ≤ (vv) ∧ (vv) ≤ 65521 from ⟨vb.1, by omega⟩) (by rw [P6.out]; omega) (by rw [P6.out]; exact hg4) H4 (fun ad e => by cases e; exact Nat.le_trans z2 hg2)
      clear P4 O4 H4
      go_wp2
      refine bodyPost_ret (v := .tuple #[(.slice (some ⟨b, off, none⟩) l.length c1), .int .i64 (k), .bool false, .int .i64 (vv), .slice (some ⟨g, 0, none⟩) 6 c3]) (by simp [results, Tryd.results45, go_sem]) rfl ⟨(some ⟨b, off, none⟩), c1, l, k, false, vv, some ⟨g, 0, none⟩, c3, P, _, by rw [P6.out], W4, S4, by omega, N4⟩
    have d1b : (q == 1) = false := by simpa using d1
    clear d1
    by_cases d2 : q = 2
    case pos =>
      have d2b : (q == 2) = true := by simpa using d2
      clear d2
      go_wp2_with fail
      refine (next_any _ B s a len cap zs _ 6 S4 (by omega) (by omega) (by omega)).mono ?_
      rintro e u5 ⟨j', rfl, j0, j1, S5, Y5⟩
      obtain ⟨j, rfl⟩ := Int.eq_ofNat_of_zero_le j0
      have hj6 : j < 6 := by omega
      have N5 := N4.trans Y5
      have P5 : OwnS u5 w.heap.size (.slice (some ⟨b, off, none⟩) l.length c1) l := own_only P4 Y5 hlt
      have O5 : World.ownsRow u5 u2.heap.size 2 1 (.slice (some ⟨g, 0, none⟩) 6 c3) 6 (P.map (.int .i64)) := own_only O4 Y5 (by omega)
      clear S4 N4 P4 O4 Y5
      have PH : Hid (∀ i, i < ([9, -1] : List Int).length → (u5.alloc (.cells #[.int .i64 9, .int .i64 (-1)] 2)).cell? ⟨u5.heap.size, i, none⟩ = some (.int .i64 (([9, -1] : List Int).getD i 0))) := cells_lit u5 [9, -1] 2 _ rfl
      go_wp2_with fail
      refine (pick_any _ B s a len cap zs _ (S5.alloc _) (by omega) u5.heap.size [9, -1] 2 rfl (by simp) (by have := S5.lt; omega) (by omega) (by omega) 2 PH.out).mono ?_
      rintro e u6 ⟨y, rfl, hp6, S6, Y6⟩
      clear PH
      have yb : -1 ≤ y ∧ y ≤ 9 := by simp at hp6; omega
      have N6 := (N5.alloc (.cells #[.int .i64 9, .int .i64 (-1)] 2)).trans Y6
      have P6' : OwnS u6 w.heap.size (.slice (some ⟨b, off, none⟩) l.length c1) l := own_only (own2_below P5 ((Below.refl _ _).alloc (Nat.le_refl _) _)) Y6 hlt
      have O6 : World.ownsRow u6 u2.heap.size 2 1 (.slice (some ⟨g, 0, none⟩) 6 c3) 6 (P.map (.int .i64)) := own_only (own_below O5 ((Below.refl _ _).alloc (Nat.le_refl _) _)) Y6 (by omega)
      have z6 := N6.size
      clear S5 N5 P5 O5 Y6 hp6
      obtain ⟨x1, x2, x3⟩ := cell7 O6 P6.out hj6 (.int .i64 y) y rfl
      generalize P.getD j 0 = yo at x1
      have HS : Hid (World.ownsRow (u6.setCell ⟨g, j, none⟩ (.int .i64 y)) u2.heap.size 2 1 (.slice (some ⟨g, 0, none⟩) 6 c3) 6 ((P.set j y).map (.int .i64))) := x3
      have gw : w.heap.size ≤ g := by omega
      have N7 := N6.storeNew (b := g) (o := j) gw (.int .i64 y)
      have S7 := S6.below' (N := w.heap.size) ((Below.refl _ _).setCell (p := ⟨g, j, none⟩) gw (.int .i64 y)) hlt
      have P7 : OwnS (u6.setCell ⟨g, j, none⟩ (.int .i64 y)) w.heap.size (.slice (some ⟨b, off, none⟩) l.length c1) l := own2_fr (M := fun k => k = g) P6' (Fr.setCell (Fr.refl _ _) ⟨g, j, none⟩ (.int .i64 y) rfl) (fun g' e1 e2 => by have := LB.out g' e1; omega)
      have L7 : Hid ((P.set j y).length = 6) := by show _ = _; rw [List.length_set, P6.out]
      have H7 := hasP7 HS.out (wf_set7 PW.out j (WalkArith.wf_i64 (by omega))) L7.out
      have W7 := WiA.mk l4 OK.out RI.out P7 kb (show 0 ≤ (vv) ∧ (vv) ≤ 65521 from ⟨vb.1, by omega⟩) (by rw [L7.out]; omega) (by rw [L7.out]; exact hg4) H7 (fun ad e => by cases e; exact gw)
      clear S6 N6 P6' O6 HS x3 H7 P7
      have W7H : Hid (WiA (u6.setCell ⟨g, j, none⟩ (.int .i64 y)) w.heap.size l (some ⟨b, off, none⟩) c1 k (vv) (some ⟨g, 0, none⟩) c3 (P.set j y)) := W7
      have hj0 : (0 : Int) ≤ (j : Int) := by omega
      have hj6' : (j : Int) < 6 := by omega
      clear W7 hj6
      go_wp2
      refine bodyPost_ret (v := .tuple #[(.slice (some ⟨b, off, none⟩) l.length c1), .int .i64 (k), .bool true, .int .i64 (vv), .slice (some ⟨g, 0, none⟩) 6 c3]) (by simp [results, Tryd.results45, go_sem]) rfl ⟨(some ⟨b, off, none⟩), c1, l, k, true, vv, some ⟨g, 0, none⟩, c3, P.set j y, _, by rw [L7.out], W7H.out, S7, by omega, N7⟩
    have d2b : (q == 2) = false := by simpa using d2
    clear d2
    by_cases d3 : q = 3
    case pos =>
      have d3b : (q == 3) = true := by simpa using d3
      clear d3
      have H4 := hasT7 O4 PW.out P6.out
      have L4 : Hid ((P.drop 1).length = 5) := by show _ = _; rw [List.length_drop, P6.out]
      have W4 := WiA.mk (c2 := c3 - 1) l4 OK.out RI.out P4 kb (show 0 ≤ (vv) ∧ (vv) ≤ 65521 from ⟨vb.1, by omega⟩) (by rw [L4.out]; omega) (by rw [L4.out]; omega) H4 (fun ad e => by cases e; exact Nat.le_trans z2 hg2)
      clear P4 O4 H4
      have hc6 : 6 ≤ c3 := hg4.1
      have hcm : c3 ≤ maxLen := hg4.2
      unfold maxLen at hcm
      go_wp2
      refine bodyPost_ret (v := .tuple #[(.slice (some ⟨b, off, none⟩) l.length c1), .int .i64 (k), .bool true, .int .i64 (vv), .slice (some ⟨g, 1, none⟩) 5 (c3 - 1)]) (by simp [results, Tryd.results45, go_sem]) rfl ⟨(some ⟨b, off, none⟩), c1, l, k, true, vv, some ⟨g, 1, none⟩, (c3 - 1), P.drop 1, _, by rw [L4.out], W4, S4, by omega, N4⟩
    have d3b : (q == 3) = false := by simpa using d3
    clear d3
    have H4 := hasP7 O4 PW.out P6.out
    by_cases d4 : q = 4
    case pos =>
      have d4b : (q == 4) = true := by simpa using d4
      clear d4
      have PH : Hid (∀ i, i < ([64, 2] : List Int).length → (u4.alloc (.cells #[.int .i64 64, .int .i64 2] 2)).cell? ⟨u4.heap.size, i, none⟩ = some (.int .i64 (([64, 2] : List Int).getD i 0))) := cells_lit u4 [64, 2] 2 _ rfl
      go_wp2_with fail
      refine (pick_any _ B s a len cap zs _ (S4.alloc _) (by omega) u4.heap.size [64, 2] 2 rfl (by simp) (by have := S4.lt; omega) (by omega) (by omega) 2 PH.out).mono ?_
      rintro e u5 ⟨y, rfl, hp5, S5, Y5⟩
      clear PH
      have yb : 0 ≤ y ∧ y ≤ 64 := by simp at hp5; omega
      have N5 := (N4.alloc (.cells #[.int .i64 64, .int .i64 2] 2)).trans Y5
      have W4 := WiA.mk l4 OK.out RI.out P4 yb (show 0 ≤ (vv) ∧ (vv) ≤ 65521 from ⟨vb.1, by omega⟩) (by rw [P6.out]; omega) (by rw [P6.out]; exact hg4) H4 (fun ad e => by cases e; exact Nat.le_trans z2 hg2)
      have W5 := (W4.below ((Below.refl _ _).alloc (Nat.le_refl _) (.cells #[.int .i64 64, .int .i64 2] 2))).only Y5 hlt
      clear S4 N4 P4 O4 Y5 hp5 H4 W4
      go_wp2
      refine bodyPost_ret (v := .tuple #[(.slice (some ⟨b, off, none⟩) l.length c1), .int .i64 (y), .bool true, .int .i64 (vv), .slice (some ⟨g, 0, none⟩) 6 c3]) (by simp [results, Tryd.results45, go_sem]) rfl ⟨(some ⟨b, off, none⟩), c1, l, y, true, vv, some ⟨g, 0, none⟩, c3, P, _, by rw [P6.out], W5, S5, by omega, N5⟩
    have d4b : (q == 4) = false := by simpa using d4
    clear d4
    have W4 := WiA.mk l4 OK.out RI.out P4 kb (show 0 ≤ (vv) ∧ (vv) ≤ 65521 from ⟨vb.1, by omega⟩) (by rw [P6.out]; omega) (by rw [P6.out]; exact hg4) H4 (fun ad e => by cases e; exact Nat.le_trans z2 hg2)
    clear P4 O4 H4
    go_wp2
    refine bodyPost_ret (v := .tuple #[(.slice (some ⟨b, off, none⟩) l.length c1), .int .i64 (k), .bool true, .int .i64 (vv), .slice (some ⟨g, 0, none⟩) 6 c3]) (by simp [results, Tryd.results45, go_sem]) rfl ⟨(some ⟨b, off, none⟩), c1, l, k, true, vv, some ⟨g, 0, none⟩, c3, P, _, by rw [P6.out], W4, S4, by omega, N4⟩

end Go.Proofs.YtjkehgnelfgoaaaDoor
