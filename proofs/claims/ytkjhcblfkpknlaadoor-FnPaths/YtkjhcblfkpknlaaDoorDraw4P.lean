/- Contracts: the model's draws of chapter 4: leaves and a place, a path that is climbed, a leaf that is taken. -/
import Derived.Test.YtkjhcblfkpknlaaDoorDraw4
import Derived.Test.YtkjhcblfkpknlaaDoorPath4S
import Derived.Test.YtkjhcblfkpknlaaDoorPair
import Derived.Deep.DeepCutAuto
namespace Go.Proofs.YtkjhcblfkpknlaaDoor
open Go.ChangeShapes Go.WideShapes Go.ChangeAt Go.RowKit
set_option maxRecDepth 100000
set_option linter.unusedVariables false
set_option linter.unusedSimpArgs false

theorem own_caps {w : World} {base e n c : Nat} {a : Option Addr} {xs : List Value} (h : w.ownsRow base e 1 (.slice a n c) n xs) : n ≤ c ∧ c ≤ maxLen := by
  rcases h.2 with ⟨e1, e2⟩ | ⟨_, _, _, e1, _, _, h1, h2, _⟩
  · simp at e1; rw [e1.2.2, e2]; exact ⟨Nat.le_refl _, by unfold maxLen; omega⟩
  · simp at e1; rw [e1.2]; exact ⟨h1, h2⟩

set_option maxHeartbeats 1000000 in
theorem drawPathOf_any (w : World) (a : Option Addr) (len cap : Nat) (zs : List Int) (h : Has w .u8 a len zs) (hl : len ≤ 1048576) :
    Calls Tryd.prog 14 #[.slice a len cap] w fun e w' => ∃ (a' : Option Addr) (c' : Nat) (ys : List Int) (k : Int), e = .returned (.tuple #[.slice a' ys.length c', .int .i64 k]) ∧ ys.length ≤ 25 ∧ ys.length ≤ c' ∧ c' ≤ maxLen ∧ (-1 ≤ k ∧ k ≤ 30) ∧ Has w' .i64 a' ys.length ys ∧ Below w.heap.size w w' := by
  go_enter Tryd.func14, Tryd.ntmps14
  go_wp2_with fail
  refine (source_any _ a len cap zs h hl).mono ?_
  rintro e u1 ⟨rfl, S1, hb1, hz1⟩
  go_wp2_with fail
  refine (l4Bent_any _ _ _ a len cap zs 0 S1 (by omega)).mono ?_
  rintro e u2 ⟨a2, c2, ys, t2, rfl, hyl, O2, yw, S2, ht2, Y2⟩
  have hyl' : (ys.length : Int) ≤ 25 := by omega
  go_wp2_with fail
  refine (next_wide _ _ _ a len cap zs _ _ S2 (by omega) (by omega) (by omega)).mono ?_
  rintro e u3 ⟨k, rfl, k0, k1, S3, Y3⟩
  have hc := own_caps O2
  have O3 := own_only O2 Y3 hz1
  go_wp2
  go_ret2
  exact ⟨a2, c2, ys, k - 1, rfl, hyl, hc.1, hc.2, by omega, has_of_own O3 yw, after_source hb1 (Y2.trans Y3)⟩

set_option maxHeartbeats 4000000 in
theorem drawClimbPath_any (w : World) (a : Option Addr) (len cap : Nat) (zs : List Int) (h : Has w .u8 a len zs) (hl : len ≤ 1048576) :
    Calls Tryd.prog 16 #[.slice a len cap] w fun e w' => ∃ (l k z : Int) (a' : Option Addr) (c' : Nat) (ys : List Int), e = .returned (.tuple #[.int .i64 l, .int .i64 k, .int .i64 z, .slice a' ys.length c']) ∧ ys.length ≤ 30 ∧ ys.length ≤ c' ∧ c' ≤ maxLen ∧ (-1 ≤ z ∧ z ≤ 30) ∧ Has w' .i64 a' ys.length ys ∧ Below w.heap.size w w' := by
  obtain ⟨i0, hi, hz0, hz1, hz2⟩ := info_parts info64
  go_enter Tryd.func16, Tryd.ntmps16
  go_wp2_with fail
  refine (source_any _ a len cap zs h hl).mono ?_
  rintro e u1 ⟨rfl, S1, hb1, hs1⟩
  obtain ⟨u0, hu0⟩ : ∃ u0, u0 = w.heap.size := ⟨_, rfl⟩
  have AS : ∀ {w2 : World}, Only u0 u1 w2 → Below w.heap.size w w2 := fun {w2} ho => after_source hb1 (by rw [← hu0]; exact ho)
  rw [← hu0] at S1 hs1 ⊢
  clear hu0
  go_wp2_with fail
  refine (l4Draw_any _ _ _ a len cap zs 0 S1 (by omega)).mono ?_
  rintro e u2 ⟨a2, c2, ys, t2, rfl, hyl, O2, yall, S2, ht2, Y2⟩
  have z2 := Y2.size
  have hc2 := own_caps O2
  go_upto_region 3 with (at_builtin; refine wpList_append_own _ rfl _ _ 24 rfl u1.heap.size 2 i0 (.int .i64 0) 1 8 Tryd.underlying24 hi hz0 hz1 hz2 rfl (by decide) _ _ _ rfl (O2.alloc _) ⟨u2.heap.size, 0, none⟩ 1 1 [.int .i64 5] rfl rfl (one_new _ _ _) (by intro u hu; simp at hu; subst hu; rfl) (by unfold maxLen; omega) (by omega) (by simp; omega) ?_; intro v' w3 hown3 hgrow _h4)
  have hbel : Below u1.heap.size (u2.alloc (.cells #[.int .i64 5] 2)) w3 := (Below.refl _ _).grown hgrow (by simp; omega) (fun k hk => (O2.lt k hk).1)
  have S3 := (S2.alloc (.cells #[.int .i64 5] 2)).below' hbel hs1
  have Y3 := (Y2.alloc (.cells #[.int .i64 5] 2)).then_below hbel
  have O3 : w3.ownsRow u1.heap.size 2 1 v' (ys ++ [5]).length ((ys ++ [5]).map (.int .i64)) := by simpa using hown3
  obtain ⟨g, c3, hv⟩ : ∃ g cap, v' = .slice (some ⟨g, 0, none⟩) (ys ++ [5]).length cap := by
    have := O3
    rw [show (ys ++ [(5 : Int)]).length = ys.length + 1 from by simp] at this ⊢
    exact ownsRow_succ this
  subst hv
  have hall : allS (ys ++ [5]) = true := allS_app yall (by omega) (by omega)
  have hl1 : (ys ++ [(5 : Int)]).length = ys.length + 1 := by simp
  have L1 : 1 ≤ (ys ++ [(5 : Int)]).length := by omega
  have L2 : (ys ++ [(5 : Int)]).length ≤ 25 := by omega
  generalize ys ++ [(5 : Int)] = qs at *
  have hc3 := own_caps O3
  have H3 := has_of_own O3 (allS_wf hall)
  have O3b : u1.heap.size ≤ g := (O3.lt g rfl).1
  unfold maxLen at hc3
  clear hown3 hgrow _h4 O2 S2 Y2 hbel hl1 yall hyl O3
  have KEY : ∃ (o c4 : Nat) (ls : List Int), 1 ≤ ls.length ∧ ls.length ≤ 24 ∧ allS ls = true ∧ ls.length ≤ c4 ∧ c4 ≤ maxLen ∧ Has w3 .i64 (some ⟨g, o, none⟩) ls.length ls ∧ ((24 < qs.length ∧ o = 1 ∧ c4 = c3 - 1 ∧ ls.length = qs.length - 1) ∨ (¬ 24 < qs.length ∧ o = 0 ∧ c4 = c3 ∧ ls.length = qs.length)) := by
    by_cases h24 : 24 < qs.length
    · exact ⟨1, c3 - 1, qs.drop 1, by simp; omega, by simp; omega, allS_drop hall 1, by simp; omega, by unfold maxLen; omega, by have := has_rest H3 1 (by omega); simpa using this, .inl ⟨h24, rfl, rfl, by simp⟩⟩
    · exact ⟨0, c3, qs, L1, by omega, hall, hc3.1, hc3.2, H3, .inr ⟨h24, rfl, rfl, rfl⟩⟩
  obtain ⟨o, c4, ls, l1, l2, lall, lc, lm, H4, hor⟩ := KEY
  have z3 := Y3.size
  obtain ⟨hbl, hcell⟩ : g < w3.heap.size ∧ ∀ i, i < ls.length → w3.cell? ⟨g, o + i, none⟩ = some (.int .i64 (ls.getD i 0)) := by
    rcases H4.2.2 with e | ⟨b, off, e1, e2, e3⟩
    · omega
    · simp at e1; obtain ⟨rfl, rfl⟩ := e1; exact ⟨e2, e3⟩
  have NX : Hid (∀ u : World, SrcAt (u) u0 u0 a len cap zs (t2) → Calls Tryd.prog 58 #[.pointer (some ⟨u0, 0, none⟩), .int .i64 ls.length] u fun e w' => ∃ v, e = .returned (.int .i64 v) ∧ 0 ≤ v ∧ v < ls.length ∧ SrcAt w' u0 u0 a len cap zs (t2 + 1) ∧ Only u0 u w') := fun u hs => next_wide u u0 u0 a len cap zs t2 ls.length hs (by omega) (by omega) (by omega)
  have gne : g ≠ u0 := by
    intro e
    have := O3b
    omega
  rcases hor with ⟨h24, e1, e2, e3⟩ | ⟨h24, e1, e2, e3⟩
  · have h24' : (24 : Int) < qs.length := by omega
    have q1 : (1 : Int) ≤ qs.length := by omega
    have q2 : (qs.length : Int) ≤ c3 := by omega
    have q3 : (1 : Int) ≤ c3 := by omega
    have q4 : ¬ c3 = 1 := by omega
    have q5 : ¬ (c3 : Int) = 1 := by omega
    subst e1
    have E2 : Hid (c4 = c3 - 1) := e2
    have E3 : Hid (ls.length = qs.length - 1) := e3
    clear e2 e3
    go_wp2_with fail
    rw [← E3.out, ← E2.out]
    clear E2 E3 h24 h24' q1 q2 q3 q4 q5
    refine (NX.out _ S3).mono ?_
    rintro e u5 ⟨k, rfl, k0, k1, S5, Y5⟩
    obtain ⟨j, rfl⟩ : ∃ j : Nat, k = (j : Int) := ⟨k.toNat, by omega⟩
    have H5 := H4.grown Y5.grown (fun ad e => by cases e; intro h; cases h; exact gne rfl)
    have z5 := Y5.size
    have cj := (Y5.cell (b := g) hbl gne).trans (hcell j (by omega))
    go_wp2_with fail
    refine (l4Path_any _ _ _ ls j _ (Nat.le_refl _) (by omega) lall (by omega) (by omega) H5 lc lm).mono ?_
    rintro e u6 ⟨a6, c6, rfl, O6, hb6⟩
    have pl := ptM_len nS 11 _ ls j (Nat.le_refl _)
    have pall := ptM_all _ ls j (Nat.le_refl _) lall
    have cj6 := (hb6.cell (by show g < _; omega)).trans cj
    have S6 := S5.below hb6
    have Y6 := (Y3.trans Y5).trans (.of_below hb6)
    have z6 := hb6.size
    have hlt6 : u0 < u5.heap.size := by omega
    (try simp at cj6)
    generalize ptM nS 11 ls j = pp at *
    generalize ls[j]?.getD 0 = lf at *
    clear hcell cj H5 H4 S5 Y5 hb6 NX
    go_wp2_with fail
    refine (next_any _ _ _ a len cap zs _ 8 S6 (by omega) (by omega) (by omega)).mono ?_
    rintro e u7 ⟨q, rfl, q0, q1, S7, Y7⟩
    have O7 := own_only O6 Y7 hlt6
    have N7 := Y6.trans Y7
    have z7 := Y7.size
    have hlt7 := hlt6
    clear O6 S6 Y6 Y7 cj6
    by_cases d0 : q = 0
    · have d0b : (q == 0) = true := by simpa using d0
      clear d0
      have PH : Hid (∀ i, i < [-1, 65521, 3].length → (u7.alloc (.cells #[.int .i64 (-1), .int .i64 65521, .int .i64 3] 2)).cell? ⟨u7.heap.size, i, none⟩ = some (.int .i64 ([-1, 65521, 3].getD i 0))) := cells_lit u7 [-1, 65521, 3] 2 _ rfl
      go_wp2_with fail
      refine (pick_any _ _ _ a len cap zs _ (S7.alloc _) (by omega) u7.heap.size [-1, 65521, 3] 3 rfl (by simp) (by omega) (by omega) (by omega) 3 PH.out).mono ?_
      rintro e u8 ⟨x, rfl, hx, S8, Y8⟩
      have O8 := own_only (O7.alloc (.cells #[.int .i64 (-1), .int .i64 65521, .int .i64 3] 2)) Y8 hlt7
      clear hx PH
      go_wp2
      exact bodyPost_ret (v := .tuple #[.int .i64 x, .int .i64 j, .int .i64 ls.length, .slice a6 pp.length c6]) (by simp [results, Tryd.results16, go_sem]) rfl ⟨x, j, ls.length, a6, c6, pp, rfl, by omega, (own_caps O8).1, (own_caps O8).2, by omega, has_of_own O8 (allS_wf pall), AS ((N7.alloc _).trans Y8)⟩
    · have d0b : (q == 0) = false := by simpa using d0
      clear d0
      by_cases d1 : q = 1
      · have d1b : (q == 1) = true := by simpa using d1
        clear d1
        have PH : Hid (∀ i, i < [0, (ls.length : Int) + 1, 25].length → (u7.alloc (.cells #[.int .i64 0, .int .i64 ((ls.length : Int) + 1), .int .i64 25] 2)).cell? ⟨u7.heap.size, i, none⟩ = some (.int .i64 ([0, (ls.length : Int) + 1, 25].getD i 0))) := cells_lit u7 [0, (ls.length : Int) + 1, 25] 2 _ rfl
        go_wp2_with fail
        refine (pick_any _ _ _ a len cap zs _ (S7.alloc _) (by omega) u7.heap.size [0, (ls.length : Int) + 1, 25] 3 rfl (by simp) (by omega) (by omega) (by omega) 3 PH.out).mono ?_
        rintro e u8 ⟨x, rfl, hx, S8, Y8⟩
        have hx' : -1 ≤ x ∧ x ≤ 30 := by simp at hx; omega
        have O8 := own_only (O7.alloc (.cells #[.int .i64 0, .int .i64 ((ls.length : Int) + 1), .int .i64 25] 2)) Y8 hlt7
        clear hx PH
        go_wp2
        exact bodyPost_ret (v := .tuple #[.int .i64 lf, .int .i64 j, .int .i64 x, .slice a6 pp.length c6]) (by simp [results, Tryd.results16, go_sem]) rfl ⟨lf, j, x, a6, c6, pp, rfl, by omega, (own_caps O8).1, (own_caps O8).2, by omega, has_of_own O8 (allS_wf pall), AS ((N7.alloc _).trans Y8)⟩
      · have d1b : (q == 1) = false := by simpa using d1
        clear d1
        by_cases d2 : q = 2
        · have d2b : (q == 2) = true := by simpa using d2
          clear d2
          have PH : Hid (∀ i, i < [5, -1].length → (u7.alloc (.cells #[.int .i64 5, .int .i64 (-1)] 2)).cell? ⟨u7.heap.size, i, none⟩ = some (.int .i64 ([5, -1].getD i 0))) := cells_lit u7 [5, -1] 2 _ rfl
          go_wp2_with fail
          refine (pick_any _ _ _ a len cap zs _ (S7.alloc _) (by omega) u7.heap.size [5, -1] 2 rfl (by simp) (by omega) (by omega) (by omega) 2 PH.out).mono ?_
          rintro e u8 ⟨x, rfl, hx, S8, Y8⟩
          have hx' : -1 ≤ x ∧ x ≤ 5 := by simp at hx; omega
          have O8 := own_only (O7.alloc (.cells #[.int .i64 5, .int .i64 (-1)] 2)) Y8 hlt7
          have z8 := Y8.size
          simp at z8
          clear hx PH
          go_wp2_with (at_builtin; refine wpList_append_own _ rfl _ _ 24 rfl u5.heap.size 2 i0 (.int .i64 0) 1 8 Tryd.underlying24 hi hz0 hz1 hz2 rfl (by decide) _ _ _ rfl (O8.alloc _) ⟨u8.heap.size, 0, none⟩ 1 1 [.int .i64 x] rfl rfl (one_new _ _ _) (by intro u hu; simp at hu; subst hu; rfl) (by unfold maxLen; omega) (by omega) (by simp; omega) ?_; intro v' w9 hown3 hgrow _h4)
          have hbel : Below u5.heap.size (u8.alloc (.cells #[.int .i64 x] 2)) w9 := (Below.refl _ _).grown hgrow (by simp; omega) (fun k hk => (O8.lt k hk).1)
          have O9 : w9.ownsRow u5.heap.size 2 1 v' (pp ++ [x]).length ((pp ++ [x]).map (.int .i64)) := by simpa using hown3
          obtain ⟨a9, c9, rfl⟩ := own_row_shape O9
          exact bodyPost_ret (v := .tuple #[.int .i64 lf, .int .i64 j, .int .i64 ls.length, .slice a9 (pp ++ [x]).length c9]) (by simp [results, Tryd.results16, go_sem]) rfl ⟨lf, j, ls.length, a9, c9, pp ++ [x], rfl, by simp; omega, (own_caps O9).1, (own_caps O9).2, by omega, has_of_own O9 (by intro y hy; simp at hy; rcases hy with hy | rfl; exact allS_wf pall y hy; exact WalkArith.wf_i64 (by omega)), AS ((((N7.alloc _).trans Y8).alloc _).then_below (hbel.mono (by omega)))⟩
        · have d2b : (q == 2) = false := by simpa using d2
          clear d2
          by_cases d3 : q = 3
          · have d3b : (q == 3) = true := by simpa using d3
            clear d3
            have PH : Hid (∀ i, i < [-1, (ls.length : Int)].length → (u7.alloc (.cells #[.int .i64 (-1), .int .i64 (ls.length : Int)] 2)).cell? ⟨u7.heap.size, i, none⟩ = some (.int .i64 ([-1, (ls.length : Int)].getD i 0))) := cells_lit u7 [-1, (ls.length : Int)] 2 _ rfl
            go_wp2_with fail
            refine (pick_any _ _ _ a len cap zs _ (S7.alloc _) (by omega) u7.heap.size [-1, (ls.length : Int)] 2 rfl (by simp) (by omega) (by omega) (by omega) 2 PH.out).mono ?_
            rintro e u8 ⟨x, rfl, hx, S8, Y8⟩
            have O8 := own_only (O7.alloc (.cells #[.int .i64 (-1), .int .i64 (ls.length : Int)] 2)) Y8 hlt7
            clear hx PH
            go_wp2
            exact bodyPost_ret (v := .tuple #[.int .i64 lf, .int .i64 x, .int .i64 ls.length, .slice a6 pp.length c6]) (by simp [results, Tryd.results16, go_sem]) rfl ⟨lf, x, ls.length, a6, c6, pp, rfl, by omega, (own_caps O8).1, (own_caps O8).2, by omega, has_of_own O8 (allS_wf pall), AS ((N7.alloc _).trans Y8)⟩
          · have d3b : (q == 3) = false := by simpa using d3
            clear d3
            go_wp2
            exact bodyPost_ret (v := .tuple #[.int .i64 lf, .int .i64 j, .int .i64 ls.length, .slice a6 pp.length c6]) (by simp [results, Tryd.results16, go_sem]) rfl ⟨lf, j, ls.length, a6, c6, pp, rfl, by omega, (own_caps O7).1, (own_caps O7).2, by omega, has_of_own O7 (allS_wf pall), AS N7⟩
  · have h24' : ¬ (24 : Int) < qs.length := by omega
    subst e1 e2
    have E3 : Hid (ls.length = qs.length) := e3
    clear e3
    go_wp2_with fail
    rw [← E3.out]
    clear E3 h24 h24'
    refine (NX.out _ S3).mono ?_
    rintro e u5 ⟨k, rfl, k0, k1, S5, Y5⟩
    obtain ⟨j, rfl⟩ : ∃ j : Nat, k = (j : Int) := ⟨k.toNat, by omega⟩
    have H5 := H4.grown Y5.grown (fun ad e => by cases e; intro h; cases h; exact gne rfl)
    have z5 := Y5.size
    have cj := (Y5.cell (b := g) hbl gne).trans (hcell j (by omega))
    go_wp2_with fail
    refine (l4Path_any _ _ _ ls j _ (Nat.le_refl _) (by omega) lall (by omega) (by omega) H5 lc lm).mono ?_
    rintro e u6 ⟨a6, c6, rfl, O6, hb6⟩
    have pl := ptM_len nS 11 _ ls j (Nat.le_refl _)
    have pall := ptM_all _ ls j (Nat.le_refl _) lall
    have cj6 := (hb6.cell (by show g < _; omega)).trans cj
    have S6 := S5.below hb6
    have Y6 := (Y3.trans Y5).trans (.of_below hb6)
    have z6 := hb6.size
    have hlt6 : u0 < u5.heap.size := by omega
    (try simp at cj6)
    generalize ptM nS 11 ls j = pp at *
    generalize ls[j]?.getD 0 = lf at *
    clear hcell cj H5 H4 S5 Y5 hb6 NX
    go_wp2_with fail
    refine (next_any _ _ _ a len cap zs _ 8 S6 (by omega) (by omega) (by omega)).mono ?_
    rintro e u7 ⟨q, rfl, q0, q1, S7, Y7⟩
    have O7 := own_only O6 Y7 hlt6
    have N7 := Y6.trans Y7
    have z7 := Y7.size
    have hlt7 := hlt6
    clear O6 S6 Y6 Y7 cj6
    by_cases d0 : q = 0
    · have d0b : (q == 0) = true := by simpa using d0
      clear d0
      have PH : Hid (∀ i, i < [-1, 65521, 3].length → (u7.alloc (.cells #[.int .i64 (-1), .int .i64 65521, .int .i64 3] 2)).cell? ⟨u7.heap.size, i, none⟩ = some (.int .i64 ([-1, 65521, 3].getD i 0))) := cells_lit u7 [-1, 65521, 3] 2 _ rfl
      go_wp2_with fail
      refine (pick_any _ _ _ a len cap zs _ (S7.alloc _) (by omega) u7.heap.size [-1, 65521, 3] 3 rfl (by simp) (by omega) (by omega) (by omega) 3 PH.out).mono ?_
      rintro e u8 ⟨x, rfl, hx, S8, Y8⟩
      have O8 := own_only (O7.alloc (.cells #[.int .i64 (-1), .int .i64 65521, .int .i64 3] 2)) Y8 hlt7
      clear hx PH
      go_wp2
      exact bodyPost_ret (v := .tuple #[.int .i64 x, .int .i64 j, .int .i64 ls.length, .slice a6 pp.length c6]) (by simp [results, Tryd.results16, go_sem]) rfl ⟨x, j, ls.length, a6, c6, pp, rfl, by omega, (own_caps O8).1, (own_caps O8).2, by omega, has_of_own O8 (allS_wf pall), AS ((N7.alloc _).trans Y8)⟩
    · have d0b : (q == 0) = false := by simpa using d0
      clear d0
      by_cases d1 : q = 1
      · have d1b : (q == 1) = true := by simpa using d1
        clear d1
        have PH : Hid (∀ i, i < [0, (ls.length : Int) + 1, 25].length → (u7.alloc (.cells #[.int .i64 0, .int .i64 ((ls.length : Int) + 1), .int .i64 25] 2)).cell? ⟨u7.heap.size, i, none⟩ = some (.int .i64 ([0, (ls.length : Int) + 1, 25].getD i 0))) := cells_lit u7 [0, (ls.length : Int) + 1, 25] 2 _ rfl
        go_wp2_with fail
        refine (pick_any _ _ _ a len cap zs _ (S7.alloc _) (by omega) u7.heap.size [0, (ls.length : Int) + 1, 25] 3 rfl (by simp) (by omega) (by omega) (by omega) 3 PH.out).mono ?_
        rintro e u8 ⟨x, rfl, hx, S8, Y8⟩
        have hx' : -1 ≤ x ∧ x ≤ 30 := by simp at hx; omega
        have O8 := own_only (O7.alloc (.cells #[.int .i64 0, .int .i64 ((ls.length : Int) + 1), .int .i64 25] 2)) Y8 hlt7
        clear hx PH
        go_wp2
        exact bodyPost_ret (v := .tuple #[.int .i64 lf, .int .i64 j, .int .i64 x, .slice a6 pp.length c6]) (by simp [results, Tryd.results16, go_sem]) rfl ⟨lf, j, x, a6, c6, pp, rfl, by omega, (own_caps O8).1, (own_caps O8).2, by omega, has_of_own O8 (allS_wf pall), AS ((N7.alloc _).trans Y8)⟩
      · have d1b : (q == 1) = false := by simpa using d1
        clear d1
        by_cases d2 : q = 2
        · have d2b : (q == 2) = true := by simpa using d2
          clear d2
          have PH : Hid (∀ i, i < [5, -1].length → (u7.alloc (.cells #[.int .i64 5, .int .i64 (-1)] 2)).cell? ⟨u7.heap.size, i, none⟩ = some (.int .i64 ([5, -1].getD i 0))) := cells_lit u7 [5, -1] 2 _ rfl
          go_wp2_with fail
          refine (pick_any _ _ _ a len cap zs _ (S7.alloc _) (by omega) u7.heap.size [5, -1] 2 rfl (by simp) (by omega) (by omega) (by omega) 2 PH.out).mono ?_
          rintro e u8 ⟨x, rfl, hx, S8, Y8⟩
          have hx' : -1 ≤ x ∧ x ≤ 5 := by simp at hx; omega
          have O8 := own_only (O7.alloc (.cells #[.int .i64 5, .int .i64 (-1)] 2)) Y8 hlt7
          have z8 := Y8.size
          simp at z8
          clear hx PH
          go_wp2_with (at_builtin; refine wpList_append_own _ rfl _ _ 24 rfl u5.heap.size 2 i0 (.int .i64 0) 1 8 Tryd.underlying24 hi hz0 hz1 hz2 rfl (by decide) _ _ _ rfl (O8.alloc _) ⟨u8.heap.size, 0, none⟩ 1 1 [.int .i64 x] rfl rfl (one_new _ _ _) (by intro u hu; simp at hu; subst hu; rfl) (by unfold maxLen; omega) (by omega) (by simp; omega) ?_; intro v' w9 hown3 hgrow _h4)
          have hbel : Below u5.heap.size (u8.alloc (.cells #[.int .i64 x] 2)) w9 := (Below.refl _ _).grown hgrow (by simp; omega) (fun k hk => (O8.lt k hk).1)
          have O9 : w9.ownsRow u5.heap.size 2 1 v' (pp ++ [x]).length ((pp ++ [x]).map (.int .i64)) := by simpa using hown3
          obtain ⟨a9, c9, rfl⟩ := own_row_shape O9
          exact bodyPost_ret (v := .tuple #[.int .i64 lf, .int .i64 j, .int .i64 ls.length, .slice a9 (pp ++ [x]).length c9]) (by simp [results, Tryd.results16, go_sem]) rfl ⟨lf, j, ls.length, a9, c9, pp ++ [x], rfl, by simp; omega, (own_caps O9).1, (own_caps O9).2, by omega, has_of_own O9 (by intro y hy; simp at hy; rcases hy with hy | rfl; exact allS_wf pall y hy; exact WalkArith.wf_i64 (by omega)), AS ((((N7.alloc _).trans Y8).alloc _).then_below (hbel.mono (by omega)))⟩
        · have d2b : (q == 2) = false := by simpa using d2
          clear d2
          by_cases d3 : q = 3
          · have d3b : (q == 3) = true := by simpa using d3
            clear d3
            have PH : Hid (∀ i, i < [-1, (ls.length : Int)].length → (u7.alloc (.cells #[.int .i64 (-1), .int .i64 (ls.length : Int)] 2)).cell? ⟨u7.heap.size, i, none⟩ = some (.int .i64 ([-1, (ls.length : Int)].getD i 0))) := cells_lit u7 [-1, (ls.length : Int)] 2 _ rfl
            go_wp2_with fail
            refine (pick_any _ _ _ a len cap zs _ (S7.alloc _) (by omega) u7.heap.size [-1, (ls.length : Int)] 2 rfl (by simp) (by omega) (by omega) (by omega) 2 PH.out).mono ?_
            rintro e u8 ⟨x, rfl, hx, S8, Y8⟩
            have O8 := own_only (O7.alloc (.cells #[.int .i64 (-1), .int .i64 (ls.length : Int)] 2)) Y8 hlt7
            clear hx PH
            go_wp2
            exact bodyPost_ret (v := .tuple #[.int .i64 lf, .int .i64 x, .int .i64 ls.length, .slice a6 pp.length c6]) (by simp [results, Tryd.results16, go_sem]) rfl ⟨lf, x, ls.length, a6, c6, pp, rfl, by omega, (own_caps O8).1, (own_caps O8).2, by omega, has_of_own O8 (allS_wf pall), AS ((N7.alloc _).trans Y8)⟩
          · have d3b : (q == 3) = false := by simpa using d3
            clear d3
            go_wp2
            exact bodyPost_ret (v := .tuple #[.int .i64 lf, .int .i64 j, .int .i64 ls.length, .slice a6 pp.length c6]) (by simp [results, Tryd.results16, go_sem]) rfl ⟨lf, j, ls.length, a6, c6, pp, rfl, by omega, (own_caps O7).1, (own_caps O7).2, by omega, has_of_own O7 (allS_wf pall), AS N7⟩

set_option maxHeartbeats 4000000 in
theorem drawAcceptLeaf_any (w : World) (a : Option Addr) (len cap : Nat) (zs : List Int) (h : Has w .u8 a len zs) (hl : len ≤ 1048576) :
    Calls Tryd.prog 18 #[.slice a len cap] w fun e w' => ∃ (x : Option Addr) (cx : Nat) (ds : List Int) (k z : Int) (y : Option Addr) (cy : Nat) (ps : List Int) (rt : Int), e = .returned (.tuple #[.slice x ds.length cx, .int .i64 k, .int .i64 z, .slice y ps.length cy, .int .i64 rt]) ∧ ds.length ≤ 10 ∧ ps.length ≤ 30 ∧ ps.length ≤ cy ∧ cy ≤ maxLen ∧ (-1 ≤ z ∧ z ≤ 30) ∧ Has w' .u8 x ds.length ds ∧ Has w' .i64 y ps.length ps ∧ Below w.heap.size w w' := by
  obtain ⟨i8, hi8, hy0, hy1, hy2⟩ := info_parts info8
  go_enter Tryd.func18, Tryd.ntmps18
  go_wp2_with fail
  refine (source_any _ a len cap zs h hl).mono ?_
  rintro e u1 ⟨rfl, S1, hb1, hs1⟩
  obtain ⟨u0, hu0⟩ : ∃ u0, u0 = w.heap.size := ⟨_, rfl⟩
  have AS : ∀ {w2 : World}, Only u0 u1 w2 → Below w.heap.size w w2 := fun {w2} ho => after_source hb1 (by rw [← hu0]; exact ho)
  rw [← hu0] at S1 hs1 ⊢
  clear hu0
  go_wp2_with fail
  refine (l4Draw_any _ _ _ a len cap zs 0 S1 (by omega)).mono ?_
  rintro e u2 ⟨a2, c2, ls, t2, rfl, hyl, O2, lall, S2, ht2, Y2⟩
  have z2 := Y2.size
  by_cases h0 : ls.length = 0
  · have OW : (u2.alloc (.cells #[.int .i64 1] 2)).ownsRow u1.heap.size 2 1 (.slice (some ⟨u2.heap.size, 0, none⟩) 1 1) 1 (([1] : List Int).map (.int .i64)) := World.ownsRow_lit u2 #[.int .i64 1] 1 z2 (by unfold maxLen; omega) rfl
    have SW := S2.alloc (.cells #[.int .i64 1] 2)
    have YW := Y2.alloc (.cells #[.int .i64 1] 2)
    have lall : allS [1] = true := by decide
    go_wp2_with fail
    generalize u2.alloc (.cells #[.int .i64 1] 2) = W at *
    generalize u2.heap.size = g at *
    clear h0 O2 S2 Y2 z2 hyl
    refine (next_wide _ _ _ a len cap zs _ 1 SW (by omega) (by omega) (by omega)).mono ?_
    rintro e u5 ⟨k, rfl, k0, k1, S5, Y5⟩
    obtain ⟨j, rfl⟩ : ∃ j : Nat, k = (j : Int) := ⟨k.toNat, by omega⟩
    have O5 := own_only OW Y5 hs1
    have N5 := YW.trans Y5
    have z5 := N5.size
    clear OW SW YW Y5
    go_wp2_with fail
    refine (next_any _ _ _ a len cap zs _ 4 S5 (by omega) (by omega) (by omega)).mono ?_
    rintro e u6 ⟨q, rfl, q0, q1, S6, Y6⟩
    obtain ⟨qn, rfl⟩ : ∃ qn : Nat, q = (qn : Int) := ⟨q.toNat, by omega⟩
    have O6 := own_only O5 Y6 hs1
    have N6 := N5.trans Y6
    have z6 := N6.size
    have gl6 : g < u6.heap.size := (O6.lt g rfl).2
    have gb : u1.heap.size ≤ g := (O6.lt g rfl).1
    clear O5 N5 Y6 S5
    go_wp2_with fail
    refine (some_any _ _ _ a len cap zs _ qn S6 (by omega) (by omega)).mono ?_
    rintro e u7 ⟨a7, c7, ds, rfl, hdl, D7, dw, S7, Y7⟩
    subst hdl
    have O7 := own_only O6 Y7 hs1
    have N7 := N6.trans Y7
    have z7 := Y7.size
    have hs6 : u0 < u6.heap.size := by omega
    clear O6 N6 Y7 S6
    go_wp2_with fail
    refine (l2Leaf_any a7 c7 ds _ (has_of_own D7 dw) (by omega)).mono ?_
    rintro e u8 ⟨a8, c8, rfl, L8, hb8⟩
    have HL := has_of_own L8 (leaf_wf dw)
    have LS2 := l2Sum_any a8 c8 (leafL ds) u8 HL (by simp [leafL]; omega)
    rw [show (leafL ds).length = ds.length + 1 from by simp [leafL]] at LS2
    have O8 := own_below O7 hb8
    have D8 := own_below D7 hb8
    have S8 := S7.below hb8
    have N8 := N7.trans (.of_below hb8)
    have z8 := hb8.size
    clear L8 HL O7 D7 S7 N7 hb8
    have SB := sum_bd (leafL ds)
    go_wp2_with fail
    refine LS2.mono ?_
    rintro e u9 ⟨rfl, hu9⟩
    have hu9' := hu9.symm
    subst hu9'
    clear hu9 LS2
    generalize sumL (leafL ds) = sv at *
    have hst := O8.stored j (.int .i64 sv)
    rw [← List.map_set] at hst
    have jlt : j < ([1] : List Int).length := by first | omega | (simp; omega)
    have cj : u8.cell? ⟨g, j, none⟩ = some (.int .i64 (([1] : List Int).getD j 0)) := by rw [O8.cellAt j (by omega), List.getElem?_map, List.getD_eq_getElem?_getD, List.getElem?_eq_getElem jlt]; rfl
    clear jlt
    have fj := O8.frozenAt j
    have lall2 : allS (([1] : List Int).set j sv) = true := by
      unfold allS at lall ⊢
      rw [List.all_eq_true] at lall ⊢
      intro y hy
      rcases List.mem_or_eq_of_mem_set hy with h | h
      · exact lall y h
      · subst h; simp; omega
    have hml : (([1] : List Int).set j sv).length = 1 := by simp
    generalize ([1] : List Int).set j sv = ms at *
    have fs : Fr (fun k => k = g) u8 (u8.setCell ⟨g, j, none⟩ (.int .i64 sv)) := by refine Fr.setCell (Fr.refl _ _) _ _ ?_; rfl
    have D9 := own_fr D8 fs (fun k e1 e2 => by have := (D8.lt k e1).1; omega)
    have S9 := S8.below' (fs.below (B := u1.heap.size) (fun k e => by omega) (by omega)) hs1
    have N9 := N8.storeNew (o := j) gb (.int .i64 sv)
    have O9 : (u8.setCell ⟨g, j, none⟩ (.int .i64 sv)).ownsRow u1.heap.size 2 1 (.slice (some ⟨g, 0, none⟩) 1 1) 1 (ms.map (.int .i64)) := hst.1
    have z9 := fs.size
    have D8X : ∀ {k : Nat}, (Value.slice a7 ds.length c7).ownBlock = some k → k < (u8.setCell ⟨g, j, none⟩ (.int .i64 sv)).heap.size := fun {k} e => (D9.lt k e).2
    obtain ⟨X, hX⟩ : ∃ X, X = u8.setCell ⟨g, j, none⟩ (.int .i64 sv) := ⟨_, rfl⟩
    rw [← hX] at D9 S9 N9 O9 z9 D8X
    have hcc := own_caps O9
    have HM : Has X .i64 (some ⟨g, 0, none⟩) ms.length ms := has_of_own O9 (allS_wf lall2)
    have LP := l4Path_any _ (some ⟨g, 0, none⟩) 1 ms j X (Nat.le_refl _) (by omega) lall2 (by omega) (by omega) HM (by omega) hcc.2
    have pl := ptM_len nS 11 _ ms j (Nat.le_refl _)
    have pall := ptM_all _ ms j (Nat.le_refl _) lall2
    rw [hml] at LP
    clear O8 D8 S8 N8 hst fs
    go_wp2_with fail
    rw [← hX]
    clear hX cj fj
    refine LP.mono ?_
    rintro e u10 ⟨a10, c10, rfl, P10, hb10⟩
    generalize ptM nS 11 ms j = pp at *
    have RT := l4Root_any _ (some ⟨g, 0, none⟩) 1 ms u10 (Nat.le_refl _) (by omega) lall2 (HM.below hb10 (Nat.le_refl _)) (by omega) hcc.2
    rw [hml] at RT
    have D10 := own_below D9 hb10
    have S10 := S9.below hb10
    have N10 := N9.trans (.of_below hb10)
    have z10 := hb10.size
    clear LP D9 S9 N9 O9 HM
    go_wp2_with fail
    refine RT.mono ?_
    rintro e u11 ⟨rfl, hb11⟩
    generalize rtM nS 11 ms = rt at *
    have D11 := own_below D10 hb11
    have P11 := own_below P10 hb11
    have S11 := S10.below hb11
    have N11 := N10.trans (.of_below hb11)
    have z11 := hb11.size
    have hsX : u0 < X.heap.size := by omega
    clear RT D10 P10 S10 N10 hb10 hb11
    go_wp2_with fail
    refine (next_any _ _ _ a len cap zs _ 6 S11 (by omega) (by omega) (by omega)).mono ?_
    rintro e u12 ⟨q2, rfl, r0, r1, S12, Y12⟩
    have D12 := own_only D11 Y12 hs6
    have P12 := own_only P11 Y12 hsX
    have N12 := N11.trans Y12
    have z12 := Y12.size
    clear D11 P11 S11 N11 Y12
    by_cases d0 : q2 = 0
    · have d0b : (q2 == 0) = true := by simpa using d0
      clear d0
      go_wp2_with fail
      refine (next_wide _ _ _ a len cap zs _ 65521 S12 (by omega) (by omega) (by omega)).mono ?_
      rintro e u13 ⟨x, rfl, x0, x1, S13, Y13⟩
      have D13 := own_only D12 Y13 hs6
      have P13 := own_only P12 Y13 hsX
      go_wp2
      exact bodyPost_ret (v := .tuple #[.slice a7 ds.length c7, .int .i64 j, .int .i64 1, .slice a10 pp.length c10, .int .i64 x]) (by simp [results, Tryd.results18, go_sem]) rfl ⟨a7, c7, ds, j, 1, a10, c10, pp, x, rfl, by omega, by omega, (own_caps P13).1, (own_caps P13).2, by omega, has_of_own D13 dw, has_of_own P13 (allS_wf pall), AS (N12.trans Y13)⟩
    · have d0b : (q2 == 0) = false := by simpa using d0
      clear d0
      by_cases d1 : q2 = 1
      · have d1b : (q2 == 1) = true := by simpa using d1
        clear d1
        go_wp2_with (at_builtin; refine wpList_append_own _ rfl _ _ 22 rfl u6.heap.size 5 i8 (.int .u8 0) 1 1 Tryd.underlying22 hi8 hy0 hy1 hy2 rfl (by decide) _ _ _ rfl (D12.alloc _) ⟨u12.heap.size, 0, none⟩ 1 1 [.int .u8 1] rfl rfl (one_new _ _ _) (by intro u hu; simp at hu; subst hu; rfl) (by unfold maxLen; omega) (by omega) (by simp; omega) ?_; intro v' w9 hown3 hgrow _h4)
        have hbel : Below u6.heap.size (u12.alloc (.cells #[.int .u8 1] 5)) w9 := (Below.refl _ _).grown hgrow (by simp; omega) (fun k hk => (D12.lt k hk).1)
        have D13 : w9.ownsRow u6.heap.size 5 1 v' (ds ++ [1]).length ((ds ++ [1]).map (.int .u8)) := by simpa using hown3
        have P13 := (P12.alloc (.cells #[.int .u8 1] 5)).kept hgrow (by
          cases hq : (Value.slice a10 pp.length c10).ownBlock with
          | none => exact .inl rfl
          | some pg =>
            refine .inr (fun e => ?_)
            have h1 := (P12.lt pg hq).1
            have h2 := D8X (e.symm)
            omega)
        obtain ⟨a9, c9, rfl⟩ := own_row_shape D13
        exact bodyPost_ret (v := .tuple #[.slice a9 (ds ++ [1]).length c9, .int .i64 j, .int .i64 1, .slice a10 pp.length c10, .int .i64 rt]) (by simp [results, Tryd.results18, go_sem]) rfl ⟨a9, c9, ds ++ [1], j, 1, a10, c10, pp, rt, rfl, by simp; omega, by omega, (own_caps P13).1, (own_caps P13).2, by omega, has_of_own D13 (by intro y hy; simp at hy; rcases hy with hy | rfl; exact dw y hy; rfl), has_of_own P13 (allS_wf pall), AS ((N12.alloc _).then_below (hbel.mono (by omega)))⟩
      · have d1b : (q2 == 1) = false := by simpa using d1
        clear d1
        by_cases d2 : q2 = 2
        · have d2b : (q2 == 2) = true := by simpa using d2
          clear d2
          by_cases hp0 : pp.length = 0
          · have hp0' : ¬ (0 : Int) < (pp.length : Int) := by omega
            have HP0 : Hid (pp.length = 0) := hp0
            clear hp0
            go_wp2
            exact bodyPost_ret (v := .tuple #[.slice a7 ds.length c7, .int .i64 j, .int .i64 1, .slice a10 pp.length c10, .int .i64 rt]) (by simp [results, Tryd.results18, go_sem]) rfl ⟨a7, c7, ds, j, 1, a10, c10, pp, rt, rfl, by omega, by omega, (own_caps P12).1, (own_caps P12).2, by omega, has_of_own D12 dw, has_of_own P12 (allS_wf pall), AS N12⟩
          · have hp0' : (0 : Int) < (pp.length : Int) := by omega
            obtain ⟨pg, hpg⟩ : ∃ pg, a10 = some ⟨pg, 0, none⟩ := by
              rcases P12.2 with ⟨_, e⟩ | ⟨pg, _, _, e, _⟩
              · omega
              · simp at e; exact ⟨pg, e.1⟩
            subst hpg
            go_wp2_with fail
            refine (next_wide _ _ _ a len cap zs _ 65521 S12 (by omega) (by omega) (by omega)).mono ?_
            rintro e u13 ⟨x, rfl, x0, x1, S13, Y13⟩
            have D13 := own_only D12 Y13 hs6
            have P13 := own_only P12 Y13 hsX
            have N13 := N12.trans Y13
            have hst := P13.stored 0 (.int .i64 x)
            rw [← List.map_set] at hst
            have c0 : u13.cell? ⟨pg, 0, none⟩ = some (.int .i64 (pp.getD 0 0)) := by rw [P13.cellAt 0 (by omega), List.getElem?_map]; have : 0 < pp.length := (by omega); simp [List.getD, this]
            have f0 := P13.frozenAt 0
            have hpb := (P13.lt pg rfl).1
            have pwf : ∀ n ∈ pp.set 0 x, (Lit.int .i64 n).wf = true := fun n hn => by
              rcases List.mem_or_eq_of_mem_set hn with h | h
              · exact allS_wf pall n h
              · subst h; exact WalkArith.wf_i64 (by omega)
            have D14 := own_fr D13 (M := fun k => k = pg) (by refine Fr.setCell (Fr.refl _ u13) ⟨pg, 0, none⟩ (.int .i64 x) ?_; rfl) (fun k e1 e2 => by have h2 := D8X e1; omega)
            have H14 := has_of_own (zs := pp.set 0 x) hst.1 pwf
            have HC := own_caps P13
            have N14 := N13.storeNew (o := 0) (b := pg) (by omega) (.int .i64 x)
            clear P13 S13 Y13 hst P12
            go_wp2
            exact bodyPost_ret (v := .tuple #[.slice a7 ds.length c7, .int .i64 j, .int .i64 1, .slice (some ⟨pg, 0, none⟩) pp.length c10, .int .i64 rt]) (by simp [results, Tryd.results18, go_sem]) rfl ⟨a7, c7, ds, j, 1, some ⟨pg, 0, none⟩, c10, pp.set 0 x, rt, by simp, by omega, by simp; omega, by simpa using HC.1, HC.2, by omega, has_of_own D14 dw, by simpa using H14, AS N14⟩
        · have d2b : (q2 == 2) = false := by simpa using d2
          clear d2
          go_wp2
          exact bodyPost_ret (v := .tuple #[.slice a7 ds.length c7, .int .i64 j, .int .i64 1, .slice a10 pp.length c10, .int .i64 rt]) (by simp [results, Tryd.results18, go_sem]) rfl ⟨a7, c7, ds, j, 1, a10, c10, pp, rt, rfl, by omega, by omega, (own_caps P12).1, (own_caps P12).2, by omega, has_of_own D12 dw, has_of_own P12 (allS_wf pall), AS N12⟩
  · have h0' : ((ls.length : Int) == 0) = false := by simp only [beq_eq_false_iff_ne, ne_eq]; omega
    obtain ⟨g, hg⟩ : ∃ g, a2 = some ⟨g, 0, none⟩ := by
      rcases O2.2 with ⟨_, e⟩ | ⟨g, _, _, e, _⟩
      · omega
      · simp at e; exact ⟨g, e.1⟩
    subst hg
    have OW := O2
    have SW := S2
    have YW := Y2
    clear O2 S2 Y2
    have hc2 := own_caps OW
    go_wp2_with fail
    refine (next_wide _ _ _ a len cap zs _ (ls.length : Int) SW (by omega) (by omega) (by omega)).mono ?_
    rintro e u5 ⟨k, rfl, k0, k1, S5, Y5⟩
    obtain ⟨j, rfl⟩ : ∃ j : Nat, k = (j : Int) := ⟨k.toNat, by omega⟩
    have O5 := own_only OW Y5 hs1
    have N5 := YW.trans Y5
    have z5 := N5.size
    clear OW SW YW Y5
    go_wp2_with fail
    refine (next_any _ _ _ a len cap zs _ 4 S5 (by omega) (by omega) (by omega)).mono ?_
    rintro e u6 ⟨q, rfl, q0, q1, S6, Y6⟩
    obtain ⟨qn, rfl⟩ : ∃ qn : Nat, q = (qn : Int) := ⟨q.toNat, by omega⟩
    have O6 := own_only O5 Y6 hs1
    have N6 := N5.trans Y6
    have z6 := N6.size
    have gl6 : g < u6.heap.size := (O6.lt g rfl).2
    have gb : u1.heap.size ≤ g := (O6.lt g rfl).1
    clear O5 N5 Y6 S5
    go_wp2_with fail
    refine (some_any _ _ _ a len cap zs _ qn S6 (by omega) (by omega)).mono ?_
    rintro e u7 ⟨a7, c7, ds, rfl, hdl, D7, dw, S7, Y7⟩
    subst hdl
    have O7 := own_only O6 Y7 hs1
    have N7 := N6.trans Y7
    have z7 := Y7.size
    have hs6 : u0 < u6.heap.size := by omega
    clear O6 N6 Y7 S6
    go_wp2_with fail
    refine (l2Leaf_any a7 c7 ds _ (has_of_own D7 dw) (by omega)).mono ?_
    rintro e u8 ⟨a8, c8, rfl, L8, hb8⟩
    have HL := has_of_own L8 (leaf_wf dw)
    have LS2 := l2Sum_any a8 c8 (leafL ds) u8 HL (by simp [leafL]; omega)
    rw [show (leafL ds).length = ds.length + 1 from by simp [leafL]] at LS2
    have O8 := own_below O7 hb8
    have D8 := own_below D7 hb8
    have S8 := S7.below hb8
    have N8 := N7.trans (.of_below hb8)
    have z8 := hb8.size
    clear L8 HL O7 D7 S7 N7 hb8
    have SB := sum_bd (leafL ds)
    go_wp2_with fail
    refine LS2.mono ?_
    rintro e u9 ⟨rfl, hu9⟩
    have hu9' := hu9.symm
    subst hu9'
    clear hu9 LS2
    generalize sumL (leafL ds) = sv at *
    have hst := O8.stored j (.int .i64 sv)
    rw [← List.map_set] at hst
    have jlt : j < ls.length := by first | omega | (simp; omega)
    have cj : u8.cell? ⟨g, j, none⟩ = some (.int .i64 (ls.getD j 0)) := by rw [O8.cellAt j (by omega), List.getElem?_map, List.getD_eq_getElem?_getD, List.getElem?_eq_getElem jlt]; rfl
    clear jlt
    have fj := O8.frozenAt j
    have lall2 : allS (ls.set j sv) = true := by
      unfold allS at lall ⊢
      rw [List.all_eq_true] at lall ⊢
      intro y hy
      rcases List.mem_or_eq_of_mem_set hy with h | h
      · exact lall y h
      · subst h; simp; omega
    have hml : (ls.set j sv).length = ls.length := by simp
    generalize ls.set j sv = ms at *
    have fs : Fr (fun k => k = g) u8 (u8.setCell ⟨g, j, none⟩ (.int .i64 sv)) := by refine Fr.setCell (Fr.refl _ _) _ _ ?_; rfl
    have D9 := own_fr D8 fs (fun k e1 e2 => by have := (D8.lt k e1).1; omega)
    have S9 := S8.below' (fs.below (B := u1.heap.size) (fun k e => by omega) (by omega)) hs1
    have N9 := N8.storeNew (o := j) gb (.int .i64 sv)
    have O9 : (u8.setCell ⟨g, j, none⟩ (.int .i64 sv)).ownsRow u1.heap.size 2 1 (.slice (some ⟨g, 0, none⟩) ls.length c2) ls.length (ms.map (.int .i64)) := hst.1
    have z9 := fs.size
    have D8X : ∀ {k : Nat}, (Value.slice a7 ds.length c7).ownBlock = some k → k < (u8.setCell ⟨g, j, none⟩ (.int .i64 sv)).heap.size := fun {k} e => (D9.lt k e).2
    obtain ⟨X, hX⟩ : ∃ X, X = u8.setCell ⟨g, j, none⟩ (.int .i64 sv) := ⟨_, rfl⟩
    rw [← hX] at D9 S9 N9 O9 z9 D8X
    have hcc := own_caps O9
    have HM : Has X .i64 (some ⟨g, 0, none⟩) ms.length ms := has_of_own O9 (allS_wf lall2)
    have LP := l4Path_any _ (some ⟨g, 0, none⟩) c2 ms j X (Nat.le_refl _) (by omega) lall2 (by omega) (by omega) HM (by omega) hcc.2
    have pl := ptM_len nS 11 _ ms j (Nat.le_refl _)
    have pall := ptM_all _ ms j (Nat.le_refl _) lall2
    rw [hml] at LP
    clear O8 D8 S8 N8 hst fs
    go_wp2_with fail
    rw [← hX]
    clear hX cj fj
    refine LP.mono ?_
    rintro e u10 ⟨a10, c10, rfl, P10, hb10⟩
    generalize ptM nS 11 ms j = pp at *
    have RT := l4Root_any _ (some ⟨g, 0, none⟩) c2 ms u10 (Nat.le_refl _) (by omega) lall2 (HM.below hb10 (Nat.le_refl _)) (by omega) hcc.2
    rw [hml] at RT
    have D10 := own_below D9 hb10
    have S10 := S9.below hb10
    have N10 := N9.trans (.of_below hb10)
    have z10 := hb10.size
    clear LP D9 S9 N9 O9 HM
    go_wp2_with fail
    refine RT.mono ?_
    rintro e u11 ⟨rfl, hb11⟩
    generalize rtM nS 11 ms = rt at *
    have D11 := own_below D10 hb11
    have P11 := own_below P10 hb11
    have S11 := S10.below hb11
    have N11 := N10.trans (.of_below hb11)
    have z11 := hb11.size
    have hsX : u0 < X.heap.size := by omega
    clear RT D10 P10 S10 N10 hb10 hb11
    go_wp2_with fail
    refine (next_any _ _ _ a len cap zs _ 6 S11 (by omega) (by omega) (by omega)).mono ?_
    rintro e u12 ⟨q2, rfl, r0, r1, S12, Y12⟩
    have D12 := own_only D11 Y12 hs6
    have P12 := own_only P11 Y12 hsX
    have N12 := N11.trans Y12
    have z12 := Y12.size
    clear D11 P11 S11 N11 Y12
    by_cases d0 : q2 = 0
    · have d0b : (q2 == 0) = true := by simpa using d0
      clear d0
      go_wp2_with fail
      refine (next_wide _ _ _ a len cap zs _ 65521 S12 (by omega) (by omega) (by omega)).mono ?_
      rintro e u13 ⟨x, rfl, x0, x1, S13, Y13⟩
      have D13 := own_only D12 Y13 hs6
      have P13 := own_only P12 Y13 hsX
      go_wp2
      exact bodyPost_ret (v := .tuple #[.slice a7 ds.length c7, .int .i64 j, .int .i64 (ls.length : Int), .slice a10 pp.length c10, .int .i64 x]) (by simp [results, Tryd.results18, go_sem]) rfl ⟨a7, c7, ds, j, (ls.length : Int), a10, c10, pp, x, rfl, by omega, by omega, (own_caps P13).1, (own_caps P13).2, by omega, has_of_own D13 dw, has_of_own P13 (allS_wf pall), AS (N12.trans Y13)⟩
    · have d0b : (q2 == 0) = false := by simpa using d0
      clear d0
      by_cases d1 : q2 = 1
      · have d1b : (q2 == 1) = true := by simpa using d1
        clear d1
        go_wp2_with (at_builtin; refine wpList_append_own _ rfl _ _ 22 rfl u6.heap.size 5 i8 (.int .u8 0) 1 1 Tryd.underlying22 hi8 hy0 hy1 hy2 rfl (by decide) _ _ _ rfl (D12.alloc _) ⟨u12.heap.size, 0, none⟩ 1 1 [.int .u8 1] rfl rfl (one_new _ _ _) (by intro u hu; simp at hu; subst hu; rfl) (by unfold maxLen; omega) (by omega) (by simp; omega) ?_; intro v' w9 hown3 hgrow _h4)
        have hbel : Below u6.heap.size (u12.alloc (.cells #[.int .u8 1] 5)) w9 := (Below.refl _ _).grown hgrow (by simp; omega) (fun k hk => (D12.lt k hk).1)
        have D13 : w9.ownsRow u6.heap.size 5 1 v' (ds ++ [1]).length ((ds ++ [1]).map (.int .u8)) := by simpa using hown3
        have P13 := (P12.alloc (.cells #[.int .u8 1] 5)).kept hgrow (by
          cases hq : (Value.slice a10 pp.length c10).ownBlock with
          | none => exact .inl rfl
          | some pg =>
            refine .inr (fun e => ?_)
            have h1 := (P12.lt pg hq).1
            have h2 := D8X (e.symm)
            omega)
        obtain ⟨a9, c9, rfl⟩ := own_row_shape D13
        exact bodyPost_ret (v := .tuple #[.slice a9 (ds ++ [1]).length c9, .int .i64 j, .int .i64 (ls.length : Int), .slice a10 pp.length c10, .int .i64 rt]) (by simp [results, Tryd.results18, go_sem]) rfl ⟨a9, c9, ds ++ [1], j, (ls.length : Int), a10, c10, pp, rt, rfl, by simp; omega, by omega, (own_caps P13).1, (own_caps P13).2, by omega, has_of_own D13 (by intro y hy; simp at hy; rcases hy with hy | rfl; exact dw y hy; rfl), has_of_own P13 (allS_wf pall), AS ((N12.alloc _).then_below (hbel.mono (by omega)))⟩
      · have d1b : (q2 == 1) = false := by simpa using d1
        clear d1
        by_cases d2 : q2 = 2
        · have d2b : (q2 == 2) = true := by simpa using d2
          clear d2
          by_cases hp0 : pp.length = 0
          · have hp0' : ¬ (0 : Int) < (pp.length : Int) := by omega
            have HP0 : Hid (pp.length = 0) := hp0
            clear hp0
            go_wp2
            exact bodyPost_ret (v := .tuple #[.slice a7 ds.length c7, .int .i64 j, .int .i64 (ls.length : Int), .slice a10 pp.length c10, .int .i64 rt]) (by simp [results, Tryd.results18, go_sem]) rfl ⟨a7, c7, ds, j, (ls.length : Int), a10, c10, pp, rt, rfl, by omega, by omega, (own_caps P12).1, (own_caps P12).2, by omega, has_of_own D12 dw, has_of_own P12 (allS_wf pall), AS N12⟩
          · have hp0' : (0 : Int) < (pp.length : Int) := by omega
            obtain ⟨pg, hpg⟩ : ∃ pg, a10 = some ⟨pg, 0, none⟩ := by
              rcases P12.2 with ⟨_, e⟩ | ⟨pg, _, _, e, _⟩
              · omega
              · simp at e; exact ⟨pg, e.1⟩
            subst hpg
            go_wp2_with fail
            refine (next_wide _ _ _ a len cap zs _ 65521 S12 (by omega) (by omega) (by omega)).mono ?_
            rintro e u13 ⟨x, rfl, x0, x1, S13, Y13⟩
            have D13 := own_only D12 Y13 hs6
            have P13 := own_only P12 Y13 hsX
            have N13 := N12.trans Y13
            have hst := P13.stored 0 (.int .i64 x)
            rw [← List.map_set] at hst
            have c0 : u13.cell? ⟨pg, 0, none⟩ = some (.int .i64 (pp.getD 0 0)) := by rw [P13.cellAt 0 (by omega), List.getElem?_map]; have : 0 < pp.length := (by omega); simp [List.getD, this]
            have f0 := P13.frozenAt 0
            have hpb := (P13.lt pg rfl).1
            have pwf : ∀ n ∈ pp.set 0 x, (Lit.int .i64 n).wf = true := fun n hn => by
              rcases List.mem_or_eq_of_mem_set hn with h | h
              · exact allS_wf pall n h
              · subst h; exact WalkArith.wf_i64 (by omega)
            have D14 := own_fr D13 (M := fun k => k = pg) (by refine Fr.setCell (Fr.refl _ u13) ⟨pg, 0, none⟩ (.int .i64 x) ?_; rfl) (fun k e1 e2 => by have h2 := D8X e1; omega)
            have H14 := has_of_own (zs := pp.set 0 x) hst.1 pwf
            have HC := own_caps P13
            have N14 := N13.storeNew (o := 0) (b := pg) (by omega) (.int .i64 x)
            clear P13 S13 Y13 hst P12
            go_wp2
            exact bodyPost_ret (v := .tuple #[.slice a7 ds.length c7, .int .i64 j, .int .i64 (ls.length : Int), .slice (some ⟨pg, 0, none⟩) pp.length c10, .int .i64 rt]) (by simp [results, Tryd.results18, go_sem]) rfl ⟨a7, c7, ds, j, (ls.length : Int), some ⟨pg, 0, none⟩, c10, pp.set 0 x, rt, by simp, by omega, by simp; omega, by simpa using HC.1, HC.2, by omega, has_of_own D14 dw, by simpa using H14, AS N14⟩
        · have d2b : (q2 == 2) = false := by simpa using d2
          clear d2
          go_wp2
          exact bodyPost_ret (v := .tuple #[.slice a7 ds.length c7, .int .i64 j, .int .i64 (ls.length : Int), .slice a10 pp.length c10, .int .i64 rt]) (by simp [results, Tryd.results18, go_sem]) rfl ⟨a7, c7, ds, j, (ls.length : Int), a10, c10, pp, rt, rfl, by omega, by omega, (own_caps P12).1, (own_caps P12).2, by omega, has_of_own D12 dw, has_of_own P12 (allS_wf pall), AS N12⟩

end Go.Proofs.YtkjhcblfkpknlaaDoor
