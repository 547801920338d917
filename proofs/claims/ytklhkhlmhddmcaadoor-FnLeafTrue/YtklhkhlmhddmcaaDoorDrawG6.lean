/- Contracts: the model's draw of a growth that is looked through for a clash. -/
import Derived.Test.YtklhkhlmhddmcaaDoorDraw5D
namespace Go.Proofs.YtklhkhlmhddmcaaDoor
open Go.ChangeShapes Go.WideShapes Go.ChangeAt Go.RowKit
set_option linter.unusedVariables false
set_option linter.unusedSimpArgs false

theorem own_form6 {w : World} {base e n : Nat} {v : Value} {xs : List Value} (h : w.ownsRow base e 1 v n xs) (hn : 0 < n) : ∃ g c, v = .slice (some ⟨g, 0, none⟩) n c ∧ base ≤ g ∧ g < w.heap.size ∧ n ≤ c ∧ c ≤ maxLen := by
  rcases h.2 with ⟨_, h0⟩ | ⟨g, cap, cur, hv, hb, hg, h1, h2, _⟩
  · omega
  · exact ⟨g, cap, hv, hb, (Array.getElem?_eq_some_iff.1 hg).1, h1, h2⟩
theorem ints_any (a : Option Addr) (cap : Nat) (zs : List Int) (w : World) (h : Has w .i64 a zs.length zs) (hl : zs.length ≤ 1048576) :
    Calls Tryd.prog 76 #[.slice a zs.length cap] w fun r w' => ∃ a' c', r = .returned (.slice a' zs.length c') ∧ w'.ownsRow w.heap.size 2 1 (.slice a' zs.length c') zs.length (zs.map (.int .i64)) ∧ Below w.heap.size w w' := by
  obtain ⟨i0, hi, hz0, hz1, hz2⟩ := info_parts info64
  have hown0 : (w.alloc (.cells #[] 2)).ownsRow w.heap.size 2 1 (.slice (some ⟨w.heap.size, 0, none⟩) 0 0) 0 (([] : List Int).map (.int .i64)) := World.ownsRow_lit w #[] 0 (Nat.le_refl _) (Nat.zero_le _) rfl
  have h' := h.alloc (.cells #[] 2)
  cases a with
  | none =>
    have h0 : zs.length = 0 := by
      rcases h.2.2 with c | ⟨_, _, c, _⟩
      · exact c
      · cases c
    obtain rfl : zs = [] := List.eq_nil_of_length_eq_zero h0
    clear h0 h h'
    simp only [List.length_nil]
    go_enter Tryd.func76, Tryd.ntmps76
    go_wp2
    go_ret
    exact ⟨_, _, rfl, hown0, (Below.refl _ _).alloc (Nat.le_refl _) _⟩
  | some ad =>
    have hnews := h'.news
    have H1 : Hid (∀ j u, (zs.map (.int .i64))[j]? = some u → (w.alloc (.cells #[] 2)).cell? (ad.add j) = some u) := hnews
    clear hnews h h'
    go_enter Tryd.func76, Tryd.ntmps76
    go_wp2_with (at_builtin; (refine wpList_append_own _ rfl _ _ 25 rfl w.heap.size 2 i0 (.int .i64 0) 1 8 Tryd.underlying25 hi hz0 hz1 hz2 rfl (by decide) _ _ _ rfl hown0 ad zs.length cap (zs.map (.int .i64)) rfl (by simp) H1.out (by intro u hu; simp at hu; obtain ⟨n, _, rfl⟩ := hu; rfl) (by unfold maxLen; omega) (by omega) (by simp) ?_); intro v' w3 hown3 hgrow _h4)
    have O3 : w3.ownsRow w.heap.size 2 1 v' zs.length (zs.map (.int .i64)) := by simpa using hown3
    obtain ⟨a', c', rfl⟩ := own_row_shape O3
    go_ret
    exact ⟨a', c', rfl, O3, ((Below.refl _ _).alloc (Nat.le_refl _) _).trans ((Below.refl _ _).grown hgrow (by simp) (fun k hk => (hown0.lt k hk).1))⟩
/-- A fact that is kept from the walk. -/
structure Kept (p : Prop) : Prop where
  out : p
/-- A row that lies below a block. -/
structure HasB (B : Nat) (w : World) (b o : Nat) (zs : List Int) : Prop where
  low : b < B
  has : Has w .i64 (some ⟨b, o, none⟩) zs.length zs
theorem hasJ_of {B : Nat} {w : World} {b o : Nat} {zs : List Int} (h : b < B) (k : Has w .i64 (some ⟨b, o, none⟩) zs.length zs) : HasB B w b o zs := ⟨h, k⟩
theorem HasB.has9 {B : Nat} {w w' : World} {b o : Nat} {zs : List Int} (h : HasB B w b o zs) (hb : Below B w w') : Has w' .i64 (some ⟨b, o, none⟩) zs.length zs := by
  refine ⟨h.has.1, h.has.2.1, ?_⟩
  rcases h.has.2.2 with c | ⟨b', o', e, lt, hc⟩
  · exact .inl c
  · simp at e
    obtain ⟨rfl, rfl⟩ := e
    exact .inr ⟨b, o, rfl, Nat.lt_of_lt_of_le lt hb.size, fun i hi => (hb.cell (p := ⟨b, o + i, none⟩) h.low).trans (hc i hi)⟩

set_option maxHeartbeats 8000000 in
set_option maxRecDepth 100000 in
theorem drawGrowClash_any (w : World) (a : Option Addr) (len cap : Nat) (zs : List Int) (h : Has w .u8 a len zs) (hl : len ≤ 1048576) :
    Calls Tryd.prog 25 #[.slice a len cap] w fun e w' => ∃ (a1 : Option Addr) (c1 : Nat) (xs : List Int) (a2 : Option Addr) (c2 : Nat) (ys : List Int) (a3 : Option Addr) (c3 : Nat) (ps : List Int), e = .returned (.tuple #[.slice a1 xs.length c1, .slice a2 ys.length c2, .slice a3 ps.length c3]) ∧ xs.length ≤ 30 ∧ ys.length ≤ 30 ∧ ps.length ≤ 30 ∧ (xs.length ≤ c1 ∧ c1 ≤ maxLen) ∧ (ys.length ≤ c2 ∧ c2 ≤ maxLen) ∧ (ps.length ≤ c3 ∧ c3 ≤ maxLen) ∧ Has w' .i64 a1 xs.length xs ∧ Has w' .i64 a2 ys.length ys ∧ Has w' .i64 a3 ps.length ps ∧ Below w.heap.size w w' := by
  obtain ⟨i0, hi, hz0, hz1, hz2⟩ := info_parts info64
  go_enter Tryd.func25, Tryd.ntmps25
  go_wp2_with fail
  refine (source_any _ a len cap zs h hl).mono ?_
  rintro e u1 ⟨rfl, S1, hb1, hs1⟩
  obtain ⟨u0, hu0⟩ : ∃ u0, u0 = w.heap.size := ⟨_, rfl⟩
  have AS : ∀ {w2 : World}, Only u0 u1 w2 → Below w.heap.size w w2 := fun {w2} ho => after_source hb1 (by rw [← hu0]; exact ho)
  rw [← hu0] at S1 hs1 ⊢
  clear hu0
  go_wp2_with fail
  refine (l4Draw_any _ _ _ a len cap zs 0 S1 (by omega)).mono ?_
  rintro e u2 ⟨a2, c2, ys, t2, rfl, hyl, O2, yall, S2, ht2, Y2⟩
  have z2 := Y2.size
  have hc2 := own_caps O2
  go_upto_region 3 with (at_builtin; refine wpList_append_own _ rfl _ _ 25 rfl u1.heap.size 2 i0 (.int .i64 0) 1 8 Tryd.underlying25 hi hz0 hz1 hz2 rfl (by decide) _ _ _ rfl (O2.alloc _) ⟨u2.heap.size, 0, none⟩ 1 1 [.int .i64 5] rfl rfl (one_new _ _ _) (by intro u hu; simp at hu; subst hu; rfl) (by unfold maxLen; omega) (by omega) (by simp; omega) ?_; intro v' w3 hown3 hgrow _h4)
  have hbel : Below u1.heap.size (u2.alloc (.cells #[.int .i64 5] 2)) w3 := (Below.refl _ _).grown hgrow (by simp; omega) (fun k hk => (O2.lt k hk).1)
  have S3 := (S2.alloc (.cells #[.int .i64 5] 2)).below' hbel hs1
  have Y3 := (Y2.alloc (.cells #[.int .i64 5] 2)).then_below hbel
  have O3 : w3.ownsRow u1.heap.size 2 1 v' (ys ++ [5]).length ((ys ++ [5]).map (.int .i64)) := by simpa using hown3
  obtain ⟨g, c3, hv⟩ : ∃ g cap, v' = .slice (some ⟨g, 0, none⟩) (ys ++ [5]).length cap := by
    have := O3
    rw [show (ys ++ [(5 : Int)]).length = ys.length + 1 from by simp] at this ⊢
    exact ownsRow_succ this
  subst hv
  have hall : allS (ys ++ [5]) = true := allS_app yall (by omega) (by omega)
  have hl1 : (ys ++ [(5 : Int)]).length = ys.length + 1 := by simp
  have L1 : 1 ≤ (ys ++ [(5 : Int)]).length := by omega
  have L2 : (ys ++ [(5 : Int)]).length ≤ 25 := by omega
  generalize ys ++ [(5 : Int)] = qs at *
  have hc3 := own_caps O3
  have H3 := has_of_own O3 (allS_wf hall)
  have O3b : u1.heap.size ≤ g := (O3.lt g rfl).1
  unfold maxLen at hc3
  clear hown3 hgrow _h4 O2 S2 Y2 hbel hl1 yall hyl O3
  have KEY : ∃ (o c4 : Nat) (ls : List Int), 1 ≤ ls.length ∧ ls.length ≤ 24 ∧ allS ls = true ∧ ls.length ≤ c4 ∧ c4 ≤ maxLen ∧ Has w3 .i64 (some ⟨g, o, none⟩) ls.length ls ∧ ((24 < qs.length ∧ o = 1 ∧ c4 = c3 - 1 ∧ ls.length = qs.length - 1) ∨ (¬ 24 < qs.length ∧ o = 0 ∧ c4 = c3 ∧ ls.length = qs.length)) := by
    by_cases h24 : 24 < qs.length
    · exact ⟨1, c3 - 1, qs.drop 1, by simp; omega, by simp; omega, allS_drop hall 1, by simp; omega, by unfold maxLen; omega, by have := has_rest H3 1 (by omega); simpa using this, .inl ⟨h24, rfl, rfl, by simp⟩⟩
    · exact ⟨0, c3, qs, L1, by omega, hall, hc3.1, hc3.2, H3, .inr ⟨h24, rfl, rfl, rfl⟩⟩
  obtain ⟨o, c4, ls, l1, l2, lall, lc, lm, H4, hor⟩ := KEY
  have z3 := Y3.size
  obtain ⟨hbl, hcell⟩ : g < w3.heap.size ∧ ∀ i, i < ls.length → w3.cell? ⟨g, o + i, none⟩ = some (.int .i64 (ls.getD i 0)) := by
    rcases H4.2.2 with e | ⟨b, off, e1, e2, e3⟩
    · omega
    · simp at e1; obtain ⟨rfl, rfl⟩ := e1; exact ⟨e2, e3⟩
  have NX : Hid (∀ u : World, SrcAt (u) u0 u0 a len cap zs (t2) → Calls Tryd.prog 52 #[.pointer (some ⟨u0, 0, none⟩), .int .i64 ls.length] u fun e w' => ∃ v, e = .returned (.int .i64 v) ∧ 0 ≤ v ∧ v < ls.length ∧ SrcAt w' u0 u0 a len cap zs (t2 + 1) ∧ Only u0 u w') := fun u hs => next_wide u u0 u0 a len cap zs t2 ls.length hs (by omega) (by omega) (by omega)
  have gne : g ≠ u0 := by
    intro e
    have := O3b
    omega
  rcases hor with ⟨h24, e1, e2, e3⟩ | ⟨h24, e1, e2, e3⟩
  · have h24' : (24 : Int) < qs.length := by omega
    have q1 : (1 : Int) ≤ qs.length := by omega
    have q2 : (qs.length : Int) ≤ c3 := by omega
    have q3 : (1 : Int) ≤ c3 := by omega
    have q4 : ¬ c3 = 1 := by omega
    have q5 : ¬ (c3 : Int) = 1 := by omega
    subst e1
    have E2 : Hid (c4 = c3 - 1) := e2
    have E3 : Hid (ls.length = qs.length - 1) := e3
    clear e2 e3
    go_wp2_with fail
    rw [← E3.out, ← E2.out]
    clear E2 E3 h24 h24' q1 q2 q3 q4 q5
    refine (NX.out _ S3).mono ?_
    rintro e u5 ⟨k, rfl, k0, k1, S5, Y5⟩
    obtain ⟨j, hj⟩ : ∃ j : Nat, 1 + k = (j : Int) := ⟨(1 + k).toNat, by omega⟩
    have H5 := H4.grown Y5.grown (fun ad e => by cases e; intro h; cases h; exact gne rfl)
    have z5 := Y5.size
    have tl : (ls.take j).length = j := by simp; omega
    have gl := grM_len nS 11 _ ls j true (Nat.le_refl _)
    have ga := grM_all _ ls j true (Nat.le_refl _) (by omega) (by omega) lall
    have m5 : (0 : Int) ≤ j := by omega
    have m6 : (j : Int) ≤ c4 := by omega
    have R1 := ints_any (some ⟨g, 1, none⟩) c4 (ls.take j) u5 (has_init H5 j (by omega)) (by omega)
    rw [tl] at R1
    have R1H : Hid (Calls Tryd.prog 76 #[.slice (some ⟨g, 1, none⟩) j c4] u5 fun r w' => ∃ a' c', r = .returned (.slice a' j c') ∧ w'.ownsRow u5.heap.size 2 1 (.slice a' j c') j ((ls.take j).map (.int .i64)) ∧ Below u5.heap.size u5 w') := R1
    have tlH : Hid ((ls.take j).length = j) := tl
    clear R1 tl hcell H4 NX S3
    go_wp2_with fail
    refine R1H.out.mono ?_
    rintro e u6 ⟨a6, c6, rfl, O6, hb6⟩
    have z6 := hb6.size
    obtain ⟨g6, c6', hg6, hg1, hg2, hg3, hg4⟩ := own_form6 O6 (by omega)
    simp only [Value.slice.injEq] at hg6
    obtain ⟨rfl, _, rfl⟩ := hg6
    have gne6 : g ≠ g6 := by omega
    have H6 := H5.below hb6 (Nat.le_refl _)
    have S6 := S5.below hb6
    have N6 := ((Y3.trans Y5).trans (.of_below hb6))
    clear hb6 H5 S5 Y5 Y3 R1H
    go_wp2_with fail
    refine (l5Growth_any _ _ _ ls j true u6 (Nat.le_refl _) (by omega) lall (by omega) (by omega) H6 lc lm).mono ?_
    rintro e u7 ⟨a8, c8, rfl, O8, hb7⟩
    have z7 := hb7.size
    have H7 := H6.below hb7 (Nat.le_refl _)
    have S7 := S6.below hb7
    have N7 := N6.trans (.of_below hb7)
    have O67 := own_below O6 hb7
    clear hb7 H6 S6 N6 O6
    go_wp2_with fail
    refine (next_any _ _ _ a len cap zs _ 8 S7 (by omega) (by omega) (by omega)).mono ?_
    rintro e u8 ⟨q, rfl, q0, q1, S8, Y8⟩
    have z8 := Y8.size
    have H8 := H7.grown Y8.grown (fun ad e => by cases e; intro h; cases h; exact gne rfl)
    have N8 := N7.trans Y8
    have O68 := own_only O67 Y8 (by omega)
    have O88 := own_only O8 Y8 (by omega)
    clear H7 S7 N7 O67 O8 Y8
    by_cases d0 : q = 0
    · have d0b : (q == 0) = true := by simpa using d0
      clear d0
      go_wp2_with fail
      refine (next_wide _ _ _ a len cap zs _ 65521 S8 (by omega) (by omega) (by omega)).mono ?_
      rintro e u9 ⟨v, rfl, v0, v1, S9, Y9⟩
      have z9 := Y9.size
      have H9 := H8.grown Y9.grown (fun ad e => by cases e; intro h; cases h; exact gne rfl)
      have N9 := N8.trans Y9
      have O69 := own_only O68 Y9 (by omega)
      have O89 := own_only O88 Y9 (by omega)
      have hj0 : (0 : Int) < (j : Int) := by omega
      have x1 := (O69.cellAt 0 (by omega)).trans (show ((ls.take j).map (Value.int .i64))[0]? = some (.int .i64 (ls.getD 0 0)) by rw [List.getElem?_map, List.getElem?_take, if_pos (by omega), List.getElem?_eq_getElem (show 0 < ls.length by omega)]; simp [List.getD, List.getElem?_eq_getElem (show 0 < ls.length by omega)])
      have x2 := O69.frozenAt 0
      have O6s := (O69.stored 0 (.int .i64 v)).1
      have OS : Only g6 u9 (u9.setCell ⟨g6, 0, none⟩ (.int .i64 v)) := (Only.refl g6 u9).store _
      have H9s := H9.grown OS.grown (fun ad e => by cases e; intro h; cases h; exact gne6 rfl)
      have O8s := own_only O89 OS (by omega)
      have NS := N9.storeNew (b := g6) (o := 0) (by omega) (.int .i64 v)
      have O6t : (u9.setCell ⟨g6, 0, none⟩ (.int .i64 v)).ownsRow u5.heap.size 2 1 (.slice (some ⟨g6, 0, none⟩) j c6) j (((ls.take j).set 0 v).map (.int .i64)) := by rw [List.map_set]; exact O6s
      have wfs : ∀ y ∈ (ls.take j).set 0 v, (Lit.int .i64 y).wf = true := fun y hy => by rcases List.mem_or_eq_of_mem_set hy with c | c; exact allS_wf (allS_take lall j) y c; rw [c]; exact WalkArith.wf_i64 (by omega)
      have lset : ((ls.take j).set 0 v).length = j := by rw [List.length_set]; exact tlH.out
      have W9 := AS NS
      have P6 := has_of_own O6t wfs
      have P8 := has_of_own O8s (allS_wf ga)
      have hcp := own_caps O8s
      have E1H : Kept _ := ⟨P6⟩
      have E2H : Kept _ := ⟨P8⟩
      have E3H : Kept _ := ⟨H9s⟩
      have E4H : Kept _ := ⟨W9⟩
      have E5H : Hid (((ls.take j).set 0 v).length = j) := lset
      clear O6s OS H9s O8s NS O6t wfs lset W9 P6 P8 H9 H8 O69 O89 O68 O88 S9 S8 N9 N8 AS
      go_wp2
      refine bodyPost_ret (v := .tuple #[.slice (some ⟨g6, 0, none⟩) j c6, .slice (some ⟨g, 1, none⟩) ls.length c4, .slice a8 (grM nS 11 ls j true).length c8]) (by simp [results, Tryd.results25, go_sem]) rfl ⟨_, c6, (ls.take j).set 0 v, _, c4, ls, a8, c8, grM nS 11 ls j true, ?_, ?_, by omega, by omega, ⟨?_, hg4⟩, ⟨lc, lm⟩, hcp, E1H.out, E3H.out, E2H.out, E4H.out⟩
      · rw [E5H.out]
      · rw [E5H.out]; omega
      · rw [E5H.out]; omega
    · have d0b : (q == 0) = false := by simpa using d0
      clear d0
      have P6 := has_of_own O68 (allS_wf (allS_take lall j))
      have hcp := own_caps O88
      have W8 := AS N8
      by_cases d1 : q = 1
      · have d1b : (q == 1) = true := by simpa using d1
        clear d1
        have P8 := has_of_own O88 (allS_wf ga)
        have E2H : Kept _ := ⟨P8⟩
        have E3H : Kept _ := ⟨H8⟩
        have E4H : Kept _ := ⟨W8⟩
        clear P6 P8 H8 W8 O68 O88 S8 N8 AS
        go_wp2
        exact bodyPost_ret (v := .tuple #[.slice none 0 0, .slice (some ⟨g, 1, none⟩) ls.length c4, .slice a8 (grM nS 11 ls j true).length c8]) (by simp [results, Tryd.results25, go_sem]) rfl ⟨none, 0, [], _, c4, ls, a8, c8, grM nS 11 ls j true, rfl, by simp, by omega, by omega, ⟨Nat.zero_le _, Nat.zero_le _⟩, ⟨lc, lm⟩, hcp, ⟨rfl, by simp, .inl rfl⟩, E3H.out, E2H.out, E4H.out⟩
      · have d1b : (q == 1) = false := by simpa using d1
        clear d1
        by_cases d2 : q = 2
        · have d2b : (q == 2) = true := by simpa using d2
          clear d2
          go_wp2_with (at_builtin; refine wpList_append_own _ rfl _ _ 25 rfl u6.heap.size 2 i0 (.int .i64 0) 1 8 Tryd.underlying25 hi hz0 hz1 hz2 rfl (by decide) _ _ _ rfl (O88.alloc _) ⟨u8.heap.size, 0, none⟩ 1 1 [.int .i64 5] rfl rfl (one_new _ _ _) (by intro u hu; simp at hu; subst hu; rfl) (by unfold maxLen; omega) (by omega) (by simp; omega) ?_; intro v' w9 hown3 hgrow _h4)
          have hbel : Below u6.heap.size (u8.alloc (.cells #[.int .i64 5] 2)) w9 := (Below.refl _ _).grown hgrow (by simp; omega) (fun k hk => (O88.lt k hk).1)
          have O9 : w9.ownsRow u6.heap.size 2 1 v' (grM nS 11 ls j true ++ [5]).length ((grM nS 11 ls j true ++ [5]).map (.int .i64)) := by simpa using hown3
          obtain ⟨a9, c9, rfl⟩ := own_row_shape O9
          have N9 := (N8.alloc (.cells #[.int .i64 5] 2)).then_below (hbel.mono (by omega))
          have g9 : Has w9 .i64 (some ⟨g6, 0, none⟩) (ls.take j).length (ls.take j) := (hasJ_of hg2 (P6.alloc _)).has9 hbel
          have i9 : Has w9 .i64 (some ⟨g, 1, none⟩) ls.length ls := (hasJ_of (show g < u6.heap.size by omega) (H8.alloc _)).has9 hbel
          have hga : allS (grM nS 11 ls j true ++ [5]) = true := allS_app ga (by omega) (by omega)
          have P9 := has_of_own O9 (allS_wf hga)
          have hc9 := own_caps O9
          have W9 := AS N9
          exact bodyPost_ret (v := .tuple #[.slice (some ⟨g6, 0, none⟩) j c6, .slice (some ⟨g, 1, none⟩) ls.length c4, .slice a9 (grM nS 11 ls j true ++ [5]).length c9]) (by simp [results, Tryd.results25, go_sem]) rfl ⟨_, c6, ls.take j, _, c4, ls, a9, c9, grM nS 11 ls j true ++ [5], by rw [tlH.out], by rw [tlH.out]; omega, by omega, by simp; omega, ⟨by rw [tlH.out]; omega, hg4⟩, ⟨lc, lm⟩, hc9, g9, i9, P9, W9⟩
        · have d2b : (q == 2) = false := by simpa using d2
          clear d2
          have P8 := has_of_own O88 (allS_wf ga)
          have E1H : Kept _ := ⟨P6⟩
          have E2H : Kept _ := ⟨P8⟩
          have E3H : Kept _ := ⟨H8⟩
          have E4H : Kept _ := ⟨W8⟩
          clear P6 P8 H8 W8 O68 O88 S8 N8 AS
          go_wp2
          exact bodyPost_ret (v := .tuple #[.slice (some ⟨g6, 0, none⟩) j c6, .slice (some ⟨g, 1, none⟩) ls.length c4, .slice a8 (grM nS 11 ls j true).length c8]) (by simp [results, Tryd.results25, go_sem]) rfl ⟨_, c6, ls.take j, _, c4, ls, a8, c8, grM nS 11 ls j true, by rw [tlH.out], by rw [tlH.out]; omega, by omega, by omega, ⟨by rw [tlH.out]; omega, hg4⟩, ⟨lc, lm⟩, hcp, E1H.out, E3H.out, E2H.out, E4H.out⟩
  · have h24' : ¬ (24 : Int) < qs.length := by omega
    subst e1 e2
    have E3 : Hid (ls.length = qs.length) := e3
    clear e3
    go_wp2_with fail
    rw [← E3.out]
    clear E3 h24 h24'
    refine (NX.out _ S3).mono ?_
    rintro e u5 ⟨k, rfl, k0, k1, S5, Y5⟩
    obtain ⟨j, hj⟩ : ∃ j : Nat, 1 + k = (j : Int) := ⟨(1 + k).toNat, by omega⟩
    have H5 := H4.grown Y5.grown (fun ad e => by cases e; intro h; cases h; exact gne rfl)
    have z5 := Y5.size
    have tl : (ls.take j).length = j := by simp; omega
    have gl := grM_len nS 11 _ ls j true (Nat.le_refl _)
    have ga := grM_all _ ls j true (Nat.le_refl _) (by omega) (by omega) lall
    have m5 : (0 : Int) ≤ j := by omega
    have m6 : (j : Int) ≤ c4 := by omega
    have R1 := ints_any (some ⟨g, 0, none⟩) c4 (ls.take j) u5 (has_init H5 j (by omega)) (by omega)
    rw [tl] at R1
    have R1H : Hid (Calls Tryd.prog 76 #[.slice (some ⟨g, 0, none⟩) j c4] u5 fun r w' => ∃ a' c', r = .returned (.slice a' j c') ∧ w'.ownsRow u5.heap.size 2 1 (.slice a' j c') j ((ls.take j).map (.int .i64)) ∧ Below u5.heap.size u5 w') := R1
    have tlH : Hid ((ls.take j).length = j) := tl
    clear R1 tl hcell H4 NX S3
    go_wp2_with fail
    refine R1H.out.mono ?_
    rintro e u6 ⟨a6, c6, rfl, O6, hb6⟩
    have z6 := hb6.size
    obtain ⟨g6, c6', hg6, hg1, hg2, hg3, hg4⟩ := own_form6 O6 (by omega)
    simp only [Value.slice.injEq] at hg6
    obtain ⟨rfl, _, rfl⟩ := hg6
    have gne6 : g ≠ g6 := by omega
    have H6 := H5.below hb6 (Nat.le_refl _)
    have S6 := S5.below hb6
    have N6 := ((Y3.trans Y5).trans (.of_below hb6))
    clear hb6 H5 S5 Y5 Y3 R1H
    go_wp2_with fail
    refine (l5Growth_any _ _ _ ls j true u6 (Nat.le_refl _) (by omega) lall (by omega) (by omega) H6 lc lm).mono ?_
    rintro e u7 ⟨a8, c8, rfl, O8, hb7⟩
    have z7 := hb7.size
    have H7 := H6.below hb7 (Nat.le_refl _)
    have S7 := S6.below hb7
    have N7 := N6.trans (.of_below hb7)
    have O67 := own_below O6 hb7
    clear hb7 H6 S6 N6 O6
    go_wp2_with fail
    refine (next_any _ _ _ a len cap zs _ 8 S7 (by omega) (by omega) (by omega)).mono ?_
    rintro e u8 ⟨q, rfl, q0, q1, S8, Y8⟩
    have z8 := Y8.size
    have H8 := H7.grown Y8.grown (fun ad e => by cases e; intro h; cases h; exact gne rfl)
    have N8 := N7.trans Y8
    have O68 := own_only O67 Y8 (by omega)
    have O88 := own_only O8 Y8 (by omega)
    clear H7 S7 N7 O67 O8 Y8
    by_cases d0 : q = 0
    · have d0b : (q == 0) = true := by simpa using d0
      clear d0
      go_wp2_with fail
      refine (next_wide _ _ _ a len cap zs _ 65521 S8 (by omega) (by omega) (by omega)).mono ?_
      rintro e u9 ⟨v, rfl, v0, v1, S9, Y9⟩
      have z9 := Y9.size
      have H9 := H8.grown Y9.grown (fun ad e => by cases e; intro h; cases h; exact gne rfl)
      have N9 := N8.trans Y9
      have O69 := own_only O68 Y9 (by omega)
      have O89 := own_only O88 Y9 (by omega)
      have hj0 : (0 : Int) < (j : Int) := by omega
      have x1 := (O69.cellAt 0 (by omega)).trans (show ((ls.take j).map (Value.int .i64))[0]? = some (.int .i64 (ls.getD 0 0)) by rw [List.getElem?_map, List.getElem?_take, if_pos (by omega), List.getElem?_eq_getElem (show 0 < ls.length by omega)]; simp [List.getD, List.getElem?_eq_getElem (show 0 < ls.length by omega)])
      have x2 := O69.frozenAt 0
      have O6s := (O69.stored 0 (.int .i64 v)).1
      have OS : Only g6 u9 (u9.setCell ⟨g6, 0, none⟩ (.int .i64 v)) := (Only.refl g6 u9).store _
      have H9s := H9.grown OS.grown (fun ad e => by cases e; intro h; cases h; exact gne6 rfl)
      have O8s := own_only O89 OS (by omega)
      have NS := N9.storeNew (b := g6) (o := 0) (by omega) (.int .i64 v)
      have O6t : (u9.setCell ⟨g6, 0, none⟩ (.int .i64 v)).ownsRow u5.heap.size 2 1 (.slice (some ⟨g6, 0, none⟩) j c6) j (((ls.take j).set 0 v).map (.int .i64)) := by rw [List.map_set]; exact O6s
      have wfs : ∀ y ∈ (ls.take j).set 0 v, (Lit.int .i64 y).wf = true := fun y hy => by rcases List.mem_or_eq_of_mem_set hy with c | c; exact allS_wf (allS_take lall j) y c; rw [c]; exact WalkArith.wf_i64 (by omega)
      have lset : ((ls.take j).set 0 v).length = j := by rw [List.length_set]; exact tlH.out
      have W9 := AS NS
      have P6 := has_of_own O6t wfs
      have P8 := has_of_own O8s (allS_wf ga)
      have hcp := own_caps O8s
      have E1H : Kept _ := ⟨P6⟩
      have E2H : Kept _ := ⟨P8⟩
      have E3H : Kept _ := ⟨H9s⟩
      have E4H : Kept _ := ⟨W9⟩
      have E5H : Hid (((ls.take j).set 0 v).length = j) := lset
      clear O6s OS H9s O8s NS O6t wfs lset W9 P6 P8 H9 H8 O69 O89 O68 O88 S9 S8 N9 N8 AS
      go_wp2
      refine bodyPost_ret (v := .tuple #[.slice (some ⟨g6, 0, none⟩) j c6, .slice (some ⟨g, 0, none⟩) ls.length c4, .slice a8 (grM nS 11 ls j true).length c8]) (by simp [results, Tryd.results25, go_sem]) rfl ⟨_, c6, (ls.take j).set 0 v, _, c4, ls, a8, c8, grM nS 11 ls j true, ?_, ?_, by omega, by omega, ⟨?_, hg4⟩, ⟨lc, lm⟩, hcp, E1H.out, E3H.out, E2H.out, E4H.out⟩
      · rw [E5H.out]
      · rw [E5H.out]; omega
      · rw [E5H.out]; omega
    · have d0b : (q == 0) = false := by simpa using d0
      clear d0
      have P6 := has_of_own O68 (allS_wf (allS_take lall j))
      have hcp := own_caps O88
      have W8 := AS N8
      by_cases d1 : q = 1
      · have d1b : (q == 1) = true := by simpa using d1
        clear d1
        have P8 := has_of_own O88 (allS_wf ga)
        have E2H : Kept _ := ⟨P8⟩
        have E3H : Kept _ := ⟨H8⟩
        have E4H : Kept _ := ⟨W8⟩
        clear P6 P8 H8 W8 O68 O88 S8 N8 AS
        go_wp2
        exact bodyPost_ret (v := .tuple #[.slice none 0 0, .slice (some ⟨g, 0, none⟩) ls.length c4, .slice a8 (grM nS 11 ls j true).length c8]) (by simp [results, Tryd.results25, go_sem]) rfl ⟨none, 0, [], _, c4, ls, a8, c8, grM nS 11 ls j true, rfl, by simp, by omega, by omega, ⟨Nat.zero_le _, Nat.zero_le _⟩, ⟨lc, lm⟩, hcp, ⟨rfl, by simp, .inl rfl⟩, E3H.out, E2H.out, E4H.out⟩
      · have d1b : (q == 1) = false := by simpa using d1
        clear d1
        by_cases d2 : q = 2
        · have d2b : (q == 2) = true := by simpa using d2
          clear d2
          go_wp2_with (at_builtin; refine wpList_append_own _ rfl _ _ 25 rfl u6.heap.size 2 i0 (.int .i64 0) 1 8 Tryd.underlying25 hi hz0 hz1 hz2 rfl (by decide) _ _ _ rfl (O88.alloc _) ⟨u8.heap.size, 0, none⟩ 1 1 [.int .i64 5] rfl rfl (one_new _ _ _) (by intro u hu; simp at hu; subst hu; rfl) (by unfold maxLen; omega) (by omega) (by simp; omega) ?_; intro v' w9 hown3 hgrow _h4)
          have hbel : Below u6.heap.size (u8.alloc (.cells #[.int .i64 5] 2)) w9 := (Below.refl _ _).grown hgrow (by simp; omega) (fun k hk => (O88.lt k hk).1)
          have O9 : w9.ownsRow u6.heap.size 2 1 v' (grM nS 11 ls j true ++ [5]).length ((grM nS 11 ls j true ++ [5]).map (.int .i64)) := by simpa using hown3
          obtain ⟨a9, c9, rfl⟩ := own_row_shape O9
          have N9 := (N8.alloc (.cells #[.int .i64 5] 2)).then_below (hbel.mono (by omega))
          have g9 : Has w9 .i64 (some ⟨g6, 0, none⟩) (ls.take j).length (ls.take j) := (hasJ_of hg2 (P6.alloc _)).has9 hbel
          have i9 : Has w9 .i64 (some ⟨g, 0, none⟩) ls.length ls := (hasJ_of (show g < u6.heap.size by omega) (H8.alloc _)).has9 hbel
          have hga : allS (grM nS 11 ls j true ++ [5]) = true := allS_app ga (by omega) (by omega)
          have P9 := has_of_own O9 (allS_wf hga)
          have hc9 := own_caps O9
          have W9 := AS N9
          exact bodyPost_ret (v := .tuple #[.slice (some ⟨g6, 0, none⟩) j c6, .slice (some ⟨g, 0, none⟩) ls.length c4, .slice a9 (grM nS 11 ls j true ++ [5]).length c9]) (by simp [results, Tryd.results25, go_sem]) rfl ⟨_, c6, ls.take j, _, c4, ls, a9, c9, grM nS 11 ls j true ++ [5], by rw [tlH.out], by rw [tlH.out]; omega, by omega, by simp; omega, ⟨by rw [tlH.out]; omega, hg4⟩, ⟨lc, lm⟩, hc9, g9, i9, P9, W9⟩
        · have d2b : (q == 2) = false := by simpa using d2
          clear d2
          have P8 := has_of_own O88 (allS_wf ga)
          have E1H : Kept _ := ⟨P6⟩
          have E2H : Kept _ := ⟨P8⟩
          have E3H : Kept _ := ⟨H8⟩
          have E4H : Kept _ := ⟨W8⟩
          clear P6 P8 H8 W8 O68 O88 S8 N8 AS
          go_wp2
          exact bodyPost_ret (v := .tuple #[.slice (some ⟨g6, 0, none⟩) j c6, .slice (some ⟨g, 0, none⟩) ls.length c4, .slice a8 (grM nS 11 ls j true).length c8]) (by simp [results, Tryd.results25, go_sem]) rfl ⟨_, c6, ls.take j, _, c4, ls, a8, c8, grM nS 11 ls j true, by rw [tlH.out], by rw [tlH.out]; omega, by omega, by omega, ⟨by rw [tlH.out]; omega, hg4⟩, ⟨lc, lm⟩, hcp, E1H.out, E3H.out, E2H.out, E4H.out⟩

end Go.Proofs.YtklhkhlmhddmcaaDoor
