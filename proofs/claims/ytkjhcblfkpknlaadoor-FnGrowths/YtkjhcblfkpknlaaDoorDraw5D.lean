/- Contracts: the model's draws of chapter 5 for GrowthOf and StepsOf. Contracts: the model's draw of a growth. -/
import Derived.Test.YtkjhcblfkpknlaaDoorDraw4P
import Derived.Test.YtkjhcblfkpknlaaDoorGrowC
import Derived.Test.YtkjhcblfkpknlaaDoorGrow5R
namespace Go.Proofs.YtkjhcblfkpknlaaDoor
open Go.ChangeShapes Go.WideShapes Go.ChangeAt Go.RowKit
set_option linter.unusedVariables false
set_option linter.unusedSimpArgs false

set_option maxHeartbeats 1000000 in
theorem drawGrowthOf_any (w : World) (a : Option Addr) (len cap : Nat) (zs : List Int) (h : Has w .u8 a len zs) (hl : len ≤ 1048576) :
    Calls Tryd.prog 43 #[.slice a len cap] w fun e w' => ∃ (a' : Option Addr) (c' : Nat) (ys : List Int) (k : Int), e = .returned (.tuple #[.slice a' ys.length c', .int .i64 k]) ∧ ys.length ≤ 25 ∧ ys.length ≤ c' ∧ c' ≤ maxLen ∧ (0 ≤ k ∧ k ≤ 30) ∧ Has w' .i64 a' ys.length ys ∧ Below w.heap.size w w' := by
  go_enter Tryd.func43, Tryd.ntmps43
  go_wp2_with fail
  refine (source_any _ a len cap zs h hl).mono ?_
  rintro e u1 ⟨rfl, S1, hb1, hz1⟩
  go_wp2_with fail
  refine (l4Bent_any _ _ _ a len cap zs 0 S1 (by omega)).mono ?_
  rintro e u2 ⟨a2, c2, ys, t2, rfl, hyl, O2, yw, S2, ht2, Y2⟩
  have hyl' : (ys.length : Int) ≤ 25 := by omega
  go_wp2_with fail
  refine (next_wide _ _ _ a len cap zs _ _ S2 (by omega) (by omega) (by omega)).mono ?_
  rintro e u3 ⟨k, rfl, k0, k1, S3, Y3⟩
  have hc := own_caps O2
  have O3 := own_only O2 Y3 hz1
  go_wp2
  go_ret2
  exact ⟨a2, c2, ys, k, rfl, hyl, hc.1, hc.2, by omega, has_of_own O3 yw, after_source hb1 (Y2.trans Y3)⟩

set_option maxHeartbeats 1000000 in
theorem drawStepsOf_any (w : World) (a : Option Addr) (len cap : Nat) (zs : List Int) (h : Has w .u8 a len zs) (hl : len ≤ 1048576) :
    Calls Tryd.prog 48 #[.slice a len cap] w fun e w' => ∃ (s t : Int), e = .returned (.tuple #[.int .i64 s, .int .i64 t]) ∧ (0 ≤ s ∧ s ≤ 30) ∧ (0 ≤ t ∧ t ≤ 25) ∧ Below w.heap.size w w' := by
  go_enter Tryd.func48, Tryd.ntmps48
  go_wp2_with fail
  refine (source_any _ a len cap zs h hl).mono ?_
  rintro e u1 ⟨rfl, S1, hb1, hz1⟩
  go_wp2_with fail
  refine (next_wide _ _ _ a len cap zs _ _ S1 (by omega) (by omega) (by omega)).mono ?_
  rintro e u2 ⟨k, rfl, k0, k1, S2, Y2⟩
  have PH : Hid (∀ i, i < [k, 24, 25].length → (u2.alloc (.cells #[.int .i64 k, .int .i64 24, .int .i64 25] 2)).cell? ⟨u2.heap.size, i, none⟩ = some (.int .i64 ([k, 24, 25].getD i 0))) := cells_lit u2 [k, 24, 25] 2 _ rfl
  have z2 := Y2.size
  have hsl := S2.lt
  go_wp2_with fail
  refine (pick_any _ _ _ a len cap zs _ (S2.alloc _) (by omega) u2.heap.size [k, 24, 25] 3 rfl (by simp) (by omega) (by omega) (by omega) 3 PH.out).mono ?_
  rintro e u3 ⟨t, rfl, ht, S3, Y3⟩
  have ht' : 0 ≤ t ∧ t ≤ 25 := by
    simp at ht
    omega
  obtain ⟨t0, t1⟩ := ht'
  clear ht PH
  go_wp2_with fail
  refine (next_wide _ _ _ a len cap zs _ _ S3 (by omega) (by omega) (by omega)).mono ?_
  rintro e u4 ⟨s, rfl, s0, s1, S4, Y4⟩
  go_wp2
  go_ret2
  exact ⟨s, t, rfl, by omega, by omega, after_source hb1 (((Y2.alloc _).trans Y3).trans Y4)⟩

end Go.Proofs.YtkjhcblfkpknlaaDoor

namespace Go.Proofs.YtkjhcblfkpknlaaDoor
open Go.ChangeShapes Go.WideShapes Go.ChangeAt Go.RowKit
set_option maxRecDepth 100000
set_option linter.unusedVariables false
set_option linter.unusedSimpArgs false

set_option maxHeartbeats 4000000 in
theorem l5Draw_any (u1 : World) (u0 : Nat) (a : Option Addr) (len cap : Nat) (zs : List Int) (t : Nat) (S1 : SrcAt (u1) u0 u0 a len cap zs (t)) (ht : t ≤ 100000) :
    Calls Tryd.prog 82 #[.pointer (some ⟨u0, 0, none⟩)] u1 fun e w' => ∃ (s f z d : Int) (a' : Option Addr) (c' : Nat) (ps : List Int) (t' : Nat), e = .returned (.tuple #[.int .i64 s, .int .i64 f, .int .i64 z, .int .i64 d, .slice a' ps.length c']) ∧ 1 ≤ s ∧ s ≤ z ∧ z ≤ 24 ∧ (0 ≤ f ∧ f ≤ 65520) ∧ (0 ≤ d ∧ d ≤ 65520) ∧ ps.length ≤ 25 ∧ w'.ownsRow u1.heap.size 2 1 (.slice a' ps.length c') ps.length (ps.map (.int .i64)) ∧ allS ps = true ∧ SrcAt (w') u0 u0 a len cap zs (t') ∧ t' ≤ t + 41 ∧ Only u0 u1 w' := by
  obtain ⟨i0, hi, hz0, hz1, hz2⟩ := info_parts info64
  have hs1 := S1.lt
  go_enter Tryd.func82, Tryd.ntmps82
  go_wp2_with fail
  refine (l4Draw_any _ _ _ a len cap zs t S1 (by omega)).mono ?_
  rintro e u2 ⟨a2, c2, ys, t2, rfl, hyl, O2, yall, S2, ht2, Y2⟩
  have z2 := Y2.size
  have hc2 := own_caps O2
  go_upto_region 2 with (at_builtin; refine wpList_append_own _ rfl _ _ 24 rfl u1.heap.size 2 i0 (.int .i64 0) 1 8 Tryd.underlying24 hi hz0 hz1 hz2 rfl (by decide) _ _ _ rfl (O2.alloc _) ⟨u2.heap.size, 0, none⟩ 1 1 [.int .i64 5] rfl rfl (one_new _ _ _) (by intro u hu; simp at hu; subst hu; rfl) (by unfold maxLen; omega) (by omega) (by simp; omega) ?_; intro v' w3 hown3 hgrow _h4)
  have hbel : Below u1.heap.size (u2.alloc (.cells #[.int .i64 5] 2)) w3 := (Below.refl _ _).grown hgrow (by simp; omega) (fun k hk => (O2.lt k hk).1)
  have S3 := (S2.alloc (.cells #[.int .i64 5] 2)).below' hbel hs1
  have Y3 := (Y2.alloc (.cells #[.int .i64 5] 2)).then_below hbel
  have O3 : w3.ownsRow u1.heap.size 2 1 v' (ys ++ [5]).length ((ys ++ [5]).map (.int .i64)) := by simpa using hown3
  obtain ⟨g, c3, hv⟩ : ∃ g cap, v' = .slice (some ⟨g, 0, none⟩) (ys ++ [5]).length cap := by
    have := O3
    rw [show (ys ++ [(5 : Int)]).length = ys.length + 1 from by simp] at this ⊢
    exact ownsRow_succ this
  subst hv
  have hall : allS (ys ++ [5]) = true := allS_app yall (by omega) (by omega)
  have hl1 : (ys ++ [(5 : Int)]).length = ys.length + 1 := by simp
  have L1 : 1 ≤ (ys ++ [(5 : Int)]).length := by omega
  have L2 : (ys ++ [(5 : Int)]).length ≤ 25 := by omega
  generalize ys ++ [(5 : Int)] = qs at *
  have hc3 := own_caps O3
  have H3 := has_of_own O3 (allS_wf hall)
  have O3b : u1.heap.size ≤ g := (O3.lt g rfl).1
  unfold maxLen at hc3
  clear hown3 hgrow _h4 O2 S2 Y2 hbel hl1 yall hyl O3
  have KEY : ∃ (o c4 : Nat) (ls : List Int), 1 ≤ ls.length ∧ ls.length ≤ 24 ∧ allS ls = true ∧ ls.length ≤ c4 ∧ c4 ≤ maxLen ∧ Has w3 .i64 (some ⟨g, o, none⟩) ls.length ls ∧ ((24 < qs.length ∧ o = 1 ∧ c4 = c3 - 1 ∧ ls.length = qs.length - 1) ∨ (¬ 24 < qs.length ∧ o = 0 ∧ c4 = c3 ∧ ls.length = qs.length)) := by
    by_cases h24 : 24 < qs.length
    · exact ⟨1, c3 - 1, qs.drop 1, by simp; omega, by simp; omega, allS_drop hall 1, by simp; omega, by unfold maxLen; omega, by have := has_rest H3 1 (by omega); simpa using this, .inl ⟨h24, rfl, rfl, by simp⟩⟩
    · exact ⟨0, c3, qs, L1, by omega, hall, hc3.1, hc3.2, H3, .inr ⟨h24, rfl, rfl, rfl⟩⟩
  obtain ⟨o, c4, ls, l1, l2, lall, lc, lm, H4, hor⟩ := KEY
  have z3 := Y3.size
  obtain ⟨hbl, hcell⟩ : g < w3.heap.size ∧ ∀ i, i < ls.length → w3.cell? ⟨g, o + i, none⟩ = some (.int .i64 (ls.getD i 0)) := by
    rcases H4.2.2 with e | ⟨b, off, e1, e2, e3⟩
    · omega
    · simp at e1; obtain ⟨rfl, rfl⟩ := e1; exact ⟨e2, e3⟩
  have NX : Hid (∀ u : World, SrcAt (u) u0 u0 a len cap zs (t2) → Calls Tryd.prog 58 #[.pointer (some ⟨u0, 0, none⟩), .int .i64 ls.length] u fun e w' => ∃ v, e = .returned (.int .i64 v) ∧ 0 ≤ v ∧ v < ls.length ∧ SrcAt w' u0 u0 a len cap zs (t2 + 1) ∧ Only u0 u w') := fun u hs => next_wide u u0 u0 a len cap zs t2 ls.length hs (by omega) (by omega) (by omega)
  have gne : g ≠ u0 := by
    intro e
    have := O3b
    omega
  rcases hor with ⟨h24, e1, e2, e3⟩ | ⟨h24, e1, e2, e3⟩
  · have h24' : (24 : Int) < qs.length := by omega
    have q1 : (1 : Int) ≤ qs.length := by omega
    have q2 : (qs.length : Int) ≤ c3 := by omega
    have q3 : (1 : Int) ≤ c3 := by omega
    have q4 : ¬ c3 = 1 := by omega
    have q5 : ¬ (c3 : Int) = 1 := by omega
    subst e1
    have E2 : Hid (c4 = c3 - 1) := e2
    have E3 : Hid (ls.length = qs.length - 1) := e3
    clear e2 e3
    go_wp2_with fail
    rw [← E3.out, ← E2.out]
    clear E2 E3 h24 h24' q1 q2 q3 q4 q5
    refine (NX.out _ S3).mono ?_
    rintro e u5 ⟨k, rfl, k0, k1, S5, Y5⟩
    obtain ⟨j, hj⟩ : ∃ j : Nat, 1 + k = (j : Int) := ⟨(1 + k).toNat, by omega⟩
    have H5 := H4.grown Y5.grown (fun ad e => by cases e; intro h; cases h; exact gne rfl)
    have z5 := Y5.size
    have tl : (ls.take j).length = j := by simp; omega
    have R1 := l4Root_any _ (some ⟨g, 1, none⟩) c4 (ls.take j) u5 (Nat.le_refl _) (by omega) (allS_take lall j) (has_init H5 j (by omega)) (by omega) lm
    rw [tl] at R1
    have rb1 := rtM_bd _ (ls.take j) (Nat.le_refl _) (allS_take lall j)
    have rb2 := rtM_bd _ ls (Nat.le_refl _) lall
    have gl := grM_len nS 11 _ ls j true (Nat.le_refl _)
    have ga := grM_all _ ls j true (Nat.le_refl _) (by omega) (by omega) lall
    have m5 : (0 : Int) ≤ j := by omega
    have m6 : (j : Int) ≤ c4 := by omega
    have R1H : Hid (Calls Tryd.prog 69 #[.slice (some ⟨g, 1, none⟩) j c4] u5 fun r w' => r = .returned (.int .i64 (rtM nS 11 (ls.take j))) ∧ Below u5.heap.size u5 w') := R1
    clear R1 tl hcell H4 NX
    go_wp2_with fail
    refine R1H.out.mono ?_
    rintro e u6 ⟨rfl, hb6⟩
    have H6 := H5.below hb6 (Nat.le_refl _)
    go_wp2_with fail
    refine (l4Root_any _ _ _ ls u6 (Nat.le_refl _) (by omega) lall H6 lc lm).mono ?_
    rintro e u7 ⟨rfl, hb7⟩
    have H7 := H6.below hb7 (Nat.le_refl _)
    go_wp2_with fail
    refine (l5Growth_any _ _ _ ls j true u7 (Nat.le_refl _) (by omega) lall (by omega) (by omega) H7 lc lm).mono ?_
    rintro e u8 ⟨a8, c8, rfl, O8, hb8⟩
    have z6 := hb6.size
    have z7 := hb7.size
    have z8 := hb8.size
    have S8 := ((S5.below hb6).below hb7).below hb8
    have Y8 := (((Y3.trans Y5).trans (.of_below hb6)).trans (.of_below hb7)).trans (.of_below hb8)
    go_wp2
    exact bodyPost_ret (v := .tuple #[.int .i64 j, .int .i64 (rtM nS 11 (ls.take j)), .int .i64 ls.length, .int .i64 (rtM nS 11 ls), .slice a8 (grM nS 11 ls j true).length c8]) (by simp [results, Tryd.results82, go_sem]) rfl ⟨j, _, ls.length, _, a8, c8, grM nS 11 ls j true, _, rfl, by omega, by omega, by omega, rb1, rb2, by omega, own_mono O8 (by omega), ga, S8, by omega, Y8⟩
  · have h24' : ¬ (24 : Int) < qs.length := by omega
    subst e1 e2
    have E3 : Hid (ls.length = qs.length) := e3
    clear e3
    go_wp2_with fail
    rw [← E3.out]
    clear E3 h24 h24'
    refine (NX.out _ S3).mono ?_
    rintro e u5 ⟨k, rfl, k0, k1, S5, Y5⟩
    obtain ⟨j, hj⟩ : ∃ j : Nat, 1 + k = (j : Int) := ⟨(1 + k).toNat, by omega⟩
    have H5 := H4.grown Y5.grown (fun ad e => by cases e; intro h; cases h; exact gne rfl)
    have z5 := Y5.size
    have tl : (ls.take j).length = j := by simp; omega
    have R1 := l4Root_any _ (some ⟨g, 0, none⟩) c4 (ls.take j) u5 (Nat.le_refl _) (by omega) (allS_take lall j) (has_init H5 j (by omega)) (by omega) lm
    rw [tl] at R1
    have rb1 := rtM_bd _ (ls.take j) (Nat.le_refl _) (allS_take lall j)
    have rb2 := rtM_bd _ ls (Nat.le_refl _) lall
    have gl := grM_len nS 11 _ ls j true (Nat.le_refl _)
    have ga := grM_all _ ls j true (Nat.le_refl _) (by omega) (by omega) lall
    have m5 : (0 : Int) ≤ j := by omega
    have m6 : (j : Int) ≤ c4 := by omega
    have R1H : Hid (Calls Tryd.prog 69 #[.slice (some ⟨g, 0, none⟩) j c4] u5 fun r w' => r = .returned (.int .i64 (rtM nS 11 (ls.take j))) ∧ Below u5.heap.size u5 w') := R1
    clear R1 tl hcell H4 NX
    go_wp2_with fail
    refine R1H.out.mono ?_
    rintro e u6 ⟨rfl, hb6⟩
    have H6 := H5.below hb6 (Nat.le_refl _)
    go_wp2_with fail
    refine (l4Root_any _ _ _ ls u6 (Nat.le_refl _) (by omega) lall H6 lc lm).mono ?_
    rintro e u7 ⟨rfl, hb7⟩
    have H7 := H6.below hb7 (Nat.le_refl _)
    go_wp2_with fail
    refine (l5Growth_any _ _ _ ls j true u7 (Nat.le_refl _) (by omega) lall (by omega) (by omega) H7 lc lm).mono ?_
    rintro e u8 ⟨a8, c8, rfl, O8, hb8⟩
    have z6 := hb6.size
    have z7 := hb7.size
    have z8 := hb8.size
    have S8 := ((S5.below hb6).below hb7).below hb8
    have Y8 := (((Y3.trans Y5).trans (.of_below hb6)).trans (.of_below hb7)).trans (.of_below hb8)
    go_wp2
    exact bodyPost_ret (v := .tuple #[.int .i64 j, .int .i64 (rtM nS 11 (ls.take j)), .int .i64 ls.length, .int .i64 (rtM nS 11 ls), .slice a8 (grM nS 11 ls j true).length c8]) (by simp [results, Tryd.results82, go_sem]) rfl ⟨j, _, ls.length, _, a8, c8, grM nS 11 ls j true, _, rfl, by omega, by omega, by omega, rb1, rb2, by omega, own_mono O8 (by omega), ga, S8, by omega, Y8⟩

end Go.Proofs.YtkjhcblfkpknlaaDoor
