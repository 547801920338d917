/- Contracts: the program signs a head. -/
import Derived.Test.YtffidkoejlebeaaGreatDoorIHq
import Derived.Test.YtffidkoejlebeaaGreatDoorKyU
import Derived.Test.YtffidkoejlebeaaGreatDoorKyR
import Derived.Test.YtffidkoejlebeaaGreatDoorIRootP
import Derived.Test.YtffidkoejlebeaaGreatDoorHdC
import Derived.Laws.CopyOwn
namespace Go.Proofs.YtffidkoejlebeaaGreatDoor
open Go.ChangeShapes Go.WideShapes Go.ChangeAt Go.RowKit
set_option maxRecDepth 100000
set_option linter.unusedVariables false
set_option linter.unusedSimpArgs false

theorem fldH2 (x y : Int) (a b : Option Addr) (n1 n2 c1 c2 : Nat) (w : World) : (Instr.field 90 (.agg #[.int .i64 x, .int .i64 y, .slice a n1 c1, .slice b n2 c2]) 1).run Tryz.prog w = .ok (.agg #[.int .i64 y, .slice a n1 c1, .slice b n2 c2]) w := by kernel_rfl
theorem fldH3 (x : Int) (a : Option Addr) (n1 c1 : Nat) (w : World) : (Instr.field 93 (.agg #[.int .i64 x, .slice a n1 c1]) 1).run Tryz.prog w = .ok (.slice a n1 c1) w := by kernel_rfl

set_option maxHeartbeats 8000000 in
/-- A head that is not signed: the code, and nothing else. -/
theorem signHead_bad (s n z r m k c : Int) (w : World) (hc : (hdB z r m k = false ∧ c = 3) ∨ (hdB z r m k = true ∧ krOk s n = false ∧ c = 3) ∨ (hdB z r m k = true ∧ krOk s n = true ∧ n ≤ k ∧ c = 11)) :
    Calls Tryz.prog 23 #[.int .i64 s, .int .i64 n, .agg #[.int .i64 z, .int .i64 r, .int .i64 m, .int .i64 k]] w fun e w' => ∃ a1 c1 a2 c2 a3 c3, e = .returned (.agg #[.int .i64 c, .int .i64 0, .int .i64 0, .int .i64 0, .int .i64 0, .int .i64 0, .slice a1 ([] : List Int).length c1, .slice a2 ([] : List Int).length c2, .slice a3 ([] : List Int).length c3]) ∧ OwnH w' w.heap.size a1 a2 a3 c1 c2 c3 [] [] [] ∧ Below w.heap.size w w' := by
  obtain ⟨B, hB⟩ : ∃ B, B = w.heap.size := ⟨_, rfl⟩
  obtain ⟨E, hE⟩ : ∃ E, E = (w.alloc (.cells #[.int .i64 z, .int .i64 r, .int .i64 m, .int .i64 k] 26)).alloc (.cells #[.int .i64 0, .int .i64 0, .int .i64 0, .int .i64 0, .int .i64 0, .int .i64 0, .slice none 0 0, .slice none 0 0, .slice none 0 0] 54) := ⟨_, rfl⟩
  have BE : Below w.heap.size w E := by rw [hE]; exact ((Below.refl _ _).alloc (Nat.le_refl _) _).alloc (by simp) _
  have zE : E.heap.size = B + 2 := by rw [hE, hB]; simp
  have SH : Blk E B #[.int .i64 z, .int .i64 r, .int .i64 m, .int .i64 k] 26 := by rw [hE, hB]; exact (Blk.new _ _ _).below ((Below.refl _ _).alloc (Nat.le_refl _) _) (Blk.new _ _ _).lt
  have SR : Blk E (B + 1) #[.int .i64 0, .int .i64 0, .int .i64 0, .int .i64 0, .int .i64 0, .int .i64 0, .slice none 0 0, .slice none 0 0, .slice none 0 0] 54 := by
    have := Blk.new (w.alloc (.cells #[.int .i64 z, .int .i64 r, .int .i64 m, .int .i64 k] 26)) #[.int .i64 0, .int .i64 0, .int .i64 0, .int .i64 0, .int .i64 0, .int .i64 0, .slice none 0 0, .slice none 0 0, .slice none 0 0] 54
    rw [World.size_alloc] at this
    rw [hE, hB]; exact this
  have HF : Hid (Calls Tryz.prog 36 #[.agg #[.int .i64 z, .int .i64 r, .int .i64 m, .int .i64 k]] E fun e w' => e = .returned (.int .i64 (hdF z r m k)) ∧ Below E.heap.size E w') := hfault_any z r m k E
  have KB : Hid (w.heap.size ≤ B + 1 ∧ B + 1 < E.heap.size ∧ w.heap.size ≤ E.heap.size) := ⟨by omega, by omega, by omega⟩
  have e0 := SH.cell 0
  have e1 := SH.cell 1
  have e2 := SH.cell 2
  have e3 := SH.cell 3
  have e9 := SH.lt
  simp at e0 e1 e2 e3
  rcases hc with ⟨hb, rfl⟩ | ⟨hb, hk, rfl⟩ | ⟨hb, hk, hn, rfl⟩
  · have hf : hdF z r m k = 3 := by unfold hdF; rw [if_neg (by rw [hb]; decide)]
    rw [hf] at HF
    clear hf hb
    go_enter Tryz.func23, Tryz.ntmps23
    go_wp2_with fail
    simp only [← hB, ← hE]
    clear hE hB zE
    refine HF.out.mono ?_
    rintro e u ⟨rfl, hu⟩
    have BU := BE.trans (hu.mono BE.size)
    have SU := SH.below hu SH.lt
    have RU := SR.below hu SR.lt
    clear e0 e1 e2 e3 e9
    have r0 := RU.cell 0
    have f0 := RU.frozen 0
    have r1 := RU.cell 1
    have f1 := RU.frozen 1
    have r2 := RU.cell 2
    have f2 := RU.frozen 2
    have r3 := RU.cell 3
    have f3 := RU.frozen 3
    have r4 := RU.cell 4
    have f4 := RU.frozen 4
    have r5 := RU.cell 5
    have f5 := RU.frozen 5
    have r6 := RU.cell 6
    have f6 := RU.frozen 6
    have r7 := RU.cell 7
    have f7 := RU.frozen 7
    have r8 := RU.cell 8
    have f8 := RU.frozen 8
    simp at r0 r1 r2 r3 r4 r5 r6 r7 r8
    have r9 := RU.lt
    clear SU RU
    go_wp2
    refine bodyPost_ret (v := .agg #[.int .i64 3, .int .i64 0, .int .i64 0, .int .i64 0, .int .i64 0, .int .i64 0, .slice none 0 0, .slice none 0 0, .slice none 0 0]) (by simp [results, Tryz.results23, go_sem, r0, r1, r2, r3, r4, r5, r6, r7, r8, r9]) rfl ⟨none, 0, none, 0, none, 0, rfl, OwnH.nil _ _, ?_⟩
    iterate 9 (refine Below.setCell ?_ KB.out.1 _)
    exact BU
  · have hf : hdF z r m k = 0 := by unfold hdF; rw [if_pos hb]
    rw [hf] at HF
    have SE := fun u => isSeed_any s u
    have SN := fun u => isKeyCount_any n u
    have hkk := of_decide_eq_false hk
    clear hf hb hk
    cases d1 : decide (0 ≤ s ∧ s ≤ 999) with
    | false =>
      simp only [d1] at SE
      clear d1 SN hkk
      go_enter Tryz.func23, Tryz.ntmps23
      go_wp2_with fail
      simp only [← hB, ← hE]
      clear hE hB zE
      refine HF.out.mono ?_
      rintro e u ⟨rfl, hu⟩
      have BU := BE.trans (hu.mono BE.size)
      have SU := SH.below hu SH.lt
      have RU := SR.below hu SR.lt
      clear e0 e1 e2 e3 e9
      have r0 := RU.cell 0
      have f0 := RU.frozen 0
      have r1 := RU.cell 1
      have f1 := RU.frozen 1
      have r2 := RU.cell 2
      have f2 := RU.frozen 2
      have r3 := RU.cell 3
      have f3 := RU.frozen 3
      have r4 := RU.cell 4
      have f4 := RU.frozen 4
      have r5 := RU.cell 5
      have f5 := RU.frozen 5
      have r6 := RU.cell 6
      have f6 := RU.frozen 6
      have r7 := RU.cell 7
      have f7 := RU.frozen 7
      have r8 := RU.cell 8
      have f8 := RU.frozen 8
      simp at r0 r1 r2 r3 r4 r5 r6 r7 r8
      have r9 := RU.lt
      clear SU RU
      go_wp2_with fail
      refine (SE _).mono ?_
      rintro r' u2 ⟨rfl, hu2⟩; have hu3 := hu2.symm; subst hu3; clear hu2
      go_wp2
      refine bodyPost_ret (v := .agg #[.int .i64 3, .int .i64 0, .int .i64 0, .int .i64 0, .int .i64 0, .int .i64 0, .slice none 0 0, .slice none 0 0, .slice none 0 0]) (by simp [results, Tryz.results23, go_sem, r0, r1, r2, r3, r4, r5, r6, r7, r8, r9]) rfl ⟨none, 0, none, 0, none, 0, rfl, OwnH.nil _ _, ?_⟩
      iterate 9 (refine Below.setCell ?_ KB.out.1 _)
      exact BU
    | true =>
      have d2 : decide (1 ≤ n ∧ n ≤ 8) = false := decide_eq_false (fun h => hkk ⟨of_decide_eq_true d1, h⟩)
      simp only [d1] at SE
      simp only [d2] at SN
      clear d1 d2 hkk
      go_enter Tryz.func23, Tryz.ntmps23
      go_wp2_with fail
      simp only [← hB, ← hE]
      clear hE hB zE
      refine HF.out.mono ?_
      rintro e u ⟨rfl, hu⟩
      have BU := BE.trans (hu.mono BE.size)
      have SU := SH.below hu SH.lt
      have RU := SR.below hu SR.lt
      clear e0 e1 e2 e3 e9
      have r0 := RU.cell 0
      have f0 := RU.frozen 0
      have r1 := RU.cell 1
      have f1 := RU.frozen 1
      have r2 := RU.cell 2
      have f2 := RU.frozen 2
      have r3 := RU.cell 3
      have f3 := RU.frozen 3
      have r4 := RU.cell 4
      have f4 := RU.frozen 4
      have r5 := RU.cell 5
      have f5 := RU.frozen 5
      have r6 := RU.cell 6
      have f6 := RU.frozen 6
      have r7 := RU.cell 7
      have f7 := RU.frozen 7
      have r8 := RU.cell 8
      have f8 := RU.frozen 8
      simp at r0 r1 r2 r3 r4 r5 r6 r7 r8
      have r9 := RU.lt
      clear SU RU
      go_wp2_with fail
      refine (SE _).mono ?_
      rintro r' u2 ⟨rfl, hu2⟩; have hu3 := hu2.symm; subst hu3; clear hu2
      go_wp2_with fail
      refine (SN _).mono ?_
      rintro r' u2 ⟨rfl, hu2⟩; have hu3 := hu2.symm; subst hu3; clear hu2
      go_wp2
      refine bodyPost_ret (v := .agg #[.int .i64 3, .int .i64 0, .int .i64 0, .int .i64 0, .int .i64 0, .int .i64 0, .slice none 0 0, .slice none 0 0, .slice none 0 0]) (by simp [results, Tryz.results23, go_sem, r0, r1, r2, r3, r4, r5, r6, r7, r8, r9]) rfl ⟨none, 0, none, 0, none, 0, rfl, OwnH.nil _ _, ?_⟩
      iterate 9 (refine Below.setCell ?_ KB.out.1 _)
      exact BU
  · have hf : hdF z r m k = 0 := by unfold hdF; rw [if_pos hb]
    rw [hf] at HF
    have SE := fun u => isSeed_any s u
    have SN := fun u => isKeyCount_any n u
    have hkk := of_decide_eq_true hk
    simp only [decide_eq_true hkk.1] at SE
    simp only [decide_eq_true hkk.2] at SN
    clear hf hb hk hkk
    go_enter Tryz.func23, Tryz.ntmps23
    go_wp2_with fail
    simp only [← hB, ← hE]
    clear hE hB zE
    refine HF.out.mono ?_
    rintro e u ⟨rfl, hu⟩
    have BU := BE.trans (hu.mono BE.size)
    have SU := SH.below hu SH.lt
    have RU := SR.below hu SR.lt
    clear e0 e1 e2 e3 e9
    have r0 := RU.cell 0
    have f0 := RU.frozen 0
    have r1 := RU.cell 1
    have f1 := RU.frozen 1
    have r2 := RU.cell 2
    have f2 := RU.frozen 2
    have r3 := RU.cell 3
    have f3 := RU.frozen 3
    have r4 := RU.cell 4
    have f4 := RU.frozen 4
    have r5 := RU.cell 5
    have f5 := RU.frozen 5
    have r6 := RU.cell 6
    have f6 := RU.frozen 6
    have r7 := RU.cell 7
    have f7 := RU.frozen 7
    have r8 := RU.cell 8
    have f8 := RU.frozen 8
    simp at r0 r1 r2 r3 r4 r5 r6 r7 r8
    have r9 := RU.lt
    have e3 := SU.cell 3
    simp at e3
    clear SU RU
    go_wp2_with fail
    refine (SE _).mono ?_
    rintro r' u2 ⟨rfl, hu2⟩; have hu3 := hu2.symm; subst hu3; clear hu2
    go_wp2_with fail
    refine (SN _).mono ?_
    rintro r' u2 ⟨rfl, hu2⟩; have hu3 := hu2.symm; subst hu3; clear hu2
    go_wp2
    refine bodyPost_ret (v := .agg #[.int .i64 11, .int .i64 0, .int .i64 0, .int .i64 0, .int .i64 0, .int .i64 0, .slice none 0 0, .slice none 0 0, .slice none 0 0]) (by simp [results, Tryz.results23, go_sem, r0, r1, r2, r3, r4, r5, r6, r7, r8, r9]) rfl ⟨none, 0, none, 0, none, 0, rfl, OwnH.nil _ _, ?_⟩
    iterate 9 (refine Below.setCell ?_ KB.out.1 _)
    exact BU

set_option maxHeartbeats 8000000 in
theorem signHead_ok (s : Int) (n : Nat) (z r m k : Int) (w : World) (hT : Tab w) (hb : hdB z r m k = true) (hs : 0 ≤ s ∧ s ≤ 999) (hn : 1 ≤ n ∧ n ≤ 8) (hk : k < n) :
    Calls Tryz.prog 23 #[.int .i64 s, .int .i64 n, .agg #[.int .i64 z, .int .i64 r, .int .i64 m, .int .i64 k]] w fun e w' => ∃ a1 c1 a2 c2 a3 c3, e = .returned (.agg #[.int .i64 0, .int .i64 z, .int .i64 r, .int .i64 m, .int .i64 k, .int .i64 k, .slice a1 (shW s k (hdV z r m k) (List.range 16)).length c1, .slice a2 (otW s k (hdV z r m k) (List.range 16)).length c2, .slice a3 (ptM nS 11 (keysL s n) k).length c3]) ∧ OwnH w' w.heap.size a1 a2 a3 c1 c2 c3 (shW s k (hdV z r m k) (List.range 16)) (otW s k (hdV z r m k) (List.range 16)) (ptM nS 11 (keysL s n) k) ∧ Below w.heap.size w w' := by
  obtain ⟨B, hB⟩ : ∃ B, B = w.heap.size := ⟨_, rfl⟩
  obtain ⟨E, hE⟩ : ∃ E, E = (w.alloc (.cells #[.int .i64 z, .int .i64 r, .int .i64 m, .int .i64 k] 26)).alloc (.cells #[.int .i64 0, .int .i64 0, .int .i64 0, .int .i64 0, .int .i64 0, .int .i64 0, .slice none 0 0, .slice none 0 0, .slice none 0 0] 54) := ⟨_, rfl⟩
  have BE : Below w.heap.size w E := by rw [hE]; exact ((Below.refl _ _).alloc (Nat.le_refl _) _).alloc (by simp) _
  have zE : E.heap.size = B + 2 := by rw [hE, hB]; simp
  have SH : Blk E B #[.int .i64 z, .int .i64 r, .int .i64 m, .int .i64 k] 26 := by rw [hE, hB]; exact (Blk.new _ _ _).below ((Below.refl _ _).alloc (Nat.le_refl _) _) (Blk.new _ _ _).lt
  have SR : Blk E (B + 1) #[.int .i64 0, .int .i64 0, .int .i64 0, .int .i64 0, .int .i64 0, .int .i64 0, .slice none 0 0, .slice none 0 0, .slice none 0 0] 54 := by
    have := Blk.new (w.alloc (.cells #[.int .i64 z, .int .i64 r, .int .i64 m, .int .i64 k] 26)) #[.int .i64 0, .int .i64 0, .int .i64 0, .int .i64 0, .int .i64 0, .int .i64 0, .slice none 0 0, .slice none 0 0, .slice none 0 0] 54
    rw [World.size_alloc] at this
    rw [hE, hB]; exact this
  have HF : Hid (Calls Tryz.prog 36 #[.agg #[.int .i64 z, .int .i64 r, .int .i64 m, .int .i64 k]] E fun e w' => e = .returned (.int .i64 (hdF z r m k)) ∧ Below E.heap.size E w') := hfault_any z r m k E
  have KB : Hid (w.heap.size ≤ B + 1 ∧ B + 1 < E.heap.size ∧ w.heap.size ≤ E.heap.size) := ⟨by omega, by omega, by omega⟩
  have e0 := SH.cell 0
  have e1 := SH.cell 1
  have e2 := SH.cell 2
  have e3 := SH.cell 3
  have e9 := SH.lt
  simp at e0 e1 e2 e3
  have hf : hdF z r m k = 0 := by unfold hdF; rw [if_pos hb]
  have hv : hsV z r m k = hdV z r m k := by unfold hsV; rw [if_pos hb]
  rw [hf] at HF
  have SE := fun u => isSeed_any s u
  have SN := fun u => isKeyCount_any n u
  simp only [decide_eq_true hs] at SE
  simp only [decide_eq_true (show (1 : Int) ≤ n ∧ (n : Int) ≤ 8 by omega)] at SN
  obtain ⟨zb, rb, mb, kb⟩ := hdB_iff.1 hb
  have HTab : ∀ u : World, Below E.heap.size E u → Tab u := fun u hu => hT.below (BE.trans (hu.mono BE.size)) (Nat.le_refl _)
  have XB := hdV_bd z r m k
  have SU : Hid (∀ u : World, Below E.heap.size E u → Calls Tryz.prog 46 #[.agg #[.int .i64 z, .int .i64 r, .int .i64 m, .int .i64 k]] u fun e w' => e = .returned (.agg #[.int .i64 0, .int .i64 (hdV z r m k)]) ∧ Below u.heap.size u w') := fun u h => by
    have := hsum_any z r m k u (HTab u h)
    rw [hf, hv] at this
    exact this
  generalize hdV z r m k = x at *
  have SG : Hid (∀ u : World, Below E.heap.size E u → Calls Tryz.prog 58 #[.int .i64 s, .int .i64 k, .int .i64 x] u fun r w' => ∃ a1 c1 a2 c2, r = .returned (.agg #[.int .i64 0, .int .i64 k, .slice a1 (shW s k x (List.range 16)).length c1, .slice a2 (otW s k x (List.range 16)).length c2]) ∧ OwnN w' u.heap.size (.slice a1 (shW s k x (List.range 16)).length c1) (shW s k x (List.range 16)) ∧ OwnN w' u.heap.size (.slice a2 (otW s k x (List.range 16)).length c2) (otW s k x (List.range 16)) ∧ (∀ y z, a1 = some y → a2 = some z → y.block ≠ z.block) ∧ Below u.heap.size u w') := fun u h => implSignSum_ok s k x u (HTab u h) hs kb XB
  have KS : Hid (∀ u : World, Below E.heap.size E u → Calls Tryz.prog 60 #[.int .i64 s, .int .i64 n] u fun r w' => ∃ a' c', r = .returned (.slice a' (keysL s n).length c') ∧ OwnN w' u.heap.size (.slice a' (keysL s n).length c') (keysL s n) ∧ Below u.heap.size u w') := fun u h => keySumsOf_any s n u (HTab u h) hs (by omega)
  have kl : (keysL s n).length = n := keysL_len s n
  have ka : allS (keysL s n) = true := keysL_all s n
  have l0 : lvF (keysL s n) = 0 := by unfold lvF; rw [if_neg (by omega), ka]; rfl
  have p0 : ptC (keysL s n) k = 0 := by unfold ptC; rw [if_pos l0, if_pos ⟨kb.1, by omega⟩]
  have p1 : ptL (keysL s n) k = ptM nS 11 (keysL s n) k := by unfold ptL; rw [if_pos ⟨l0, kb.1, by omega⟩]
  have KW : Hid (∀ y ∈ keysL s n, (Lit.int .i64 y).wf = true) := allS_wf ka
  have PA : Hid (∀ (u : World) (a : Option Addr) (c : Nat), Below E.heap.size E u → Has u .i64 a (keysL s n).length (keysL s n) → (keysL s n).length ≤ c → c ≤ maxLen → Calls Tryz.prog 59 #[.slice a (keysL s n).length c, .int .i64 k] u fun r w' => ∃ pa pc, r = .returned (.agg #[.int .i64 0, .slice pa (ptM nS 11 (keysL s n) k).length pc]) ∧ w'.ownsRow u.heap.size 2 1 (.slice pa (ptM nS 11 (keysL s n) k).length pc) (ptM nS 11 (keysL s n) k).length ((ptM nS 11 (keysL s n) k).map (.int .i64)) ∧ Below u.heap.size u w') := fun u a c h h1 h2 h3 => by
    have := implPathOf_any a c (keysL s n) k u (HTab u h) h1 (by omega) h2 h3
    rw [p0, p1] at this
    exact this
  have FIN : Hid (∀ (u : World) (a1 a2 a3 : Option Addr) (c1 c2 c3 : Nat), OwnH u E.heap.size a1 a2 a3 c1 c2 c3 (shW s k x (List.range 16)) (otW s k x (List.range 16)) (ptM nS 11 (keysL s n) k) → OwnH u w.heap.size a1 a2 a3 c1 c2 c3 (shW s k x (List.range 16)) (otW s k x (List.range 16)) (ptM nS 11 (keysL s n) k)) := fun u a1 a2 a3 c1 c2 c3 h => h.mono (by omega)
  generalize shW s k x (List.range 16) = sh at *
  generalize otW s k x (List.range 16) = ot at *
  generalize ptM nS 11 (keysL s n) k = P at *
  generalize keysL s n = K at *
  have hk' : ¬ ((n : Int) ≤ k) := by omega
  have hWV : B ≠ B + 1 := by omega
  have RESF : Hid (∀ u : World, Below E.heap.size E u → Blk u (B + 1) #[.int .i64 0, .int .i64 0, .int .i64 0, .int .i64 0, .int .i64 0, .int .i64 0, .slice none 0 0, .slice none 0 0, .slice none 0 0] 54) := fun u hu => SR.below hu SR.lt
  clear hb hs hn zb rb mb kb XB kl ka l0 p0 p1 hf hv hT HTab
  go_enter Tryz.func23, Tryz.ntmps23
  go_wp2_with fail
  simp only [← hB, ← hE]
  clear hE hB zE
  refine HF.out.mono ?_
  rintro e u ⟨rfl, hu⟩
  have BU := BE.trans (hu.mono BE.size)
  have SQ := SH.below hu SH.lt
  clear e0 e1 e2 e3 e9
  have e3 := SQ.cell 3
  simp at e3
  have D : Below E.heap.size E u.drew := hu.drew
  go_wp2_with fail
  refine (SE _).mono ?_
  rintro r' u2 ⟨rfl, hu2⟩; have hu3 := hu2.symm; subst hu3; clear hu2
  go_wp2_with fail
  refine (SN _).mono ?_
  rintro r' u2 ⟨rfl, hu2⟩; have hu3 := hu2.symm; subst hu3; clear hu2
  clear SR HF
  have G1 := fldK1
  have G2 := fldH2
  have G3 := fldH3
  go_wp2_with fail
  refine wp_region_noPanic ?_
  refine wp_region_held_drew (S := fun u => Blk u B #[.int .i64 z, .int .i64 r, .int .i64 m, .int .i64 k] 26) (by kernel_rfl) (SQ.below (Below.refl _ _).drew SQ.lt) (fun hs => ?_)
  obtain ⟨XD, hXD⟩ := al_w D
  rw [← hXD] at hs D
  simp only [← hXD]
  clear hXD
  refine take_at (i := 0) (d := some 28) (v := ?mv1) rfl rfl (by kernel_rfl) (by kernel_rfl) (by kernel_rfl) (fun _ _ _ h => h) (Or.inl ⟨by rfl, ?my1⟩) hs ?mg1
  case my1 => (intro z hSz; (have hq := hSz; have e0 := hq.cell 0; have e1 := hq.cell 1; have e2 := hq.cell 2; have e3 := hq.cell 3; have e4 := hq.lt; simp at e0 e1 e2 e3); go_simp; (try with_reducible rfl))
  try simp only [Act.put, List.setIfInBounds_toArray, List.set_cons_zero, List.set_cons_succ]
  refine take_at (i := 1) (d := some 29) (v := ?mv2) rfl rfl (by kernel_rfl) (by kernel_rfl) (by kernel_rfl) (fun _ _ _ h => h) (Or.inl ⟨by rfl, ?my2⟩) hs ?mg2
  case my2 => (intro z hSz; (have hq := hSz; have e0 := hq.cell 0; have e1 := hq.cell 1; have e2 := hq.cell 2; have e3 := hq.cell 3; have e4 := hq.lt; simp at e0 e1 e2 e3); go_simp; (try with_reducible rfl))
  try simp only [Act.put, List.setIfInBounds_toArray, List.set_cons_zero, List.set_cons_succ]
  refine take_at (i := 2) (d := some 30) (v := ?mv3) rfl rfl (by kernel_rfl) (by kernel_rfl) (by kernel_rfl) (fun _ _ _ h => h) (Or.inl ⟨by rfl, ?my3⟩) hs ?mg3
  case my3 => (intro z hSz; (have hq := hSz; have e0 := hq.cell 0; have e1 := hq.cell 1; have e2 := hq.cell 2; have e3 := hq.cell 3; have e4 := hq.lt; simp at e0 e1 e2 e3); go_simp; (try with_reducible rfl))
  try simp only [Act.put, List.setIfInBounds_toArray, List.set_cons_zero, List.set_cons_succ]
  refine take_at (i := 3) (d := some 31) (v := ?mv4) rfl rfl (by kernel_rfl) (by kernel_rfl) (by kernel_rfl) (fun _ _ _ h => h) (Or.inl ⟨by rfl, ?my4⟩) hs ?mg4
  case my4 => (intro z hSz; (have hq := hSz; have e0 := hq.cell 0; have e1 := hq.cell 1; have e2 := hq.cell 2; have e3 := hq.cell 3; have e4 := hq.lt; simp at e0 e1 e2 e3); go_simp; (try with_reducible rfl))
  try simp only [Act.put, List.setIfInBounds_toArray, List.set_cons_zero, List.set_cons_succ]
  refine take_at (i := 4) (d := some 32) (v := ?mv5) rfl rfl (by kernel_rfl) (by kernel_rfl) (by kernel_rfl) (fun _ _ _ h => h) (Or.inl ⟨by rfl, ?my5⟩) hs ?mg5
  case my5 => (intro z hSz; (have hq := hSz; have e0 := hq.cell 0; have e1 := hq.cell 1; have e2 := hq.cell 2; have e3 := hq.cell 3; have e4 := hq.lt; simp at e0 e1 e2 e3); go_simp; (try with_reducible rfl))
  try simp only [Act.put, List.setIfInBounds_toArray, List.set_cons_zero, List.set_cons_succ]
  refine take_at (i := 9) (d := some 37) (v := ?mv6) rfl rfl (by kernel_rfl) (by kernel_rfl) (by kernel_rfl) (fun _ _ _ h => h) (Or.inl ⟨by rfl, ?my6⟩) hs ?mg6
  case my6 => (intro z hSz; (have hq := hSz; have e0 := hq.cell 0; have e1 := hq.cell 1; have e2 := hq.cell 2; have e3 := hq.cell 3; have e4 := hq.lt; simp at e0 e1 e2 e3); go_simp; (try with_reducible rfl))
  try simp only [Act.put, List.setIfInBounds_toArray, List.set_cons_zero, List.set_cons_succ]
  refine take_at (i := 10) (d := some 38) (v := ?mv7) rfl rfl (by kernel_rfl) (by kernel_rfl) (by kernel_rfl) (fun _ _ _ h => h) (Or.inl ⟨by rfl, ?my7⟩) hs ?mg7
  case my7 => (intro z hSz; (have hq := hSz; have e0 := hq.cell 0; have e1 := hq.cell 1; have e2 := hq.cell 2; have e3 := hq.cell 3; have e4 := hq.lt; simp at e0 e1 e2 e3); go_simp; (try with_reducible rfl))
  try simp only [Act.put, List.setIfInBounds_toArray, List.set_cons_zero, List.set_cons_succ]
  refine take_at (i := 12) (d := some 40) (v := ?mv8) rfl rfl (by kernel_rfl) (by kernel_rfl) (by kernel_rfl) (fun _ _ _ h => h) (Or.inl ⟨by rfl, ?my8⟩) hs ?mg8
  case my8 => (intro z hSz; (have hq := hSz; have e0 := hq.cell 0; have e1 := hq.cell 1; have e2 := hq.cell 2; have e3 := hq.cell 3; have e4 := hq.lt; simp at e0 e1 e2 e3); go_simp; (try with_reducible rfl))
  try simp only [Act.put, List.setIfInBounds_toArray, List.set_cons_zero, List.set_cons_succ]
  refine take_at (i := 13) (d := some 41) (v := ?mv9) rfl rfl (by kernel_rfl) (by kernel_rfl) (by kernel_rfl) (fun _ _ _ h => h) (Or.inl ⟨by rfl, ?my9⟩) hs ?mg9
  case my9 => (intro z hSz; (have hq := hSz; have e0 := hq.cell 0; have e1 := hq.cell 1; have e2 := hq.cell 2; have e3 := hq.cell 3; have e4 := hq.lt; simp at e0 e1 e2 e3); go_simp; (try with_reducible rfl))
  try simp only [Act.put, List.setIfInBounds_toArray, List.set_cons_zero, List.set_cons_succ]
  refine wpAnyH_ready (rs := [5]) (by kernel_rfl) (by simp) ?_
  refine AllReadyH.cons rfl (fun K' hK' => ?_) AllReadyH.nil
  go_simp
  refine (SU.out _ D).mono ?_
  rintro _ ua ⟨rfl, hba⟩
  refine hK'.out _ _ (hs.below hba hs.lt) (fun hs => ?_)
  clear hK' K'
  try simp only [Act.put, List.setIfInBounds_toArray, List.set_cons_zero, List.set_cons_succ]
  replace D := D.trans (hba.mono D.size)
  refine take_at (i := 6) (d := some 34) (v := ?mv10) rfl rfl (by kernel_rfl) (by kernel_rfl) (by kernel_rfl) (fun _ _ _ h => h) (Or.inl ⟨by rfl, ?my10⟩) hs ?mg10
  case my10 => (intro z hSz; (have hq := hSz; have e0 := hq.cell 0; have e1 := hq.cell 1; have e2 := hq.cell 2; have e3 := hq.cell 3; have e4 := hq.lt; simp at e0 e1 e2 e3); go_simp; (try with_reducible rfl))
  try simp only [Act.put, List.setIfInBounds_toArray, List.set_cons_zero, List.set_cons_succ]
  refine wpAnyH_ready (rs := [7]) (by kernel_rfl) (by simp) ?_
  refine AllReadyH.cons rfl (fun K' hK' => ?_) AllReadyH.nil
  go_simp
  refine (SG.out ua D).mono ?_
  rintro _ ub ⟨a1, c1, a2, c2, rfl, O1, O2, ap, hbb⟩
  have za := D.size
  refine hK'.out _ _ (hs.below hbb hs.lt) (fun hs => ?_)
  clear hK' K'
  try simp only [Act.put, List.setIfInBounds_toArray, List.set_cons_zero, List.set_cons_succ]
  replace D := D.trans (hbb.mono D.size)
  refine take_at (i := 8) (d := some 36) (v := ?mv11) rfl rfl (by kernel_rfl) (by kernel_rfl) (by kernel_rfl) (fun _ _ _ h => h) (Or.inl ⟨by rfl, ?my11⟩) hs ?mg11
  case my11 => (intro z hSz; (have hq := hSz; have e0 := hq.cell 0; have e1 := hq.cell 1; have e2 := hq.cell 2; have e3 := hq.cell 3; have e4 := hq.lt; simp at e0 e1 e2 e3); go_simp; (try with_reducible rfl))
  try simp only [Act.put, List.setIfInBounds_toArray, List.set_cons_zero, List.set_cons_succ]
  refine wpAnyH_ready (rs := [11]) (by kernel_rfl) (by simp) ?_
  refine AllReadyH.cons rfl (fun K' hK' => ?_) AllReadyH.nil
  go_simp
  refine (KS.out ub D).mono ?_
  rintro _ uc ⟨a4, c4, rfl, O4, hbc⟩
  refine hK'.out _ _ (hs.below hbc hs.lt) (fun hs => ?_)
  clear hK' K'
  try simp only [Act.put, List.setIfInBounds_toArray, List.set_cons_zero, List.set_cons_succ]
  replace D := D.trans (hbc.mono D.size)
  replace O1 := own_below O1 hbc
  replace O2 := own_below O2 hbc
  have H4 := has_of_own O4 KW.out
  have cp4 := own_caps9 O4
  refine wpAnyH_ready (rs := [14]) (by kernel_rfl) (by simp) ?_
  refine AllReadyH.cons rfl (fun K' hK' => ?_) AllReadyH.nil
  go_simp
  refine (PA.out uc a4 c4 D H4 cp4.1 cp4.2).mono ?_
  rintro _ ud ⟨a3, c3, rfl, O3, hbd⟩
  have zc := D.size
  refine hK'.out _ _ (hs.below hbd hs.lt) (fun hs => ?_)
  clear hK' K'
  try simp only [Act.put, List.setIfInBounds_toArray, List.set_cons_zero, List.set_cons_succ]
  replace D := D.trans (hbd.mono D.size)
  have OH : OwnH ud E.heap.size a1 a2 a3 c1 c2 c3 sh ot P := ⟨own_mono (own_below O1 hbd) za, own_mono (own_below O2 hbd) za, own_mono O3 zc, ap, fun x y e1 e2 => by have h1 := own_lt9 O1 x e1; have h2 := own_base O3 y e2; omega, fun x y e1 e2 => by have h1 := own_lt9 O2 x e1; have h2 := own_base O3 y e2; omega⟩
  refine take_at (i := 15) (d := some 43) (v := ?mv12) rfl rfl (by kernel_rfl) (by kernel_rfl) (by kernel_rfl) (fun _ _ _ h => h) (Or.inl ⟨by rfl, ?my12⟩) hs ?mg12
  case my12 => (intro z hSz; (have hq := hSz; have e0 := hq.cell 0; have e1 := hq.cell 1; have e2 := hq.cell 2; have e3 := hq.cell 3; have e4 := hq.lt; simp at e0 e1 e2 e3); go_simp; (try with_reducible rfl))
  try simp only [Act.put, List.setIfInBounds_toArray, List.set_cons_zero, List.set_cons_succ]
  refine take_at (i := 16) (d := some 44) (v := ?mv13) rfl rfl (by kernel_rfl) (by kernel_rfl) (by kernel_rfl) (fun _ _ _ h => h) (Or.inl ⟨by rfl, ?my13⟩) hs ?mg13
  case my13 => (intro z hSz; (have hq := hSz; have e0 := hq.cell 0; have e1 := hq.cell 1; have e2 := hq.cell 2; have e3 := hq.cell 3; have e4 := hq.lt; simp at e0 e1 e2 e3); go_simp; (try with_reducible rfl))
  try simp only [Act.put, List.setIfInBounds_toArray, List.set_cons_zero, List.set_cons_succ]
  refine take_at (i := 17) (d := some 45) (v := ?mv14) rfl rfl (by kernel_rfl) (by kernel_rfl) (by kernel_rfl) (fun _ _ _ h => h) (Or.inl ⟨by rfl, ?my14⟩) hs ?mg14
  case my14 => (intro z hSz; (have hq := hSz; have e0 := hq.cell 0; have e1 := hq.cell 1; have e2 := hq.cell 2; have e3 := hq.cell 3; have e4 := hq.lt; simp at e0 e1 e2 e3); go_simp; (try with_reducible rfl))
  try simp only [Act.put, List.setIfInBounds_toArray, List.set_cons_zero, List.set_cons_succ]
  refine wpAnyH_ready (rs := [18]) (by kernel_rfl) (by simp) ?_
  refine AllReadyH.cons rfl (fun K' hK' => ?_) AllReadyH.nil
  clear O1 O2 O3 O4 ap H4 cp4 za zc hba hbb hbc hbd
  have RV := RESF.out _ D
  have DW := BE.trans (D.mono BE.size)
  refine wp_store_row 54 _ _ rfl (B + 1) #[.int .i64 0, .int .i64 z, .int .i64 r, .int .i64 m, .int .i64 k, .int .i64 k, .slice a1 sh.length c1, .slice a2 ot.length c2, .slice a3 P.length c3] rfl rfl 54 _ RV rfl rfl (by kernel_rfl) ?_
  refine hK'.out _ _ (row_keep hWV hs) (fun hs => ?_)
  clear hK' K'
  try simp only [Act.put, List.setIfInBounds_toArray, List.set_cons_zero, List.set_cons_succ]
  replace RV := row_new (cs := #[.int .i64 0, .int .i64 z, .int .i64 r, .int .i64 m, .int .i64 k, .int .i64 k, .slice a1 sh.length c1, .slice a2 ot.length c2, .slice a3 P.length c3]) RV
  replace OH := OwnH.row (g := B + 1) (cs := #[.int .i64 0, .int .i64 z, .int .i64 r, .int .i64 m, .int .i64 k, .int .i64 k, .slice a1 sh.length c1, .slice a2 ot.length c2, .slice a3 P.length c3]) OH KB.out.2.1
  have DX := below_setRow DW KB.out.1 #[.int .i64 0, .int .i64 z, .int .i64 r, .int .i64 m, .int .i64 k, .int .i64 k, .slice a1 sh.length c1, .slice a2 ot.length c2, .slice a3 P.length c3]
  refine wpAnyH_done (by kernel_rfl) (NoPanic.normal ?_) _
  obtain ⟨X, hX⟩ := al_w DX
  rw [← hX] at RV OH DX
  simp only [← hX]
  clear hX hs DW D
  have k0 := RV.cell 0
  have k1 := RV.cell 1
  have k2 := RV.cell 2
  have k3 := RV.cell 3
  have k4 := RV.cell 4
  have k5 := RV.cell 5
  have k6 := RV.cell 6
  have k7 := RV.cell 7
  have k8 := RV.cell 8
  have k9 := RV.lt
  simp at k0 k1 k2 k3 k4 k5 k6 k7 k8
  have OQ : Hid (OwnH X E.heap.size a1 a2 a3 c1 c2 c3 sh ot P) := OH
  clear RV OH
  go_wp2
  refine bodyPost_ret (v := .agg #[.int .i64 0, .int .i64 z, .int .i64 r, .int .i64 m, .int .i64 k, .int .i64 k, .slice a1 sh.length c1, .slice a2 ot.length c2, .slice a3 P.length c3]) (by simp [results, Tryz.results23, go_sem, k0, k1, k2, k3, k4, k5, k6, k7, k8]) rfl ⟨a1, c1, a2, c2, a3, c3, rfl, FIN.out _ _ _ _ _ _ _ OQ.out, DX⟩

theorem implSignHead_any (s n z r m k : Int) (w : World) (hT : Tab w) :
    Calls Tryz.prog 23 #[.int .i64 s, .int .i64 n, .agg #[.int .i64 z, .int .i64 r, .int .i64 m, .int .i64 k]] w fun e w' => ∃ a1 c1 a2 c2 a3 c3, e = .returned (.agg #[.int .i64 (sgC s n z r m k), .int .i64 (sgI s n z r m k z), .int .i64 (sgI s n z r m k r), .int .i64 (sgI s n z r m k m), .int .i64 (sgI s n z r m k k), .int .i64 (sgI s n z r m k k), .slice a1 (sgS s n z r m k).length c1, .slice a2 (sgO s n z r m k).length c2, .slice a3 (sgP s n z r m k).length c3]) ∧ OwnH w' w.heap.size a1 a2 a3 c1 c2 c3 (sgS s n z r m k) (sgO s n z r m k) (sgP s n z r m k) ∧ Below w.heap.size w w' := by
  by_cases hb : hdB z r m k = true
  · by_cases hk : krOk s n = true
    · have hkk := of_decide_eq_true hk
      by_cases hn : n ≤ k
      · have e : sgC s n z r m k = 11 := by unfold sgC; rw [if_pos hb, if_pos hk, if_pos hn]
        have := signHead_bad s n z r m k 11 w (.inr (.inr ⟨hb, hk, hn, rfl⟩))
        unfold sgI sgS sgO sgP
        rw [e]
        simpa using this
      · have e : sgC s n z r m k = 0 := by unfold sgC; rw [if_pos hb, if_pos hk, if_neg hn]
        obtain ⟨N, rfl⟩ : ∃ N : Nat, n = (N : Int) := ⟨n.toNat, by omega⟩
        have := signHead_ok s N z r m k w hT hb hkk.1 (by omega) (by omega)
        unfold sgI sgS sgO sgP
        rw [e]
        simpa using this
    · have e : sgC s n z r m k = 3 := by unfold sgC; rw [if_pos hb, if_neg hk]
      have := signHead_bad s n z r m k 3 w (.inr (.inl ⟨hb, by simpa using hk, rfl⟩))
      unfold sgI sgS sgO sgP
      rw [e]
      simpa using this
  · have e : sgC s n z r m k = 3 := by unfold sgC; rw [if_neg hb]
    have := signHead_bad s n z r m k 3 w (.inl ⟨by simpa using hb, rfl⟩)
    unfold sgI sgS sgO sgP
    rw [e]
    simpa using this

end Go.Proofs.YtffidkoejlebeaaGreatDoor
