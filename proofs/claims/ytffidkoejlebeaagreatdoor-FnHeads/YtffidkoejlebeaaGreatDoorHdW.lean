/- Contracts: the model's draws of heads. Contracts: the model's draws for PackHead and SignHead. -/
import Derived.Test.YtffidkoejlebeaaGreatDoorRegB
namespace Go.Proofs.YtffidkoejlebeaaGreatDoor
open Go.ChangeShapes Go.WideShapes Go.ChangeAt Go.RowKit
set_option maxRecDepth 100000
set_option linter.unusedVariables false
set_option linter.unusedSimpArgs false


set_option maxHeartbeats 4000000 in
theorem l9Draw_any (w : World) (B s : Nat) (a : Option Addr) (len cap : Nat) (zs : List Int) (t : Nat) (h : SrcAt w B s a len cap zs t) (ht : t ≤ 100000) :
    Calls Tryz.prog 29 #[.pointer (some ⟨s, 0, none⟩)] w fun e w' => ∃ (z r m k : Int), e = .returned (.agg #[.int .i64 z, .int .i64 r, .int .i64 m, .int .i64 k]) ∧ 0 ≤ z ∧ z < 25 ∧ 0 ≤ r ∧ r < 65521 ∧ 0 ≤ m ∧ m < 65521 ∧ 0 ≤ k ∧ k < 5 ∧ SrcAt w' B s a len cap zs (t + 4) ∧ Only s w w' := by
  have hlt := h.lt
  obtain ⟨V0, hV0⟩ : ∃ V0, V0 = w.heap.size := ⟨_, rfl⟩
  obtain ⟨E, hE⟩ : ∃ E, E = w.alloc (.cells #[.int .i64 0, .int .i64 0, .int .i64 0, .int .i64 0] 26) := ⟨_, rfl⟩
  have RE : Blk E V0 #[.int .i64 0, .int .i64 0, .int .i64 0, .int .i64 0] 26 := by rw [hE, hV0]; exact Blk.new _ _ _
  have SE : SrcAt E B s a len cap zs t := by rw [hE]; exact h.alloc _
  have NE : Only s w E := by rw [hE]; exact (Only.refl _ _).alloc _
  have hsV : s < V0 := by omega
  have vw : w.heap.size ≤ V0 := by omega
  clear h
  go_enter Tryz.func29, Tryz.ntmps29
  go_wp2_with fail
  simp only [← hV0, ← hE]
  clear hE hV0
  refine (next_any _ B s a len cap zs _ 25 SE (by omega) (by omega) (by omega)).mono ?_
  rintro e u1 ⟨z, rfl, z0, z1, S1, Y1⟩
  go_wp2_with fail
  refine (next_wide _ B s a len cap zs _ 65521 S1 (by omega) (by omega) (by omega)).mono ?_
  rintro e u2 ⟨r, rfl, r0, r1, S2, Y2⟩
  go_wp2_with fail
  refine (next_wide _ B s a len cap zs _ 65521 S2 (by omega) (by omega) (by omega)).mono ?_
  rintro e u3 ⟨m, rfl, m0, m1, S3, Y3⟩
  go_wp2_with fail
  refine (next_any _ B s a len cap zs _ 5 S3 (by omega) (by omega) (by omega)).mono ?_
  rintro e u4 ⟨k, rfl, k0, k1, S4, Y4⟩
  have Y14 := ((Y1.trans Y2).trans Y3).trans Y4
  have N4 := NE.trans Y14
  have RV : Blk u4 V0 #[.int .i64 0, .int .i64 0, .int .i64 0, .int .i64 0] 26 := RE.fr (M := fun k => s = k) (.of_grown Y14.grown (fun k e => by simpa using e)) (by omega)
  have e0 := RV.frozen 0
  have e1 := RV.frozen 1
  have e2 := RV.frozen 2
  have e3 := RV.frozen 3
  have q0 : u4.cell? ⟨V0, 0, none⟩ = some (.int .i64 0) := (RV.cell 0).trans rfl
  have q1 : u4.cell? ⟨V0, 1, none⟩ = some (.int .i64 0) := (RV.cell 1).trans rfl
  have q2 : u4.cell? ⟨V0, 2, none⟩ = some (.int .i64 0) := (RV.cell 2).trans rfl
  have q3 : u4.cell? ⟨V0, 3, none⟩ = some (.int .i64 0) := (RV.cell 3).trans rfl
  have BB : Hid (∀ (x0 x1 x2 x3 : Value), Below V0 u4 ((((u4.setCell ⟨V0, 0, none⟩ x0).setCell ⟨V0, 1, none⟩ x1).setCell ⟨V0, 2, none⟩ x2).setCell ⟨V0, 3, none⟩ x3)) := fun _ _ _ _ => ((((Below.refl V0 u4).setCell (Nat.le_refl _) _).setCell (Nat.le_refl _) _).setCell (Nat.le_refl _) _).setCell (Nat.le_refl _) _
  have NN : Hid (∀ (x0 x1 x2 x3 : Value), Only s w ((((u4.setCell ⟨V0, 0, none⟩ x0).setCell ⟨V0, 1, none⟩ x1).setCell ⟨V0, 2, none⟩ x2).setCell ⟨V0, 3, none⟩ x3)) := fun _ _ _ _ => (((N4.storeNew vw _).storeNew vw _).storeNew vw _).storeNew vw _
  clear S1 S2 S3 Y1 Y2 Y3 Y4 SE RE NE Y14 RV N4
  go_wp2
  refine bodyPost_ret (v := .agg #[.int .i64 z, .int .i64 r, .int .i64 m, .int .i64 k]) (by simp [results, Tryz.results29, go_sem, q0, q1, q2, q3]) rfl ⟨z, r, m, k, rfl, z0, z1, r0, r1, m0, m1, k0, k1, ?_, ?_⟩
  · exact S4.below' (N := V0) (BB.out _ _ _ _) hsV
  · exact NN.out _ _ _ _

set_option maxHeartbeats 4000000 in
theorem l9Bent_any (w : World) (B s : Nat) (a : Option Addr) (len cap : Nat) (zs : List Int) (t : Nat) (h : SrcAt w B s a len cap zs t) (ht : t ≤ 90000) :
    Calls Tryz.prog 35 #[.pointer (some ⟨s, 0, none⟩)] w fun e w' => ∃ (z r m k : Int) (t' : Nat), e = .returned (.agg #[.int .i64 z, .int .i64 r, .int .i64 m, .int .i64 k]) ∧ (-1 ≤ z ∧ z ≤ 25) ∧ (-1 ≤ r ∧ r ≤ 65521) ∧ (-1 ≤ m ∧ m ≤ 65521) ∧ (-1 ≤ k ∧ k ≤ 8) ∧ t' ≤ t + 6 ∧ SrcAt w' B s a len cap zs t' ∧ Only s w w' := by
  have hlt := h.lt
  obtain ⟨V0, hV0⟩ : ∃ V0, V0 = w.heap.size := ⟨_, rfl⟩
  obtain ⟨E, hE⟩ : ∃ E, E = w.alloc (.cells #[.int .i64 0, .int .i64 0, .int .i64 0, .int .i64 0] 26) := ⟨_, rfl⟩
  have RE : Blk E V0 #[.int .i64 0, .int .i64 0, .int .i64 0, .int .i64 0] 26 := by rw [hE, hV0]; exact Blk.new _ _ _
  have zE : E.heap.size = V0 + 1 := by rw [hE, hV0]; simp
  have SE : SrcAt E B s a len cap zs t := by rw [hE]; exact h.alloc _
  have NE : Only s w E := by rw [hE]; exact (Only.refl _ _).alloc _
  have hsV : s < V0 := by omega
  have vw : w.heap.size ≤ V0 := by omega
  clear h
  go_enter Tryz.func35, Tryz.ntmps35
  go_wp2_with fail
  simp only [← hV0, ← hE]
  clear hE hV0
  refine (l9Draw_any _ B s a len cap zs _ SE (by omega)).mono ?_
  rintro e u1 ⟨z, r, m, k, rfl, z0, z1, b0, b1, c0, c1, k0, k1, S1, Y1⟩
  have R1 : Blk u1 V0 #[.int .i64 0, .int .i64 0, .int .i64 0, .int .i64 0] 26 := RE.fr (M := fun k => s = k) (.of_grown Y1.grown (fun k e => by simpa using e)) (by omega)
  have N1 := NE.trans Y1
  have z1' := R1.lt
  clear RE SE NE Y1
  obtain ⟨F, hF⟩ : ∃ F, F = u1.alloc (.cells #[.int .i64 z, .int .i64 r, .int .i64 m, .int .i64 k] 26) := ⟨_, rfl⟩
  obtain ⟨V, hV⟩ : ∃ V, V = u1.heap.size := ⟨_, rfl⟩
  have bF : Below u1.heap.size u1 F := by rw [hF]; exact (Below.refl _ _).alloc (Nat.le_refl _) _
  have SF : Blk F V #[.int .i64 z, .int .i64 r, .int .i64 m, .int .i64 k] 26 := by rw [hF, hV]; exact Blk.new _ _ _
  have RF := R1.below bF R1.lt
  have SrF := S1.below bF
  have NF := N1.then_below (bF.mono (by omega))
  have hVW : V0 ≠ V := by omega
  have hVV : V ≠ V0 := by omega
  have hsV2 : V ≠ s := by omega
  have vb : w.heap.size ≤ V := by omega
  have hle : V0 ≤ V := by omega
  clear R1 S1 N1 bF
  go_wp2_with fail
  simp only [← hV, ← hF]
  clear hF hV
  refine (next_any _ B s a len cap zs _ 12 SrF (by omega) (by omega) (by omega)).mono ?_
  rintro e u2 ⟨q, rfl, q0, q1, S2, Y2⟩
  have f2 : Fr (fun k => s = k) F u2 := (.of_grown Y2.grown (fun k e => by simpa using e))
  have SV := SF.fr f2 (fun e => hsV2 e.symm)
  have z2 := SV.lt
  have RV := RF.fr f2 (by omega)
  have N2 := NF.trans Y2
  clear f2 SF RF SrF NF Y2
  by_cases d0 : q = 0
  · have d0b : (q == 0) = true := by simpa using d0
    clear d0
    have PH : Hid (∀ i, i < ([-1, 25] : List Int).length → (u2.alloc (.cells #[.int .i64 (-1), .int .i64 25] 2)).cell? ⟨u2.heap.size, i, none⟩ = some (.int .i64 (([-1, 25] : List Int).getD i 0))) := cells_lit u2 [-1, 25] 2 _ rfl
    go_wp2_with fail
    refine (pick_any _ B s a len cap zs _ (S2.alloc _) (by omega) u2.heap.size [-1, 25] 2 rfl (by simp) (by omega) (by omega) (by omega) 2 PH.out).mono ?_
    rintro e u6 ⟨y, rfl, hp, S6, Y6⟩
    have bl := (Below.refl u2.heap.size u2).alloc (Nat.le_refl _) (.cells #[.int .i64 (-1), .int .i64 25] 2)
    have f6 : Fr (fun k => s = k) u2 u6 := (Fr.of_below bl (Nat.le_refl _)).trans (.of_grown (w := u2.alloc (.cells #[.int .i64 (-1), .int .i64 25] 2)) Y6.grown (fun k e => by simpa using e)) (fun k _ e => e)
    replace SV := SV.fr f6 (fun e => hsV2 e.symm)
    replace RV := RV.fr f6 (by omega)
    have N6 := (N2.alloc (.cells #[.int .i64 (-1), .int .i64 25] 2)).trans Y6
    clear S2 Y6 f6 N2 PH bl
    have m0 : u6.cell? ⟨V, 0, none⟩ = some (.int .i64 z) := (SV.cell 0).trans rfl
    have m1 : u6.cell? ⟨V, 1, none⟩ = some (.int .i64 r) := (SV.cell 1).trans rfl
    have m2 : u6.cell? ⟨V, 2, none⟩ = some (.int .i64 m) := (SV.cell 2).trans rfl
    have m3 : u6.cell? ⟨V, 3, none⟩ = some (.int .i64 k) := (SV.cell 3).trans rfl
    have f0 := SV.frozen 0
    have f1 := SV.frozen 1
    have f3 := SV.frozen 3
    have r0 : u6.cell? ⟨V0, 0, none⟩ = some (.int .i64 0) := (RV.cell 0).trans rfl
    have r1 : u6.cell? ⟨V0, 1, none⟩ = some (.int .i64 0) := (RV.cell 1).trans rfl
    have r2 : u6.cell? ⟨V0, 2, none⟩ = some (.int .i64 0) := (RV.cell 2).trans rfl
    have r3 : u6.cell? ⟨V0, 3, none⟩ = some (.int .i64 0) := (RV.cell 3).trans rfl
    have e0 := RV.frozen 0
    have e1 := RV.frozen 1
    have e2 := RV.frozen 2
    have e3 := RV.frozen 3
    have hp' : -1 ≤ y ∧ y ≤ 25 := by simp at hp; omega
    have BB : Hid (∀ (x x0 x1 x2 x3 : Value), Below V0 u6 (((((u6.setCell ⟨V, 0, none⟩ x).setCell ⟨V0, 0, none⟩ x0).setCell ⟨V0, 1, none⟩ x1).setCell ⟨V0, 2, none⟩ x2).setCell ⟨V0, 3, none⟩ x3)) := fun _ _ _ _ _ => (((((Below.refl V0 u6).setCell (p := ⟨V, 0, none⟩) hle _).setCell (Nat.le_refl _) _).setCell (Nat.le_refl _) _).setCell (Nat.le_refl _) _).setCell (Nat.le_refl _) _
    have NN : Hid (∀ (x x0 x1 x2 x3 : Value), Only s w (((((u6.setCell ⟨V, 0, none⟩ x).setCell ⟨V0, 0, none⟩ x0).setCell ⟨V0, 1, none⟩ x1).setCell ⟨V0, 2, none⟩ x2).setCell ⟨V0, 3, none⟩ x3)) := fun _ _ _ _ _ => ((((N6.storeNew vb _).storeNew vw _).storeNew vw _).storeNew vw _).storeNew vw _
    clear SV RV hp N6
    go_wp2
    obtain ⟨tq, htq, SQ⟩ : ∃ t', t' ≤ t + 6 ∧ SrcAt u6 B s a len cap zs t' := ⟨_, by omega, S6⟩
    refine bodyPost_ret (v := .agg #[.int .i64 y, .int .i64 r, .int .i64 m, .int .i64 k]) (by simp [results, Tryz.results35, go_sem, r0, r1, r2, r3, hVV, hVW]) rfl ⟨y, r, m, k, tq, rfl, ?_, ?_, ?_, ?_, htq, ?_, ?_⟩
    · omega
    · omega
    · omega
    · omega
    · first | exact SQ.below' (N := V0) (BB.out _ _ _ _) hsV | exact SQ.below' (N := V0) (BB.out _ _ _ _ _) hsV
    · first | exact NN.out _ _ _ _ | exact NN.out _ _ _ _ _
  · have d0b : (q == 0) = false := by simpa using d0
    clear d0
    by_cases d1 : q = 1
    · have d1b : (q == 1) = true := by simpa using d1
      clear d1
      have PH : Hid (∀ i, i < ([-1, 65521] : List Int).length → (u2.alloc (.cells #[.int .i64 (-1), .int .i64 65521] 2)).cell? ⟨u2.heap.size, i, none⟩ = some (.int .i64 (([-1, 65521] : List Int).getD i 0))) := cells_lit u2 [-1, 65521] 2 _ rfl
      go_wp2_with fail
      refine (pick_any _ B s a len cap zs _ (S2.alloc _) (by omega) u2.heap.size [-1, 65521] 2 rfl (by simp) (by omega) (by omega) (by omega) 2 PH.out).mono ?_
      rintro e u6 ⟨y, rfl, hp, S6, Y6⟩
      have bl := (Below.refl u2.heap.size u2).alloc (Nat.le_refl _) (.cells #[.int .i64 (-1), .int .i64 65521] 2)
      have f6 : Fr (fun k => s = k) u2 u6 := (Fr.of_below bl (Nat.le_refl _)).trans (.of_grown (w := u2.alloc (.cells #[.int .i64 (-1), .int .i64 65521] 2)) Y6.grown (fun k e => by simpa using e)) (fun k _ e => e)
      replace SV := SV.fr f6 (fun e => hsV2 e.symm)
      replace RV := RV.fr f6 (by omega)
      have N6 := (N2.alloc (.cells #[.int .i64 (-1), .int .i64 65521] 2)).trans Y6
      clear S2 Y6 f6 N2 PH bl
      have m0 : u6.cell? ⟨V, 0, none⟩ = some (.int .i64 z) := (SV.cell 0).trans rfl
      have m1 : u6.cell? ⟨V, 1, none⟩ = some (.int .i64 r) := (SV.cell 1).trans rfl
      have m2 : u6.cell? ⟨V, 2, none⟩ = some (.int .i64 m) := (SV.cell 2).trans rfl
      have m3 : u6.cell? ⟨V, 3, none⟩ = some (.int .i64 k) := (SV.cell 3).trans rfl
      have f0 := SV.frozen 0
      have f1 := SV.frozen 1
      have f3 := SV.frozen 3
      have r0 : u6.cell? ⟨V0, 0, none⟩ = some (.int .i64 0) := (RV.cell 0).trans rfl
      have r1 : u6.cell? ⟨V0, 1, none⟩ = some (.int .i64 0) := (RV.cell 1).trans rfl
      have r2 : u6.cell? ⟨V0, 2, none⟩ = some (.int .i64 0) := (RV.cell 2).trans rfl
      have r3 : u6.cell? ⟨V0, 3, none⟩ = some (.int .i64 0) := (RV.cell 3).trans rfl
      have e0 := RV.frozen 0
      have e1 := RV.frozen 1
      have e2 := RV.frozen 2
      have e3 := RV.frozen 3
      have hp' : -1 ≤ y ∧ y ≤ 65521 := by simp at hp; omega
      have BB : Hid (∀ (x x0 x1 x2 x3 : Value), Below V0 u6 (((((u6.setCell ⟨V, 1, none⟩ x).setCell ⟨V0, 0, none⟩ x0).setCell ⟨V0, 1, none⟩ x1).setCell ⟨V0, 2, none⟩ x2).setCell ⟨V0, 3, none⟩ x3)) := fun _ _ _ _ _ => (((((Below.refl V0 u6).setCell (p := ⟨V, 1, none⟩) hle _).setCell (Nat.le_refl _) _).setCell (Nat.le_refl _) _).setCell (Nat.le_refl _) _).setCell (Nat.le_refl _) _
      have NN : Hid (∀ (x x0 x1 x2 x3 : Value), Only s w (((((u6.setCell ⟨V, 1, none⟩ x).setCell ⟨V0, 0, none⟩ x0).setCell ⟨V0, 1, none⟩ x1).setCell ⟨V0, 2, none⟩ x2).setCell ⟨V0, 3, none⟩ x3)) := fun _ _ _ _ _ => ((((N6.storeNew vb _).storeNew vw _).storeNew vw _).storeNew vw _).storeNew vw _
      clear SV RV hp N6
      go_wp2
      obtain ⟨tq, htq, SQ⟩ : ∃ t', t' ≤ t + 6 ∧ SrcAt u6 B s a len cap zs t' := ⟨_, by omega, S6⟩
      refine bodyPost_ret (v := .agg #[.int .i64 z, .int .i64 y, .int .i64 m, .int .i64 k]) (by simp [results, Tryz.results35, go_sem, r0, r1, r2, r3, hVV, hVW]) rfl ⟨z, y, m, k, tq, rfl, ?_, ?_, ?_, ?_, htq, ?_, ?_⟩
      · omega
      · omega
      · omega
      · omega
      · first | exact SQ.below' (N := V0) (BB.out _ _ _ _) hsV | exact SQ.below' (N := V0) (BB.out _ _ _ _ _) hsV
      · first | exact NN.out _ _ _ _ | exact NN.out _ _ _ _ _
    · have d1b : (q == 1) = false := by simpa using d1
      clear d1
      by_cases d2 : q = 2
      · have d2b : (q == 2) = true := by simpa using d2
        clear d2
        have PH : Hid (∀ i, i < ([7, 8] : List Int).length → (u2.alloc (.cells #[.int .i64 7, .int .i64 8] 2)).cell? ⟨u2.heap.size, i, none⟩ = some (.int .i64 (([7, 8] : List Int).getD i 0))) := cells_lit u2 [7, 8] 2 _ rfl
        go_wp2_with fail
        refine (pick_any _ B s a len cap zs _ (S2.alloc _) (by omega) u2.heap.size [7, 8] 2 rfl (by simp) (by omega) (by omega) (by omega) 2 PH.out).mono ?_
        rintro e u6 ⟨y, rfl, hp, S6, Y6⟩
        have bl := (Below.refl u2.heap.size u2).alloc (Nat.le_refl _) (.cells #[.int .i64 7, .int .i64 8] 2)
        have f6 : Fr (fun k => s = k) u2 u6 := (Fr.of_below bl (Nat.le_refl _)).trans (.of_grown (w := u2.alloc (.cells #[.int .i64 7, .int .i64 8] 2)) Y6.grown (fun k e => by simpa using e)) (fun k _ e => e)
        replace SV := SV.fr f6 (fun e => hsV2 e.symm)
        replace RV := RV.fr f6 (by omega)
        have N6 := (N2.alloc (.cells #[.int .i64 7, .int .i64 8] 2)).trans Y6
        clear S2 Y6 f6 N2 PH bl
        have m0 : u6.cell? ⟨V, 0, none⟩ = some (.int .i64 z) := (SV.cell 0).trans rfl
        have m1 : u6.cell? ⟨V, 1, none⟩ = some (.int .i64 r) := (SV.cell 1).trans rfl
        have m2 : u6.cell? ⟨V, 2, none⟩ = some (.int .i64 m) := (SV.cell 2).trans rfl
        have m3 : u6.cell? ⟨V, 3, none⟩ = some (.int .i64 k) := (SV.cell 3).trans rfl
        have f0 := SV.frozen 0
        have f1 := SV.frozen 1
        have f3 := SV.frozen 3
        have r0 : u6.cell? ⟨V0, 0, none⟩ = some (.int .i64 0) := (RV.cell 0).trans rfl
        have r1 : u6.cell? ⟨V0, 1, none⟩ = some (.int .i64 0) := (RV.cell 1).trans rfl
        have r2 : u6.cell? ⟨V0, 2, none⟩ = some (.int .i64 0) := (RV.cell 2).trans rfl
        have r3 : u6.cell? ⟨V0, 3, none⟩ = some (.int .i64 0) := (RV.cell 3).trans rfl
        have e0 := RV.frozen 0
        have e1 := RV.frozen 1
        have e2 := RV.frozen 2
        have e3 := RV.frozen 3
        have hp' : -1 ≤ y ∧ y ≤ 8 := by simp at hp; omega
        have BB : Hid (∀ (x x0 x1 x2 x3 : Value), Below V0 u6 (((((u6.setCell ⟨V, 3, none⟩ x).setCell ⟨V0, 0, none⟩ x0).setCell ⟨V0, 1, none⟩ x1).setCell ⟨V0, 2, none⟩ x2).setCell ⟨V0, 3, none⟩ x3)) := fun _ _ _ _ _ => (((((Below.refl V0 u6).setCell (p := ⟨V, 3, none⟩) hle _).setCell (Nat.le_refl _) _).setCell (Nat.le_refl _) _).setCell (Nat.le_refl _) _).setCell (Nat.le_refl _) _
        have NN : Hid (∀ (x x0 x1 x2 x3 : Value), Only s w (((((u6.setCell ⟨V, 3, none⟩ x).setCell ⟨V0, 0, none⟩ x0).setCell ⟨V0, 1, none⟩ x1).setCell ⟨V0, 2, none⟩ x2).setCell ⟨V0, 3, none⟩ x3)) := fun _ _ _ _ _ => ((((N6.storeNew vb _).storeNew vw _).storeNew vw _).storeNew vw _).storeNew vw _
        clear SV RV hp N6
        go_wp2
        obtain ⟨tq, htq, SQ⟩ : ∃ t', t' ≤ t + 6 ∧ SrcAt u6 B s a len cap zs t' := ⟨_, by omega, S6⟩
        refine bodyPost_ret (v := .agg #[.int .i64 z, .int .i64 r, .int .i64 m, .int .i64 y]) (by simp [results, Tryz.results35, go_sem, r0, r1, r2, r3, hVV, hVW]) rfl ⟨z, r, m, y, tq, rfl, ?_, ?_, ?_, ?_, htq, ?_, ?_⟩
        · omega
        · omega
        · omega
        · omega
        · first | exact SQ.below' (N := V0) (BB.out _ _ _ _) hsV | exact SQ.below' (N := V0) (BB.out _ _ _ _ _) hsV
        · first | exact NN.out _ _ _ _ | exact NN.out _ _ _ _ _
      · have d2b : (q == 2) = false := by simpa using d2
        clear d2
        have m0 : u2.cell? ⟨V, 0, none⟩ = some (.int .i64 z) := (SV.cell 0).trans rfl
        have m1 : u2.cell? ⟨V, 1, none⟩ = some (.int .i64 r) := (SV.cell 1).trans rfl
        have m2 : u2.cell? ⟨V, 2, none⟩ = some (.int .i64 m) := (SV.cell 2).trans rfl
        have m3 : u2.cell? ⟨V, 3, none⟩ = some (.int .i64 k) := (SV.cell 3).trans rfl
        have f0 := SV.frozen 0
        have f1 := SV.frozen 1
        have f3 := SV.frozen 3
        have r0 : u2.cell? ⟨V0, 0, none⟩ = some (.int .i64 0) := (RV.cell 0).trans rfl
        have r1 : u2.cell? ⟨V0, 1, none⟩ = some (.int .i64 0) := (RV.cell 1).trans rfl
        have r2 : u2.cell? ⟨V0, 2, none⟩ = some (.int .i64 0) := (RV.cell 2).trans rfl
        have r3 : u2.cell? ⟨V0, 3, none⟩ = some (.int .i64 0) := (RV.cell 3).trans rfl
        have e0 := RV.frozen 0
        have e1 := RV.frozen 1
        have e2 := RV.frozen 2
        have e3 := RV.frozen 3
        have BB : Hid (∀ (x0 x1 x2 x3 : Value), Below V0 u2 ((((u2.setCell ⟨V0, 0, none⟩ x0).setCell ⟨V0, 1, none⟩ x1).setCell ⟨V0, 2, none⟩ x2).setCell ⟨V0, 3, none⟩ x3)) := fun _ _ _ _ => ((((Below.refl V0 u2).setCell (Nat.le_refl _) _).setCell (Nat.le_refl _) _).setCell (Nat.le_refl _) _).setCell (Nat.le_refl _) _
        have NN : Hid (∀ (x0 x1 x2 x3 : Value), Only s w ((((u2.setCell ⟨V0, 0, none⟩ x0).setCell ⟨V0, 1, none⟩ x1).setCell ⟨V0, 2, none⟩ x2).setCell ⟨V0, 3, none⟩ x3)) := fun _ _ _ _ => (((N2.storeNew vw _).storeNew vw _).storeNew vw _).storeNew vw _
        clear SV RV N2
        go_wp2
        obtain ⟨tq, htq, SQ⟩ : ∃ t', t' ≤ t + 6 ∧ SrcAt u2 B s a len cap zs t' := ⟨_, by omega, S2⟩
        refine bodyPost_ret (v := .agg #[.int .i64 z, .int .i64 r, .int .i64 m, .int .i64 k]) (by simp [results, Tryz.results35, go_sem, r0, r1, r2, r3, hVV, hVW]) rfl ⟨z, r, m, k, tq, rfl, ?_, ?_, ?_, ?_, htq, ?_, ?_⟩
        · omega
        · omega
        · omega
        · omega
        · first | exact SQ.below' (N := V0) (BB.out _ _ _ _) hsV | exact SQ.below' (N := V0) (BB.out _ _ _ _ _) hsV
        · first | exact NN.out _ _ _ _ | exact NN.out _ _ _ _ _

end Go.Proofs.YtffidkoejlebeaaGreatDoor

namespace Go.Proofs.YtffidkoejlebeaaGreatDoor
open Go.ChangeShapes Go.WideShapes Go.ChangeAt Go.RowKit
set_option maxRecDepth 100000
set_option linter.unusedVariables false
set_option linter.unusedSimpArgs false


set_option maxHeartbeats 4000000 in
theorem drawPackHead_any (w : World) (a : Option Addr) (len cap : Nat) (zs : List Int) (h : Has w .u8 a len zs) (hl : len ≤ 1048576) :
    Calls Tryz.prog 7 #[.slice a len cap] w fun e w' => ∃ (z r m k : Int), e = .returned (.agg #[.int .i64 z, .int .i64 r, .int .i64 m, .int .i64 k]) ∧ ((-1 ≤ z ∧ z ≤ 25) ∧ (-1 ≤ r ∧ r ≤ 65521) ∧ (-1 ≤ m ∧ m ≤ 65521) ∧ (-1 ≤ k ∧ k ≤ 8)) ∧ Below w.heap.size w w' := by
  obtain ⟨V0, hV0⟩ : ∃ V0, V0 = w.heap.size := ⟨_, rfl⟩
  obtain ⟨E, hE⟩ : ∃ E, E = w.alloc (.cells #[.int .i64 0, .int .i64 0, .int .i64 0, .int .i64 0] 26) := ⟨_, rfl⟩
  have RE : Blk E V0 #[.int .i64 0, .int .i64 0, .int .i64 0, .int .i64 0] 26 := by rw [hE, hV0]; exact Blk.new _ _ _
  have B0 : Below w.heap.size w E := by rw [hE]; exact (Below.refl _ _).alloc (Nat.le_refl _) _
  have h' := h.below B0 (Nat.le_refl _)
  have vw : w.heap.size ≤ V0 := by omega
  clear h
  go_enter Tryz.func7, Tryz.ntmps7
  go_wp2_with fail
  simp only [← hV0, ← hE]
  clear hE hV0
  refine (source_any E a len cap zs h' hl).mono ?_
  rintro e u1 ⟨rfl, S1, hb1, hs1⟩
  have R1 := RE.below hb1 RE.lt
  have B1 := B0.trans (hb1.mono B0.size)
  have zE := RE.lt
  have z0 := B0.size
  obtain ⟨s0, hs0⟩ : ∃ s, s = E.heap.size := ⟨_, rfl⟩
  rw [← hs0] at S1 hs1 ⊢
  have hsE : s0 ≠ V0 := by omega
  have hsw : w.heap.size ≤ s0 := by omega
  have hz1 : V0 < u1.heap.size := R1.lt
  clear RE hb1 B0 h' hs0
  go_wp2_with fail
  refine (l9Bent_any _ _ _ a len cap zs 0 S1 (by omega)).mono ?_
  rintro e u2 ⟨z, r, m, k, t', rfl, b1, b2, b3, b4, ht', S2, Y2⟩
  have R2 := R1.fr (M := fun k => s0 = k) (.of_grown Y2.grown (fun k e => by simpa using e)) hsE
  have B2 : Below w.heap.size w u2 := B1.trans (Y2.below hsw B1.size)
  have e0 := R2.frozen 0
  have e1 := R2.frozen 1
  have e2 := R2.frozen 2
  have e3 := R2.frozen 3
  have q0 : u2.cell? ⟨V0, 0, none⟩ = some (.int .i64 0) := (R2.cell 0).trans rfl
  have q1 : u2.cell? ⟨V0, 1, none⟩ = some (.int .i64 0) := (R2.cell 1).trans rfl
  have q2 : u2.cell? ⟨V0, 2, none⟩ = some (.int .i64 0) := (R2.cell 2).trans rfl
  have q3 : u2.cell? ⟨V0, 3, none⟩ = some (.int .i64 0) := (R2.cell 3).trans rfl
  have BD : Hid (((-1 ≤ z ∧ z ≤ 25) ∧ (-1 ≤ r ∧ r ≤ 65521) ∧ (-1 ≤ m ∧ m ≤ 65521) ∧ (-1 ≤ k ∧ k ≤ 8))) := ⟨b1, b2, b3, b4⟩
  clear R2 R1 S1 S2 Y2 B1 b1 b2 b3 b4
  go_wp2
  refine bodyPost_ret (v := .agg #[.int .i64 z, .int .i64 r, .int .i64 m, .int .i64 k]) (by simp [results, Tryz.results7, go_sem, q0, q1, q2, q3]) rfl ⟨z, r, m, k, rfl, BD.out, ?_⟩
  exact (((B2.setCell (p := ⟨V0, 0, none⟩) vw _).setCell (p := ⟨V0, 1, none⟩) vw _).setCell (p := ⟨V0, 2, none⟩) vw _).setCell (p := ⟨V0, 3, none⟩) vw _

set_option maxHeartbeats 4000000 in
theorem drawSignHead_any (w : World) (a : Option Addr) (len cap : Nat) (zs : List Int) (h : Has w .u8 a len zs) (hl : len ≤ 1048576) :
    Calls Tryz.prog 22 #[.slice a len cap] w fun e w' => ∃ (sd ct z r m k : Int), e = .returned (.tuple #[.int .i64 sd, .int .i64 ct, .agg #[.int .i64 z, .int .i64 r, .int .i64 m, .int .i64 k]]) ∧ (0 ≤ sd ∧ sd ≤ 1000) ∧ (1 ≤ ct ∧ ct ≤ 9) ∧ ((-1 ≤ z ∧ z ≤ 25) ∧ (-1 ≤ r ∧ r ≤ 65521) ∧ (-1 ≤ m ∧ m ≤ 65521) ∧ (-1 ≤ k ∧ k ≤ 8)) ∧ Below w.heap.size w w' := by
  obtain ⟨V0, hV0⟩ : ∃ V0, V0 = w.heap.size := ⟨_, rfl⟩
  obtain ⟨E, hE⟩ : ∃ E, E = w.alloc (.cells #[.int .i64 0, .int .i64 0, .int .i64 0, .int .i64 0] 26) := ⟨_, rfl⟩
  have RE : Blk E V0 #[.int .i64 0, .int .i64 0, .int .i64 0, .int .i64 0] 26 := by rw [hE, hV0]; exact Blk.new _ _ _
  have B0 : Below w.heap.size w E := by rw [hE]; exact (Below.refl _ _).alloc (Nat.le_refl _) _
  have h' := h.below B0 (Nat.le_refl _)
  have vw : w.heap.size ≤ V0 := by omega
  clear h
  go_enter Tryz.func22, Tryz.ntmps22
  go_wp2_with fail
  simp only [← hV0, ← hE]
  clear hE hV0
  refine (source_any E a len cap zs h' hl).mono ?_
  rintro e u1 ⟨rfl, S1, hb1, hs1⟩
  have R1 := RE.below hb1 RE.lt
  have B1 := B0.trans (hb1.mono B0.size)
  have zE := RE.lt
  have z0 := B0.size
  obtain ⟨s0, hs0⟩ : ∃ s, s = E.heap.size := ⟨_, rfl⟩
  rw [← hs0] at S1 hs1 ⊢
  have hsE : s0 ≠ V0 := by omega
  have hsw : w.heap.size ≤ s0 := by omega
  have hz1 : V0 < u1.heap.size := R1.lt
  clear RE hb1 B0 h' hs0
  have PH : Hid (∀ i, i < ([0, 7, 999, 1000] : List Int).length → (u1.alloc (.cells #[.int .i64 0, .int .i64 7, .int .i64 999, .int .i64 1000] 2)).cell? ⟨u1.heap.size, i, none⟩ = some (.int .i64 (([0, 7, 999, 1000] : List Int).getD i 0))) := cells_lit u1 [0, 7, 999, 1000] 2 _ rfl
  go_wp2_with fail
  refine (pick_any _ _ _ a len cap zs 0 (S1.alloc _) (by omega) u1.heap.size [0, 7, 999, 1000] 4 rfl (by simp) (by omega) (by omega) (by omega) 4 PH.out).mono ?_
  rintro e u2 ⟨sd, rfl, hp2, S2, Y2⟩
  have z2 := Y2.size
  simp at z2
  have bl1 := (Below.refl u1.heap.size u1).alloc (Nat.le_refl _) (.cells #[.int .i64 0, .int .i64 7, .int .i64 999, .int .i64 1000] 2)
  have R2 := (R1.below bl1 hz1).fr (M := fun k => s0 = k) (.of_grown Y2.grown (fun k e => by simpa using e)) hsE
  have N2 : Only s0 u1 u2 := ((Only.refl _ u1).alloc (.cells #[.int .i64 0, .int .i64 7, .int .i64 999, .int .i64 1000] 2)).trans Y2
  have hsd : 0 ≤ sd ∧ sd ≤ 1000 := by simp at hp2; omega
  clear PH Y2 S1 R1 bl1 hp2
  have PH : Hid (∀ i, i < ([1, 5, 8, 9] : List Int).length → (u2.alloc (.cells #[.int .i64 1, .int .i64 5, .int .i64 8, .int .i64 9] 2)).cell? ⟨u2.heap.size, i, none⟩ = some (.int .i64 (([1, 5, 8, 9] : List Int).getD i 0))) := cells_lit u2 [1, 5, 8, 9] 2 _ rfl
  go_wp2_with fail
  refine (pick_any _ _ _ a len cap zs _ (S2.alloc _) (by omega) u2.heap.size [1, 5, 8, 9] 4 rfl (by simp) (by omega) (by omega) (by omega) 4 PH.out).mono ?_
  rintro e u3 ⟨ct, rfl, hp3, S3, Y3⟩
  have z3 := Y3.size
  simp at z3
  have bl2 := (Below.refl u2.heap.size u2).alloc (Nat.le_refl _) (.cells #[.int .i64 1, .int .i64 5, .int .i64 8, .int .i64 9] 2)
  have R3 := (R2.below bl2 R2.lt).fr (M := fun k => s0 = k) (.of_grown Y3.grown (fun k e => by simpa using e)) hsE
  have N3 : Only s0 u1 u3 := N2.trans (((Only.refl _ u2).alloc (.cells #[.int .i64 1, .int .i64 5, .int .i64 8, .int .i64 9] 2)).trans Y3)
  have hct : 1 ≤ ct ∧ ct ≤ 9 := by simp at hp3; omega
  clear PH Y3 S2 R2 N2 bl2 hp3
  go_wp2_with fail
  refine (l9Bent_any _ _ _ a len cap zs _ S3 (by omega)).mono ?_
  rintro e u4 ⟨z, r, m, k, t', rfl, b1, b2, b3, b4, ht', S4, Y4⟩
  have R2 := R3.fr (M := fun k => s0 = k) (.of_grown Y4.grown (fun k e => by simpa using e)) hsE
  have N4 := N3.trans Y4
  have B2 : Below w.heap.size w u4 := B1.trans (N4.below hsw B1.size)
  have e0 := R2.frozen 0
  have e1 := R2.frozen 1
  have e2 := R2.frozen 2
  have e3 := R2.frozen 3
  have q0 : u4.cell? ⟨V0, 0, none⟩ = some (.int .i64 0) := (R2.cell 0).trans rfl
  have q1 : u4.cell? ⟨V0, 1, none⟩ = some (.int .i64 0) := (R2.cell 1).trans rfl
  have q2 : u4.cell? ⟨V0, 2, none⟩ = some (.int .i64 0) := (R2.cell 2).trans rfl
  have q3 : u4.cell? ⟨V0, 3, none⟩ = some (.int .i64 0) := (R2.cell 3).trans rfl
  have BD : Hid (((-1 ≤ z ∧ z ≤ 25) ∧ (-1 ≤ r ∧ r ≤ 65521) ∧ (-1 ≤ m ∧ m ≤ 65521) ∧ (-1 ≤ k ∧ k ≤ 8))) := ⟨b1, b2, b3, b4⟩
  clear R2 R3 S3 S4 Y4 B1 b1 b2 b3 b4 N3 N4
  go_wp2
  refine bodyPost_ret (v := .tuple #[.int .i64 sd, .int .i64 ct, .agg #[.int .i64 z, .int .i64 r, .int .i64 m, .int .i64 k]]) (by simp [results, Tryz.results22, go_sem, q0, q1, q2, q3]) rfl ⟨sd, ct, z, r, m, k, rfl, hsd, hct, BD.out, ?_⟩
  exact (((B2.setCell (p := ⟨V0, 0, none⟩) vw _).setCell (p := ⟨V0, 1, none⟩) vw _).setCell (p := ⟨V0, 2, none⟩) vw _).setCell (p := ⟨V0, 3, none⟩) vw _

end Go.Proofs.YtffidkoejlebeaaGreatDoor
