/- Contracts: the program's sum of a head. -/
import Derived.Test.YtffidkoejlebeaaGreatDoorIHp
namespace Go.Proofs.YtffidkoejlebeaaGreatDoor
open Go.ChangeShapes Go.WideShapes Go.ChangeAt Go.RowKit
set_option maxRecDepth 100000
set_option linter.unusedVariables false
set_option linter.unusedSimpArgs false

theorem hdP_wf {z r m k : Int} : ∀ n ∈ hdP z r m k, (Lit.int .u8 n).wf = true := by
  unfold hdP
  split
  · exact hdL_wf ‹_›
  · simp
theorem sumHead_any (z r m k : Int) (a : Option Addr) (c : Nat) (u : World) (h : Has u .u8 a (hdP z r m k).length (hdP z r m k)) :
    Calls Tryz.prog 78 #[.agg #[.int .i64 (hdF z r m k), .slice a (hdP z r m k).length c]] u fun r' w' => r' = .returned (.agg #[.int .i64 (hdF z r m k), .int .i64 (hsV z r m k)]) ∧ Below u.heap.size u w' := by
  by_cases hb : hdB z r m k = true
  · have e1 : hdF z r m k = 0 := by unfold hdF; rw [if_pos hb]
    have e2 : hdP z r m k = hdL z r m k := by unfold hdP; rw [if_pos hb]
    have e3 : hsV z r m k = sumL (hdL z r m k) := by unfold hsV hdV; rw [if_pos hb]
    rw [e2] at h
    rw [e1, e2, e3]
    exact sumOfBytes_ok a c _ u h (by simp [hdL])
  · have e1 : hdF z r m k = 3 := by unfold hdF; rw [if_neg hb]
    have e3 : hsV z r m k = 0 := by unfold hsV; rw [if_neg hb]
    rw [e1, e3]
    exact sumOfBytes_bad 3 (by decide) _ ⟨_, _, _, rfl⟩ u

set_option maxHeartbeats 2000000 in
theorem hsum_any (z r m k : Int) (w : World) (hT : Tab w) :
    Calls Tryz.prog 46 #[.agg #[.int .i64 z, .int .i64 r, .int .i64 m, .int .i64 k]] w fun e w' => e = .returned (.agg #[.int .i64 (hdF z r m k), .int .i64 (hsV z r m k)]) ∧ Below w.heap.size w w' := by
  have SB : Hid (∀ (a : Option Addr) (c : Nat) (u : World), Has u .u8 a (hdP z r m k).length (hdP z r m k) → Calls Tryz.prog 78 #[.agg #[.int .i64 (hdF z r m k), .slice a (hdP z r m k).length c]] u fun r' w' => r' = .returned (.agg #[.int .i64 (hdF z r m k), .int .i64 (hsV z r m k)]) ∧ Below u.heap.size u w') := fun a c u h => sumHead_any z r m k a c u h
  have PW : Hid (∀ n ∈ hdP z r m k, (Lit.int .u8 n).wf = true) := hdP_wf
  obtain ⟨B, hB⟩ : ∃ B, B = w.heap.size := ⟨_, rfl⟩
  obtain ⟨E, hE⟩ : ∃ E, E = (w.alloc (.cells #[.int .i64 z, .int .i64 r, .int .i64 m, .int .i64 k] 26)).alloc (.cells #[.int .i64 0, .int .i64 0] 45) := ⟨_, rfl⟩
  have BE : Below w.heap.size w E := by rw [hE]; exact ((Below.refl _ _).alloc (Nat.le_refl _) _).alloc (by simp) _
  have SH : Blk E B #[.int .i64 z, .int .i64 r, .int .i64 m, .int .i64 k] 26 := by rw [hE, hB]; exact (Blk.new _ _ _).below ((Below.refl _ _).alloc (Nat.le_refl _) _) (Blk.new _ _ _).lt
  have SR : Blk E (B + 1) #[.int .i64 0, .int .i64 0] 45 := by
    have := Blk.new (w.alloc (.cells #[.int .i64 z, .int .i64 r, .int .i64 m, .int .i64 k] 26)) #[.int .i64 0, .int .i64 0] 45
    rw [World.size_alloc] at this
    rw [hE, hB]; exact this
  have KB : Hid (w.heap.size ≤ B + 1) := by show _ ≤ _; omega
  have PH : Hid (Calls Tryz.prog 8 #[.agg #[.int .i64 z, .int .i64 r, .int .i64 m, .int .i64 k]] E fun e w' => ∃ a' c', e = .returned (.agg #[.int .i64 (hdF z r m k), .slice a' (hdP z r m k).length c']) ∧ World.ownsRow w' E.heap.size 5 1 (.slice a' (hdP z r m k).length c') (hdP z r m k).length ((hdP z r m k).map (.int .u8)) ∧ Below E.heap.size E w') := implPackHead_any z r m k E (hT.below BE (Nat.le_refl _))
  generalize hdP z r m k = ys at *
  generalize hdF z r m k = cd at *
  generalize hsV z r m k = vl at *
  have e0 := SH.cell 0
  have e1 := SH.cell 1
  have e2 := SH.cell 2
  have e3 := SH.cell 3
  have e9 := SH.lt
  simp at e0 e1 e2 e3
  clear hT
  go_enter Tryz.func46, Tryz.ntmps46
  go_wp2_with fail
  simp only [← hB, ← hE]
  clear hE hB SH e0 e1 e2 e3 e9
  refine PH.out.mono ?_
  rintro e u ⟨a', c', rfl, O1, hu⟩
  have Y1 := has_of_own O1 PW.out
  clear O1
  go_wp2_with fail
  refine (SB.out _ _ _ Y1).mono ?_
  rintro e u2 ⟨rfl, hu2⟩
  have D2 := hu.trans (hu2.mono hu.size)
  have RR := SR.below D2 SR.lt
  have r0 := RR.cell 0
  have r1 := RR.cell 1
  have r9 := RR.lt
  have r2 := RR.frozen 0
  have r3 := RR.frozen 1
  simp at r0 r1
  have BU := BE.trans (D2.mono BE.size)
  clear Y1
  go_wp2
  refine bodyPost_ret (v := .agg #[.int .i64 cd, .int .i64 vl]) (by simp [results, Tryz.results46, go_sem, r0, r1, r9]) rfl ⟨rfl, ?_⟩
  repeat (first | exact BU | refine Below.setCell ?_ KB.out _)

set_option maxHeartbeats 2000000 in
theorem implHeadSum_any (z r m k : Int) (w : World) (hT : Tab w) :
    Calls Tryz.prog 14 #[.agg #[.int .i64 z, .int .i64 r, .int .i64 m, .int .i64 k]] w fun e w' => e = .returned (.agg #[.int .i64 (hdF z r m k), .int .i64 (hsV z r m k)]) ∧ Below w.heap.size w w' := by
  obtain ⟨B, hB⟩ : ∃ B, B = w.heap.size := ⟨_, rfl⟩
  obtain ⟨E, hE⟩ : ∃ E, E = (w.alloc (.cells #[.int .i64 z, .int .i64 r, .int .i64 m, .int .i64 k] 26)).alloc (.cells #[.int .i64 0, .int .i64 0] 45) := ⟨_, rfl⟩
  have BE : Below w.heap.size w E := by rw [hE]; exact ((Below.refl _ _).alloc (Nat.le_refl _) _).alloc (by simp) _
  have SH : Blk E B #[.int .i64 z, .int .i64 r, .int .i64 m, .int .i64 k] 26 := by rw [hE, hB]; exact (Blk.new _ _ _).below ((Below.refl _ _).alloc (Nat.le_refl _) _) (Blk.new _ _ _).lt
  have SR : Blk E (B + 1) #[.int .i64 0, .int .i64 0] 45 := by
    have := Blk.new (w.alloc (.cells #[.int .i64 z, .int .i64 r, .int .i64 m, .int .i64 k] 26)) #[.int .i64 0, .int .i64 0] 45
    rw [World.size_alloc] at this
    rw [hE, hB]; exact this
  have KB : Hid (w.heap.size ≤ B + 1) := by show _ ≤ _; omega
  have PH : Hid (Calls Tryz.prog 46 #[.agg #[.int .i64 z, .int .i64 r, .int .i64 m, .int .i64 k]] E fun e w' => e = .returned (.agg #[.int .i64 (hdF z r m k), .int .i64 (hsV z r m k)]) ∧ Below E.heap.size E w') := hsum_any z r m k E (hT.below BE (Nat.le_refl _))
  generalize hdF z r m k = cd at *
  generalize hsV z r m k = vl at *
  have e0 := SH.cell 0
  have e1 := SH.cell 1
  have e2 := SH.cell 2
  have e3 := SH.cell 3
  have e9 := SH.lt
  simp at e0 e1 e2 e3
  clear hT
  go_enter Tryz.func14, Tryz.ntmps14
  go_wp2_with fail
  simp only [← hB, ← hE]
  clear hE hB SH e0 e1 e2 e3 e9
  refine PH.out.mono ?_
  rintro e u ⟨rfl, hu⟩
  have RR := SR.below hu SR.lt
  have r0 := RR.cell 0
  have r1 := RR.cell 1
  have r9 := RR.lt
  have r2 := RR.frozen 0
  have r3 := RR.frozen 1
  simp at r0 r1
  have BU := BE.trans (hu.mono BE.size)
  go_wp2
  refine bodyPost_ret (v := .agg #[.int .i64 cd, .int .i64 vl]) (by simp [results, Tryz.results14, go_sem, r0, r1, r9]) rfl ⟨rfl, ?_⟩
  repeat (first | exact BU | refine Below.setCell ?_ KB.out _)

end Go.Proofs.YtffidkoejlebeaaGreatDoor
