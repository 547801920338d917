/- Contracts of chapter 3, both sides: the sum of an event. -/
import Derived.Test.YtngibnmcagogaaaDoorIPack
import Derived.Test.YtngibnmcagogaaaDoorISums
namespace Go.Proofs.YtngibnmcagogaaaDoor
open Go.ChangeShapes Go.WideShapes Go.ChangeAt Go.RowKit
set_option maxRecDepth 100000
set_option linter.unusedVariables false
set_option linter.unusedSimpArgs false

def esV (s v k x : Int) (zs : List Int) : Int := if evF s v k x zs.length = 0 then sumL (leafL (packL s v k x zs)) else 0
theorem leafL_len (zs : List Int) : (leafL zs).length = zs.length + 1 := by simp [leafL]

set_option maxHeartbeats 1000000 in
theorem l3Sum_any (b : Nat) (s v k x : Int) (a : Option Addr) (c : Nat) (zs : List Int) (w : World) (h : EvAt w b s v k x a zs.length c) (hz : Has w .u8 a zs.length zs) (hf : evF s v k x zs.length = 0) (x0 : -9223372036854775808 ≤ x) (x1 : x ≤ 9223372036854775807) :
    Calls Tryd.prog 90 #[.pointer (some ⟨b, 0, none⟩)] w fun r w' => r = .returned (.int .i64 (sumL (leafL (packL s v k x zs)))) ∧ Below w.heap.size w w' := by
  obtain ⟨hs, hv, hk, hn, hcx⟩ := evF_zero hf
  have PW : Hid (∀ n ∈ packL s v k x zs, (Lit.int .u8 n).wf = true) := by
    have := packB_wf (s := s) (v := v) (k := k) (x := x) hz.2.1
    unfold packB at this
    rw [if_pos hf] at this
    exact this
  have PL : Hid ((packL s v k x zs).length = 13 + zs.length) := packL_len s v k x zs
  clear hcx hf
  go_enter Tryd.func90, Tryd.ntmps90
  go_wp2_with fail
  refine (l3Pack_any b s v k x a c zs _ h hz hs.1 hs.2 hv.1 hv.2 hk.1 hk.2 x0 x1 hn).mono ?_
  rintro r u1 ⟨a1, c1, rfl, O1, hb1⟩
  have P1 := has_of_own O1 PW.out
  have z1 := hb1.size
  clear h hz O1
  rw [← PL.out]
  go_wp2_with fail
  refine (l2Leaf_any a1 c1 (packL s v k x zs) _ P1 (by rw [PL.out]; omega)).mono ?_
  rintro r u2 ⟨a2, c2, rfl, O2, hb2⟩
  have P2 := has_of_own O2 (leaf_wf PW.out)
  have z2 := hb2.size
  clear O2 P1
  rw [← leafL_len]
  go_wp2_with fail
  refine (l2Sum_any a2 c2 (leafL (packL s v k x zs)) _ P2 (by rw [leafL_len, PL.out]; omega)).mono ?_
  rintro r u3 ⟨rfl, rfl⟩
  go_wp2
  go_ret
  exact ⟨rfl, hb1.trans (hb2.mono (by omega))⟩

set_option maxHeartbeats 1000000 in
theorem specEventSum_any (s v k x : Int) (a : Option Addr) (c : Nat) (zs : List Int) (w : World) (hz : Has w .u8 a zs.length zs) (x0 : -9223372036854775808 ≤ x) (x1 : x ≤ 9223372036854775807) (hn : zs.length ≤ 9223372036854775807) :
    Calls Tryd.prog 52 #[.agg #[.int .i64 s, .int .i64 v, .int .i64 k, .int .i64 x, .slice a zs.length c]] w fun r w' => r = .returned (.agg #[.int .i64 (evF s v k x zs.length), .int .i64 (esV s v k x zs)]) ∧ Below w.heap.size w w' := by
  have E0 := (EvAt.new w s v k x a zs.length c 46).below ((Below.refl _ _).alloc (Nat.le_refl _) (.cells #[.int .i64 0, .int .i64 0] 37))
  by_cases hf : evF s v k x zs.length = 0
  · have hp : esV s v k x zs = sumL (leafL (packL s v k x zs)) := by unfold esV; rw [if_pos hf]
    rw [hp]
    go_enter Tryd.func52, Tryd.ntmps52
    go_wp2_with fail
    refine (l3Fault_any _ s v k x a zs.length c _ E0 x0 x1 hn).mono ?_
    rintro r u1 ⟨rfl, hb1⟩
    rw [hf]
    have z1 := hb1.size
    have E1 := E0.below hb1
    have Z1 := ((hz.alloc _).alloc _).below hb1 (Nat.le_refl _)
    go_wp2_with fail
    refine (l3Sum_any _ s v k x a c zs _ E1 Z1 hf x0 x1).mono ?_
    rintro r u2 ⟨rfl, hb2⟩
    have z2 := hb2.size
    simp at z1
    have hB := hb1.trans (hb2.mono hb1.size)
    clear E1 Z1 E0 hb1 hb2
    obtain ⟨hc2, hf2⟩ := bcell hB
    go_wp2
    refine bodyPost_ret (v := .agg #[.int .i64 0, .int .i64 (sumL (leafL (packL s v k x zs)))]) (by simp [results, Tryd.results52, go_sem, hc2]) rfl ⟨by rw [hf], ?_⟩
    refine Below.setCell (Below.setCell ?_ (by simp) _) (by simp) _
    exact (((Below.refl _ _).alloc (Nat.le_refl _) _).alloc (by simp) _).trans (hB.mono (by (try simp) <;> omega))
  · have hp : esV s v k x zs = 0 := by unfold esV; rw [if_neg hf]
    rw [hp]
    have hf' : (evF s v k x zs.length != 0) = true := by simpa using hf
    go_enter Tryd.func52, Tryd.ntmps52
    go_wp2_with fail
    refine (l3Fault_any _ s v k x a zs.length c _ E0 x0 x1 hn).mono ?_
    rintro r u1 ⟨rfl, hb1⟩
    have z1 := hb1.size
    simp at z1
    obtain ⟨hc1, hf1⟩ := bcell hb1
    go_wp2
    refine bodyPost_ret (v := .agg #[.int .i64 (evF s v k x zs.length), .int .i64 0]) (by simp [results, Tryd.results52, go_sem, hc1]) rfl ⟨rfl, ?_⟩
    refine Below.setCell (Below.setCell ?_ (by simp) _) (by simp) _
    exact (((Below.refl _ _).alloc (Nat.le_refl _) _).alloc (by simp) _).trans (hb1.mono (by (try simp) <;> omega))

set_option maxHeartbeats 1000000 in
theorem implEventSum_any (s v k x : Int) (a : Option Addr) (c : Nat) (zs : List Int) (w : World) (hT : Tab w) (hz : Has w .u8 a zs.length zs) (x0 : -9223372036854775808 ≤ x) (x1 : x ≤ 9223372036854775807) (hn : zs.length ≤ 9223372036854775807) :
    Calls Tryd.prog 50 #[.agg #[.int .i64 s, .int .i64 v, .int .i64 k, .int .i64 x, .slice a zs.length c]] w fun r w' => r = .returned (.agg #[.int .i64 (evF s v k x zs.length), .int .i64 (esV s v k x zs)]) ∧ Below w.heap.size w w' := by
  have hw0 : 0 < w.heap.size := hT.1
  by_cases hf : evF s v k x zs.length = 0
  · have hp : esV s v k x zs = sumL (leafL (packL s v k x zs)) := by unfold esV; rw [if_pos hf]
    have hpl := packL_len s v k x zs
    have hn12 := (evF_zero hf).2.2.2.1
    have hlc : leafC (packL s v k x zs) = 0 := by unfold leafC; rw [if_neg (by omega)]
    have hlv : leafV (packL s v k x zs) = sumL (leafL (packL s v k x zs)) := by unfold leafV; rw [if_neg (by omega)]
    have PW : Hid (∀ n ∈ packL s v k x zs, (Lit.int .u8 n).wf = true) := by
      have := packB_wf (s := s) (v := v) (k := k) (x := x) hz.2.1
      unfold packB at this
      rw [if_pos hf] at this
      exact this
    have LC : Hid (leafC (packL s v k x zs) = 0) := hlc
    have LV : Hid (leafV (packL s v k x zs) = sumL (leafL (packL s v k x zs))) := hlv
    clear hlc hlv hpl
    rw [hp, hf]
    go_enter Tryd.func50, Tryd.ntmps50
    go_wp2_with fail
    refine (implPackEvent_ok s v k x a c zs _ ((hz.alloc _).alloc _) x0 x1 hf).mono ?_
    rintro r u1 ⟨a1, c1, rfl, O1, hb1⟩
    have z1 := hb1.size
    simp at z1
    have P1 := has_of_own O1 PW.out
    have T1 := ((hT.alloc _).alloc _).below hb1 (Nat.le_refl _)
    obtain ⟨hc1, hf1⟩ := bcell hb1
    clear O1
    go_wp2_with fail
    refine (implLeafSum_any a1 c1 (packL s v k x zs) _ (T1.alloc _) (P1.alloc _)).mono ?_
    rintro r u2 ⟨rfl, hb2⟩
    rw [LC.out, LV.out]
    have z2 := hb2.size
    simp at z2
    have hB := (hb1.alloc hb1.size (.cells #[.int .i64 0, .slice a1 (packL s v k x zs).length c1] 30)).trans (hb2.mono (by simp; omega))
    clear hc1 hf1 hb1 hb2 T1 P1
    obtain ⟨hc2, hf2⟩ := bcell hB
    go_wp2
    refine bodyPost_ret (v := .agg #[.int .i64 0, .int .i64 (sumL (leafL (packL s v k x zs)))]) (by simp [results, Tryd.results50, go_sem, hc2]) rfl ⟨rfl, ?_⟩
    refine Below.setCell (Below.setCell ?_ (by simp) _) (by simp) _
    exact (((Below.refl _ _).alloc (Nat.le_refl _) _).alloc (by simp) _).trans (hB.mono (by (try simp) <;> omega))
  · have hp : esV s v k x zs = 0 := by unfold esV; rw [if_neg hf]
    rw [hp]
    have hf' : (evF s v k x zs.length != 0) = true := by simpa using hf
    go_enter Tryd.func50, Tryd.ntmps50
    go_wp2_with fail
    refine (implPackEvent_any s v k x a c zs _ ((hz.alloc _).alloc _) x0 x1 hn).mono ?_
    rintro r u1 ⟨a1, c1, rfl, O1, hb1⟩
    have z1 := hb1.size
    simp at z1
    have q1 : w.heap.size + 1 < u1.heap.size := by omega
    obtain ⟨hc1, hf1⟩ := bcell hb1
    clear O1
    go_wp2
    refine bodyPost_ret (v := .agg #[.int .i64 (evF s v k x zs.length), .int .i64 0]) (by simp [results, Tryd.results50, go_sem, hc1, q1]) rfl ⟨rfl, ?_⟩
    repeat (first | exact Below.refl _ _ | (refine Below.alloc ?_ (by (try simp) <;> omega) _) | (refine Below.setCell ?_ (by (try simp) <;> omega) _) | (refine Below.trans ?_ (hb1.mono (by (try simp) <;> omega))))

end Go.Proofs.YtngibnmcagogaaaDoor
