/- Contracts of the program's chapter 2: the sums of leaves, nodes and slots. -/
import Derived.Test.YtlmjppglaolccaaDoorIBytes
namespace Go.Proofs.YtlmjppglaolccaaDoor
open Go.ChangeShapes Go.WideShapes Go.ChangeAt Go.RowKit
set_option linter.unusedVariables false
set_option linter.unusedSimpArgs false

/-- The codes and the values of the sums. -/
def leafV (zs : List Int) : Int := if 250 < zs.length then 0 else sumL (leafL zs)
def nodeV (a b : Int) : Int := if (0 ≤ a ∧ a ≤ 65520) ∧ 0 ≤ b ∧ b ≤ 65520 then sumL (nodeL a b) else 0
def slotL (k v : Int) : List Int := [2, k, v / 256, v % 256]
def slotC (k v : Int) : Int := if (0 ≤ k ∧ k ≤ 63) ∧ 0 ≤ v ∧ v ≤ 65520 then 0 else 3
def slotV (k v : Int) : Int := if (0 ≤ k ∧ k ≤ 63) ∧ 0 ≤ v ∧ v ≤ 65520 then sumL (slotL k v) else 0

set_option maxHeartbeats 1000000 in
theorem sumOfBytes_ok (a : Option Addr) (cap : Nat) (zs : List Int) (w : World) (h : Has w .u8 a zs.length zs) (hl : zs.length ≤ 300) :
    Calls Tryd.prog 76 #[.agg #[.int .i64 0, .slice a zs.length cap]] w fun r w' => r = .returned (.agg #[.int .i64 0, .int .i64 (sumL zs)]) ∧ Below w.heap.size w w' := by
  have e1 : sumC zs = 0 := by unfold sumC; rw [if_neg (by omega)]
  have e2 : sumV zs = sumL zs := by unfold sumV; rw [if_neg (by omega)]
  go_enter Tryd.func76, Tryd.ntmps76
  go_wp2_with fail
  refine (implSumOf_any a cap zs _ ((h.alloc _).alloc _) (by omega)).mono ?_
  rw [e1, e2]
  rintro r u1 ⟨rfl, hb1⟩
  have hz1 := hb1.size
  simp at hz1
  obtain ⟨hc1, hf1⟩ := bcell hb1
  have r0 := hc1 (w.heap.size + 1) 0 (by simp)
  have r1 := hc1 (w.heap.size + 1) 1 (by simp)
  have f0 := hf1 (w.heap.size + 1) 0 (by simp)
  have f1 := hf1 (w.heap.size + 1) 1 (by simp)
  simp [go_sem] at r0 r1 f0 f1
  go_wp2
  refine bodyPost_ret (v := .agg #[.int .i64 0, .int .i64 (sumL zs)]) (by simp [results, Tryd.results76, go_sem, r0, r1]) rfl ⟨rfl, ?_⟩
  repeat (first | exact Below.refl _ _ | (refine Below.alloc ?_ (by (try simp) <;> omega) _) | (refine Below.setCell ?_ (by (try simp) <;> omega) _) | (refine Below.trans ?_ (hb1.mono (by (try simp) <;> omega))))

theorem sumOfBytes_bad (c : Int) (hc : c ≠ 0) (v : Value) (hv : ∃ a n cap, v = .slice a n cap) (w : World) :
    Calls Tryd.prog 76 #[.agg #[.int .i64 c, v]] w fun r w' => r = .returned (.agg #[.int .i64 c, .int .i64 0]) ∧ Below w.heap.size w w' := by
  have hc' : (c != 0) = true := by simpa using hc
  obtain ⟨a, n, cap, rfl⟩ := hv
  clear hc
  go_enter Tryd.func76, Tryd.ntmps76
  go_wp2
  refine bodyPost_ret (v := .agg #[.int .i64 c, .int .i64 0]) (by simp [results, Tryd.results76, go_sem]) rfl ⟨rfl, ?_⟩
  repeat (first | exact Below.refl _ _ | refine Below.alloc ?_ (by (try simp) <;> omega) _ | refine Below.setCell ?_ (by (try simp) <;> omega) _)

set_option maxHeartbeats 1000000 in
theorem implNodeSum_any (a b : Int) (w : World) (hT : Tab w) :
    Calls Tryd.prog 70 #[.int .i64 a, .int .i64 b] w fun r w' => r = .returned (.agg #[.int .i64 (nodeC a b), .int .i64 (nodeV a b)]) ∧ Below w.heap.size w w' := by
  have hS : ∀ (w1 : World) a' c', Has w1 .u8 a' (nodeB a b).length (nodeB a b) → Calls Tryd.prog 76 #[.agg #[.int .i64 (nodeC a b), .slice a' (nodeB a b).length c']] w1 fun r w' => r = .returned (.agg #[.int .i64 (nodeC a b), .int .i64 (nodeV a b)]) ∧ Below w1.heap.size w1 w' := by
    intro w1 a' c' H
    by_cases hb : (0 ≤ a ∧ a ≤ 65520) ∧ 0 ≤ b ∧ b ≤ 65520
    · have e1 : nodeC a b = 0 := by unfold nodeC; rw [if_pos hb]
      have e3 : nodeB a b = nodeL a b := by unfold nodeB; rw [if_pos hb]
      have e2 : nodeV a b = sumL (nodeB a b) := by unfold nodeV; rw [if_pos hb, e3]
      rw [e1, e2]
      exact sumOfBytes_ok a' c' (nodeB a b) w1 H (by rw [e3]; simp [nodeL])
    · have e1 : nodeC a b = 3 := by unfold nodeC; rw [if_neg hb]
      have e2 : nodeV a b = 0 := by unfold nodeV; rw [if_neg hb]
      rw [e1, e2]
      exact sumOfBytes_bad 3 (by decide) _ ⟨_, _, _, rfl⟩ w1
  have HS : Hid (_) := hS
  clear hS
  go_enter Tryd.func70, Tryd.ntmps70
  go_wp2_with fail
  refine (implNodeBytes_any a b _ (hT.alloc _)).mono ?_
  rintro r u1 ⟨a', c', rfl, hown, hb1⟩
  have H := has_of_own hown (nodeB_wf a b)
  have hz1 := hb1.size
  simp at hz1
  go_wp2_with fail
  refine (HS.out _ a' c' H).mono ?_
  rintro r u2 ⟨rfl, hb2⟩
  have hB := hb1.trans (hb2.mono hb1.size)
  obtain ⟨hc1, hf1⟩ := bcell hB
  have hz2 := hB.size
  simp at hz2
  go_wp2
  refine bodyPost_ret (v := .agg #[.int .i64 (nodeC a b), .int .i64 (nodeV a b)]) (by simp [results, Tryd.results70, go_sem, hc1]) rfl ⟨rfl, ?_⟩
  repeat (first | exact Below.refl _ _ | (refine Below.alloc ?_ (by (try simp) <;> omega) _) | (refine Below.setCell ?_ (by (try simp) <;> omega) _) | (refine Below.trans ?_ (hB.mono (by (try simp) <;> omega))))

end Go.Proofs.YtlmjppglaolccaaDoor
