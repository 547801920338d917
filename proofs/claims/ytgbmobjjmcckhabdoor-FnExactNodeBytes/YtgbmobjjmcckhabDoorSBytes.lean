/- Contracts of the model's chapter 2: the bytes of leaves and nodes, the sums of nodes and slots. -/
import Derived.Test.YtgbmobjjmcckhabDoorISums
namespace Go.Proofs.YtgbmobjjmcckhabDoor
open Go.ChangeShapes Go.WideShapes Go.ChangeAt Go.RowKit
set_option linter.unusedVariables false
set_option linter.unusedSimpArgs false

set_option maxHeartbeats 2000000 in
theorem specNodeBytes_any (a b : Int) (w : World) :
    Calls Tryd.prog 4 #[.int .i64 a, .int .i64 b] w fun r w' => ∃ a' c', r = .returned (.agg #[.int .i64 (nodeC a b), .slice a' (nodeB a b).length c']) ∧ w'.ownsRow w.heap.size 5 1 (.slice a' (nodeB a b).length c') (nodeB a b).length ((nodeB a b).map (.int .u8)) ∧ Below w.heap.size w w' := by
  unfold nodeC nodeB
  have tok1 : True := trivial
  by_cases ha : 0 ≤ a ∧ a ≤ 65520
  · have hda : decide (0 ≤ a ∧ a ≤ 65520) = true := by simpa using ha
    by_cases hb : 0 ≤ b ∧ b ≤ 65520
    · have hdb : decide (0 ≤ b ∧ b ≤ 65520) = true := by simpa using hb
      rw [if_pos ⟨ha, hb⟩, if_pos ⟨ha, hb⟩]
      obtain ⟨a0, a1⟩ := ha
      obtain ⟨b0, b1⟩ := hb
      have el : 5 = (nodeL a b).length := by simp [nodeL]
      go_enter Tryd.func4, Tryd.ntmps4
      go_wp2_with (first | (go_at_call 9; have _t := tok1; refine (l2Is_any a _).mono ?_; rintro r u ⟨rfl, rfl⟩; rw [hda]; clear tok1 _t) | (go_at_call 9; refine (l2Is_any b _).mono ?_; rintro r u ⟨rfl, rfl⟩; rw [hdb]))
      refine (l2Node_any a b _ a0 (by omega) b0 (by omega)).mono ?_
      rw [el]
      rintro r u1 ⟨a', c', rfl, hown, hb1⟩
      have hz1 := hb1.size
      simp at hz1
      obtain ⟨hc1, hf1⟩ := bcell hb1
      clear el
      go_wp2
      refine bodyPost_ret (v := .agg #[.int .i64 0, .slice a' (nodeL a b).length c']) (by simp [results, Tryd.results4, go_sem, hc1]) rfl ⟨_, _, rfl, ?_, ?_⟩
      · exact own_mono (own_set (own_set hown (by simp) _) (by simp) _) (by simp)
      · repeat (first | exact Below.refl _ _ | (refine Below.alloc ?_ (by (try simp) <;> omega) _) | (refine Below.setCell ?_ (by (try simp) <;> omega) _) | (refine Below.trans ?_ (hb1.mono (by (try simp) <;> omega))))
    · have hdb : decide (0 ≤ b ∧ b ≤ 65520) = false := by simp; omega
      rw [if_neg (by omega), if_neg (by omega)]
      go_enter Tryd.func4, Tryd.ntmps4
      go_wp2_with (first | (go_at_call 9; have _t := tok1; refine (l2Is_any a _).mono ?_; rintro r u ⟨rfl, rfl⟩; rw [hda]; clear tok1 _t) | (go_at_call 9; refine (l2Is_any b _).mono ?_; rintro r u ⟨rfl, rfl⟩; rw [hdb]))
      refine bodyPost_ret (v := .agg #[.int .i64 3, .slice none 0 0]) (by simp [results, Tryd.results4, go_sem]) rfl ⟨_, _, rfl, nil_own _ _ _, ?_⟩
      repeat (first | exact Below.refl _ _ | refine Below.alloc ?_ (by (try simp) <;> omega) _ | refine Below.setCell ?_ (by (try simp) <;> omega) _)
  · have hda : decide (0 ≤ a ∧ a ≤ 65520) = false := by simp; omega
    rw [if_neg (by omega), if_neg (by omega)]
    go_enter Tryd.func4, Tryd.ntmps4
    go_wp2_with (go_at_call 9; refine (l2Is_any a _).mono ?_; rintro r u ⟨rfl, rfl⟩; rw [hda])
    refine bodyPost_ret (v := .agg #[.int .i64 3, .slice none 0 0]) (by simp [results, Tryd.results4, go_sem]) rfl ⟨_, _, rfl, nil_own _ _ _, ?_⟩
    repeat (first | exact Below.refl _ _ | refine Below.alloc ?_ (by (try simp) <;> omega) _ | refine Below.setCell ?_ (by (try simp) <;> omega) _)

end Go.Proofs.YtgbmobjjmcckhabDoor
