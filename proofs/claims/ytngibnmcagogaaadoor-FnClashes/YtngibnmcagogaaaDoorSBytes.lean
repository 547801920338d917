/- Contracts of the model's chapter 2: the bytes of leaves and nodes, the sums of nodes and slots. -/
import Derived.Test.YtngibnmcagogaaaDoorISums
namespace Go.Proofs.YtngibnmcagogaaaDoor
open Go.ChangeShapes Go.WideShapes Go.ChangeAt Go.RowKit
set_option maxRecDepth 100000
set_option linter.unusedVariables false
set_option linter.unusedSimpArgs false

set_option maxHeartbeats 1000000 in
theorem specLeafBytes_any (a : Option Addr) (cap : Nat) (zs : List Int) (w : World) (h : Has w .u8 a zs.length zs) :
    Calls Tryd.prog 24 #[.slice a zs.length cap] w fun r w' => ∃ a' c', r = .returned (.agg #[.int .i64 (leafC zs), .slice a' (leafB zs).length c']) ∧ w'.ownsRow w.heap.size 5 1 (.slice a' (leafB zs).length c') (leafB zs).length ((leafB zs).map (.int .u8)) ∧ Below w.heap.size w w' := by
  unfold leafC leafB
  by_cases hb : 250 < zs.length
  · rw [if_pos hb, if_pos hb]
    have hb' : (250 : Int) < (zs.length : Int) := by omega
    go_enter Tryd.func24, Tryd.ntmps24
    go_wp2
    refine bodyPost_ret (v := .agg #[.int .i64 2, .slice none 0 0]) (by simp [results, Tryd.results24, go_sem]) rfl ⟨_, _, rfl, nil_own _ _ _, ?_⟩
    repeat (first | exact Below.refl _ _ | refine Below.alloc ?_ (by (try simp) <;> omega) _ | refine Below.setCell ?_ (by (try simp) <;> omega) _)
  · rw [if_neg hb, if_neg hb]
    have hb' : (zs.length : Int) ≤ 250 := by omega
    have el : zs.length + 1 = (leafL zs).length := by simp [leafL]
    go_enter Tryd.func24, Tryd.ntmps24
    go_wp2_with fail
    refine (l2Leaf_any a cap zs _ (h.alloc _) (by omega)).mono ?_
    rw [el]
    rintro r u1 ⟨a', c', rfl, hown, hb1⟩
    have hz1 := hb1.size
    simp at hz1
    obtain ⟨hc1, hf1⟩ := bcell hb1
    go_wp2
    refine bodyPost_ret (v := .agg #[.int .i64 0, .slice a' (leafL zs).length c']) (by simp [results, Tryd.results24, go_sem, hc1]) rfl ⟨_, _, rfl, ?_, ?_⟩
    · exact own_mono (own_set (own_set hown (by simp) _) (by simp) _) (by simp)
    · repeat (first | exact Below.refl _ _ | (refine Below.alloc ?_ (by (try simp) <;> omega) _) | (refine Below.setCell ?_ (by (try simp) <;> omega) _) | (refine Below.trans ?_ (hb1.mono (by (try simp) <;> omega))))

set_option maxHeartbeats 2000000 in
theorem specNodeBytes_any (a b : Int) (w : World) :
    Calls Tryd.prog 26 #[.int .i64 a, .int .i64 b] w fun r w' => ∃ a' c', r = .returned (.agg #[.int .i64 (nodeC a b), .slice a' (nodeB a b).length c']) ∧ w'.ownsRow w.heap.size 5 1 (.slice a' (nodeB a b).length c') (nodeB a b).length ((nodeB a b).map (.int .u8)) ∧ Below w.heap.size w w' := by
  unfold nodeC nodeB
  have tok1 : True := trivial
  by_cases ha : 0 ≤ a ∧ a ≤ 65520
  · have hda : decide (0 ≤ a ∧ a ≤ 65520) = true := by simpa using ha
    by_cases hb : 0 ≤ b ∧ b ≤ 65520
    · have hdb : decide (0 ≤ b ∧ b ≤ 65520) = true := by simpa using hb
      rw [if_pos ⟨ha, hb⟩, if_pos ⟨ha, hb⟩]
      obtain ⟨a0, a1⟩ := ha
      obtain ⟨b0, b1⟩ := hb
      have el : 5 = (nodeL a b).length := by simp [nodeL]
      go_enter Tryd.func26, Tryd.ntmps26
      go_wp2_with (first | (go_at_call 70; have _t := tok1; refine (l2Is_any a _).mono ?_; rintro r u ⟨rfl, rfl⟩; rw [hda]; clear tok1 _t) | (go_at_call 70; refine (l2Is_any b _).mono ?_; rintro r u ⟨rfl, rfl⟩; rw [hdb]))
      refine (l2Node_any a b _ a0 (by omega) b0 (by omega)).mono ?_
      rw [el]
      rintro r u1 ⟨a', c', rfl, hown, hb1⟩
      have hz1 := hb1.size
      simp at hz1
      obtain ⟨hc1, hf1⟩ := bcell hb1
      clear el
      go_wp2
      refine bodyPost_ret (v := .agg #[.int .i64 0, .slice a' (nodeL a b).length c']) (by simp [results, Tryd.results26, go_sem, hc1]) rfl ⟨_, _, rfl, ?_, ?_⟩
      · exact own_mono (own_set (own_set hown (by simp) _) (by simp) _) (by simp)
      · repeat (first | exact Below.refl _ _ | (refine Below.alloc ?_ (by (try simp) <;> omega) _) | (refine Below.setCell ?_ (by (try simp) <;> omega) _) | (refine Below.trans ?_ (hb1.mono (by (try simp) <;> omega))))
    · have hdb : decide (0 ≤ b ∧ b ≤ 65520) = false := by simp; omega
      rw [if_neg (by omega), if_neg (by omega)]
      go_enter Tryd.func26, Tryd.ntmps26
      go_wp2_with (first | (go_at_call 70; have _t := tok1; refine (l2Is_any a _).mono ?_; rintro r u ⟨rfl, rfl⟩; rw [hda]; clear tok1 _t) | (go_at_call 70; refine (l2Is_any b _).mono ?_; rintro r u ⟨rfl, rfl⟩; rw [hdb]))
      refine bodyPost_ret (v := .agg #[.int .i64 3, .slice none 0 0]) (by simp [results, Tryd.results26, go_sem]) rfl ⟨_, _, rfl, nil_own _ _ _, ?_⟩
      repeat (first | exact Below.refl _ _ | refine Below.alloc ?_ (by (try simp) <;> omega) _ | refine Below.setCell ?_ (by (try simp) <;> omega) _)
  · have hda : decide (0 ≤ a ∧ a ≤ 65520) = false := by simp; omega
    rw [if_neg (by omega), if_neg (by omega)]
    go_enter Tryd.func26, Tryd.ntmps26
    go_wp2_with (go_at_call 70; refine (l2Is_any a _).mono ?_; rintro r u ⟨rfl, rfl⟩; rw [hda])
    refine bodyPost_ret (v := .agg #[.int .i64 3, .slice none 0 0]) (by simp [results, Tryd.results26, go_sem]) rfl ⟨_, _, rfl, nil_own _ _ _, ?_⟩
    repeat (first | exact Below.refl _ _ | refine Below.alloc ?_ (by (try simp) <;> omega) _ | refine Below.setCell ?_ (by (try simp) <;> omega) _)

set_option maxHeartbeats 2000000 in
theorem specNodeSum_any (a b : Int) (w : World) :
    Calls Tryd.prog 32 #[.int .i64 a, .int .i64 b] w fun r w' => r = .returned (.agg #[.int .i64 (nodeC a b), .int .i64 (nodeV a b)]) ∧ Below w.heap.size w w' := by
  unfold nodeC nodeV
  have tok1 : True := trivial
  by_cases ha : 0 ≤ a ∧ a ≤ 65520
  · have hda : decide (0 ≤ a ∧ a ≤ 65520) = true := by simpa using ha
    by_cases hb : 0 ≤ b ∧ b ≤ 65520
    · have hdb : decide (0 ≤ b ∧ b ≤ 65520) = true := by simpa using hb
      rw [if_pos ⟨ha, hb⟩, if_pos ⟨ha, hb⟩]
      obtain ⟨a0, a1⟩ := ha
      obtain ⟨b0, b1⟩ := hb
      go_enter Tryd.func32, Tryd.ntmps32
      go_wp2_with (first | (go_at_call 70; have _t := tok1; refine (l2Is_any a _).mono ?_; rintro r u ⟨rfl, rfl⟩; rw [hda]; clear tok1 _t) | (go_at_call 70; refine (l2Is_any b _).mono ?_; rintro r u ⟨rfl, rfl⟩; rw [hdb]))
      refine (l2NodeSum_any a b _ a0 (by omega) b0 (by omega)).mono ?_
      rintro r u1 ⟨rfl, hb1⟩
      have hz1 := hb1.size
      simp at hz1
      obtain ⟨hc1, hf1⟩ := bcell hb1
      go_wp2
      refine bodyPost_ret (v := .agg #[.int .i64 0, .int .i64 (sumL (nodeL a b))]) (by simp [results, Tryd.results32, go_sem, hc1]) rfl ⟨rfl, ?_⟩
      repeat (first | exact Below.refl _ _ | (refine Below.alloc ?_ (by (try simp) <;> omega) _) | (refine Below.setCell ?_ (by (try simp) <;> omega) _) | (refine Below.trans ?_ (hb1.mono (by (try simp) <;> omega))))
    · have hdb : decide (0 ≤ b ∧ b ≤ 65520) = false := by simp; omega
      rw [if_neg (by omega), if_neg (by omega)]
      go_enter Tryd.func32, Tryd.ntmps32
      go_wp2_with (first | (go_at_call 70; have _t := tok1; refine (l2Is_any a _).mono ?_; rintro r u ⟨rfl, rfl⟩; rw [hda]; clear tok1 _t) | (go_at_call 70; refine (l2Is_any b _).mono ?_; rintro r u ⟨rfl, rfl⟩; rw [hdb]))
      refine bodyPost_ret (v := .agg #[.int .i64 3, .int .i64 0]) (by simp [results, Tryd.results32, go_sem]) rfl ⟨rfl, ?_⟩
      repeat (first | exact Below.refl _ _ | refine Below.alloc ?_ (by (try simp) <;> omega) _ | refine Below.setCell ?_ (by (try simp) <;> omega) _)
  · have hda : decide (0 ≤ a ∧ a ≤ 65520) = false := by simp; omega
    rw [if_neg (by omega), if_neg (by omega)]
    go_enter Tryd.func32, Tryd.ntmps32
    go_wp2_with (go_at_call 70; refine (l2Is_any a _).mono ?_; rintro r u ⟨rfl, rfl⟩; rw [hda])
    refine bodyPost_ret (v := .agg #[.int .i64 3, .int .i64 0]) (by simp [results, Tryd.results32, go_sem]) rfl ⟨rfl, ?_⟩
    repeat (first | exact Below.refl _ _ | refine Below.alloc ?_ (by (try simp) <;> omega) _ | refine Below.setCell ?_ (by (try simp) <;> omega) _)

set_option maxHeartbeats 1000000 in
theorem l2Slot_any (k v : Int) (w : World) (k0 : 0 ≤ k) (k1 : k ≤ 63) (v0 : 0 ≤ v) (v1 : v ≤ 65535) :
    Calls Tryd.prog 72 #[.int .i64 k, .int .i64 v] w fun r w' => ∃ a' c', r = .returned (.slice a' (slotL k v).length c') ∧ w'.ownsRow w.heap.size 5 1 (.slice a' (slotL k v).length c') (slotL k v).length ((slotL k v).map (.int .u8)) ∧ Below w.heap.size w w' := by
  obtain ⟨i0, hi, hz0, hz1, hz2⟩ := info_parts info8
  have hown0 : (w.alloc (.cells #[.int .u8 2, .int .u8 k] 5)).ownsRow w.heap.size 5 1 (.slice (some ⟨w.heap.size, 0, none⟩) 2 2) 2 [.int .u8 2, .int .u8 k] := World.ownsRow_lit w #[.int .u8 2, .int .u8 k] 2 (Nat.le_refl _) (by unfold maxLen; omega) rfl
  go_enter Tryd.func72, Tryd.ntmps72
  go_wp2_with fail
  refine (l2Two_any v _ v0 v1).mono ?_
  rintro r u1 ⟨rfl, rfl⟩
  go_wp2_with (at_builtin; refine wpList_append_own _ rfl _ _ 22 rfl w.heap.size 5 i0 (.int .u8 0) 1 1 Tryd.underlying22 hi hz0 hz1 hz2 rfl (by decide) _ _ _ rfl (hown0.alloc _) ⟨w.heap.size + 1, 0, none⟩ 2 2 [.int .u8 (v / 256), .int .u8 (v % 256)] rfl (by simp) (by simpa using two_new (w.alloc (.cells #[.int .u8 2, .int .u8 k] 5)) (.int .u8 (v / 256)) (.int .u8 (v % 256)) 5) (by intro u hu; simp at hu; rcases hu with rfl | rfl <;> rfl) (by unfold maxLen; omega) (by omega) (by simp; omega) ?_; intro v1 w1 hown1 hgrow1 _h1)
  go_ret
  have hb1 := (((Below.refl w.heap.size w).alloc (Nat.le_refl _) _).alloc (by simp) _).trans ((Below.refl _ _).grown hgrow1 (by simp; omega) (fun k hk => (hown0.lt k hk).1))
  have hown4 : w1.ownsRow w.heap.size 5 1 v1 (slotL k v).length ((slotL k v).map (.int .u8)) := by simpa [slotL] using hown1
  obtain ⟨a', c', rfl⟩ := own_row_shape hown4
  exact ⟨a', c', rfl, hown4, hb1⟩

set_option maxHeartbeats 2000000 in
theorem specSlotSum_any (k v : Int) (w : World) :
    Calls Tryd.prog 23 #[.int .i64 k, .int .i64 v] w fun r w' => r = .returned (.agg #[.int .i64 (slotC k v), .int .i64 (slotV k v)]) ∧ Below w.heap.size w w' := by
  unfold slotC slotV
  by_cases hk : 0 ≤ k ∧ k ≤ 63
  · have hdk : decide (0 ≤ k ∧ k ≤ 63) = true := by simpa using hk
    by_cases hv : 0 ≤ v ∧ v ≤ 65520
    · have hdv : decide (0 ≤ v ∧ v ≤ 65520) = true := by simpa using hv
      rw [if_pos ⟨hk, hv⟩, if_pos ⟨hk, hv⟩]
      obtain ⟨k0, k1⟩ := hk
      obtain ⟨v0, v1⟩ := hv
      have ew : ∀ n ∈ slotL k v, (Lit.int .u8 n).wf = true := by
        intro n hn
        simp [slotL] at hn
        exact wf_u8 (by omega) (by omega)
      have EW : Hid (_) := ew
      clear ew
      go_enter Tryd.func23, Tryd.ntmps23
      go_wp2_with (first | (go_at_call 69; refine (in_any k 0 63 _).mono ?_; rintro r u ⟨rfl, rfl⟩; rw [hdk]) | (go_at_call 70; refine (l2Is_any v _).mono ?_; rintro r u ⟨rfl, rfl⟩; rw [hdv]))
      refine (l2Slot_any k v _ k0 k1 v0 (by omega)).mono ?_
      rintro r u1 ⟨a', c', rfl, hown, hb1⟩
      have H := has_of_own hown EW.out
      have hz1 := hb1.size
      simp at hz1
      go_wp2_with fail
      refine (l2Sum_any a' c' (slotL k v) _ H (by simp [slotL])).mono ?_
      rintro r u2 ⟨rfl, rfl⟩
      obtain ⟨hc1, hf1⟩ := bcell hb1
      go_wp2
      refine bodyPost_ret (v := .agg #[.int .i64 0, .int .i64 (sumL (slotL k v))]) (by simp [results, Tryd.results23, go_sem, hc1]) rfl ⟨rfl, ?_⟩
      repeat (first | exact Below.refl _ _ | (refine Below.alloc ?_ (by (try simp) <;> omega) _) | (refine Below.setCell ?_ (by (try simp) <;> omega) _) | (refine Below.trans ?_ (hb1.mono (by (try simp) <;> omega))))
    · have hdv : decide (0 ≤ v ∧ v ≤ 65520) = false := by simp; omega
      rw [if_neg (by omega), if_neg (by omega)]
      go_enter Tryd.func23, Tryd.ntmps23
      go_wp2_with (first | (go_at_call 69; refine (in_any k 0 63 _).mono ?_; rintro r u ⟨rfl, rfl⟩; rw [hdk]) | (go_at_call 70; refine (l2Is_any v _).mono ?_; rintro r u ⟨rfl, rfl⟩; rw [hdv]))
      refine bodyPost_ret (v := .agg #[.int .i64 3, .int .i64 0]) (by simp [results, Tryd.results23, go_sem]) rfl ⟨rfl, ?_⟩
      repeat (first | exact Below.refl _ _ | refine Below.alloc ?_ (by (try simp) <;> omega) _ | refine Below.setCell ?_ (by (try simp) <;> omega) _)
  · have hdk : decide (0 ≤ k ∧ k ≤ 63) = false := by simp; omega
    rw [if_neg (by omega), if_neg (by omega)]
    go_enter Tryd.func23, Tryd.ntmps23
    go_wp2_with (go_at_call 69; refine (in_any k 0 63 _).mono ?_; rintro r u ⟨rfl, rfl⟩; rw [hdk])
    refine bodyPost_ret (v := .agg #[.int .i64 3, .int .i64 0]) (by simp [results, Tryd.results23, go_sem]) rfl ⟨rfl, ?_⟩
    repeat (first | exact Below.refl _ _ | refine Below.alloc ?_ (by (try simp) <;> omega) _ | refine Below.setCell ?_ (by (try simp) <;> omega) _)

theorem specLeafS_any (a : Option Addr) (cap : Nat) (zs : List Int) (w : World) (h : Has w .u8 a zs.length zs) (hl : zs.length ≤ 1048576) :
    Calls Tryd.prog 28 #[.slice a zs.length cap] w fun r w' => r = .returned (.agg #[.int .i64 (leafC zs), .int .i64 (leafV zs)]) ∧ Below w.heap.size w w' :=
  specLeafSum_any a cap zs w h hl

end Go.Proofs.YtngibnmcagogaaaDoor
