/- Contracts: the model's draws of chapter 4: leaves, bent leaves, sizes. -/
import Derived.Test.YtkjhcblfkpknlaaDoorSource
import Derived.Test.YtkjhcblfkpknlaaDoorGrowC
import Derived.Test.YtkjhcblfkpknlaaDoorMarkI
import Derived.Test.YtkjhcblfkpknlaaDoorPiece
namespace Go.Proofs.YtkjhcblfkpknlaaDoor
open Go.ChangeShapes Go.WideShapes Go.ChangeAt Go.RowKit
set_option maxRecDepth 100000
set_option linter.unusedVariables false
set_option linter.unusedSimpArgs false

set_option maxHeartbeats 2000000 in
theorem l4Draw_any (w : World) (B s : Nat) (a : Option Addr) (len cap : Nat) (zs : List Int) (t : Nat) (h : SrcAt (w) B s a len cap zs (t)) (ht : t ≤ 100000) :
    Calls Tryd.prog 60 #[.pointer (some ⟨s, 0, none⟩)] w fun e w' => ∃ (a' : Option Addr) (c' : Nat) (ys : List Int) (t' : Nat), e = .returned (.slice a' ys.length c') ∧ ys.length ≤ 24 ∧ w'.ownsRow w.heap.size 2 1 (.slice a' ys.length c') ys.length (ys.map (.int .i64)) ∧ allS ys = true ∧ SrcAt (w') B s a len cap zs (t') ∧ t' ≤ t + 40 ∧ Only s w w' := by
  obtain ⟨i0, hi, hz0, hz1, hz2⟩ := info_parts info64
  have hlt := h.lt
  have hown0 : (w.alloc (.cells #[] 2)).ownsRow w.heap.size 2 1 (.slice (some ⟨w.heap.size, 0, none⟩) 0 0) 0 (([] : List Int).map (.int .i64)) := World.ownsRow_lit w #[] 0 (Nat.le_refl _) (Nat.zero_le _) rfl
  have hs0 := h.alloc (.cells #[] 2)
  have ho0 := (Only.refl s w).alloc (.cells #[] 2)
  clear h
  go_enter Tryd.func60, Tryd.ntmps60
  go_wp2_with fail
  refine (next_any _ B s a len cap zs _ 9 hs0 (by omega) (by omega) (by omega)).mono ?_
  rintro e u1 ⟨k1, rfl, p0, p1, S1, Y1⟩
  go_wp2_with fail
  refine (next_any _ B s a len cap zs _ 9 S1 (by omega) (by omega) (by omega)).mono ?_
  rintro e u2 ⟨k2, rfl, q0, q1, S2, Y2⟩
  have PH : Hid (∀ i, i < [k1, k2, 16, 24].length → (u2.alloc (.cells #[.int .i64 k1, .int .i64 k2, .int .i64 16, .int .i64 24] 2)).cell? ⟨u2.heap.size, i, none⟩ = some (.int .i64 ([k1, k2, 16, 24].getD i 0))) := cells_lit u2 [k1, k2, 16, 24] 2 _ rfl
  have N2 := ho0.trans (Y1.trans Y2)
  have z2 := N2.size
  have O2 := own_only (own_only hown0 Y1 hlt) Y2 hlt
  go_wp2_with fail
  refine (pick_any _ B s a len cap zs _ (S2.alloc _) (by omega) u2.heap.size [k1, k2, 16, 24] 4 rfl (by simp) (by omega) (by omega) (by omega) 4 PH.out).mono ?_
  rintro e u3 ⟨p, rfl, hp, S3, Y3⟩
  have hp' : 0 ≤ p ∧ p ≤ 24 := by simp at hp; omega
  obtain ⟨m, rfl⟩ : ∃ m : Nat, p = (m : Int) := ⟨p.toNat, by omega⟩
  have N3 := (N2.alloc (.cells #[.int .i64 k1, .int .i64 k2, .int .i64 16, .int .i64 24] 2)).trans Y3
  have O3 := own_only (O2.alloc (.cells #[.int .i64 k1, .int .i64 k2, .int .i64 16, .int .i64 24] 2)) Y3 hlt
  clear PH hp S1 S2 Y1 Y2 Y3 hs0 ho0 hown0 O2 N2
  go_wp2_with fail
  go_loopw [3, 4] (fun v i wr => ∃ (j : Nat) (ys : List Int), i = .int .i64 j ∧ ys.length + j = m ∧ SrcAt wr B s a len cap zs (t + 3 + ys.length) ∧ wr.ownsRow w.heap.size 2 1 v ys.length (ys.map (.int .i64)) ∧ allS ys = true ∧ Only s w wr) (fun _ i _ => (intOf i).toNat)
  case atStart => exact ⟨m, [], rfl, by simp, S3, O3, rfl, N3⟩
  case round =>
    clear S3 O3 N3
    obtain ⟨j, ys, rfl, hj5, hs, hown, hall, ho⟩ := hrel
    by_cases hj : 0 < j
    · have hj' : (0 : Int) < (j : Int) := by omega
      go_wp2_with (first | (go_at_call 58; refine (next_wide _ B s a len cap zs _ _ hs (by omega) (by omega) (by omega)).mono ?_; rintro e w2 ⟨x, rfl, hx0, hx1, hs2, ho2⟩; have hown2 := own_only hown ho2 hlt; have hz2' := ho2.size; have hzW := ho.size) | (at_builtin; refine wpList_append_own _ rfl _ _ 24 rfl w.heap.size 2 i0 (.int .i64 0) 1 8 Tryd.underlying24 hi hz0 hz1 hz2 rfl (by decide) _ _ _ rfl (hown2.alloc _) ⟨w2.heap.size, 0, none⟩ 1 1 [.int .i64 x] rfl rfl (one_new _ _ _) (by intro u hu; simp at hu; subst hu; rfl) (by unfold maxLen; omega) (by omega) (by simp; omega) ?_; intro v' w3 hown3 hgrow _h4))
      have hbel : Below w.heap.size (w2.alloc (.cells #[.int .i64 x] 2)) w3 := (Below.refl _ _).grown hgrow (by simp; omega) (fun k hk => (hown2.lt k hk).1)
      have hs3 := (hs2.alloc (.cells #[.int .i64 x] 2)).below' hbel hlt
      have ho3 := ((ho.trans ho2).alloc _).then_below hbel
      have hown3' : w3.ownsRow w.heap.size 2 1 v' (ys ++ [x]).length ((ys ++ [x]).map (.int .i64)) := by simpa using hown3
      clear hgrow hown2 hs2 ho2 hown hs ho hown3
      go_wp2
      go_roundw
      case rel => exact ⟨j - 1, ys ++ [x], by go_num, by simp; omega, by simpa [Nat.add_assoc] using hs3, hown3', allS_app hall hx0 (by omega), ho3⟩
      case measure => simp [intOf]; omega
    · have hj' : (j : Int) ≤ 0 := by omega
      go_wp2
      go_ret
      obtain ⟨a', c', rfl⟩ := own_row_shape hown
      exact ⟨a', c', ys, _, rfl, by omega, hown, hall, hs, by omega, ho⟩

set_option maxHeartbeats 2000000 in
theorem l4Bent_any (w : World) (B s : Nat) (a : Option Addr) (len cap : Nat) (zs : List Int) (t : Nat) (h : SrcAt (w) B s a len cap zs (t)) (ht : t ≤ 100000) :
    Calls Tryd.prog 57 #[.pointer (some ⟨s, 0, none⟩)] w fun e w' => ∃ (a' : Option Addr) (c' : Nat) (ys : List Int) (t' : Nat), e = .returned (.slice a' ys.length c') ∧ ys.length ≤ 25 ∧ w'.ownsRow w.heap.size 2 1 (.slice a' ys.length c') ys.length (ys.map (.int .i64)) ∧ (∀ y ∈ ys, (Lit.int .i64 y).wf = true) ∧ SrcAt (w') B s a len cap zs (t') ∧ t' ≤ t + 50 ∧ Only s w w' := by
  obtain ⟨i0, hi, hz0, hz1, hz2⟩ := info_parts info64
  have hlt := h.lt
  go_enter Tryd.func57, Tryd.ntmps57
  go_wp2_with fail
  refine (l4Draw_any _ B s a len cap zs t h ht).mono ?_
  rintro e u1 ⟨a1, c1, ys, t1, rfl, hyl, O1, yall, S1, ht1, Y1⟩
  have yw := allS_wf yall
  go_wp2_with fail
  refine (next_any _ B s a len cap zs _ 14 S1 (by omega) (by omega) (by omega)).mono ?_
  rintro e u2 ⟨k, rfl, k0, k1, S2, Y2⟩
  have O2 := own_only O1 Y2 hlt
  have N2 := Y1.trans Y2
  have z2 := N2.size
  clear O1 S1 Y1 Y2 h yall
  by_cases q0 : k = 0
  · have q0b : (k == 0) = true := by simpa using q0
    clear q0
    have PH : Hid (∀ i, i < [-1, 65521, 7].length → (u2.alloc (.cells #[.int .i64 (-1), .int .i64 65521, .int .i64 7] 2)).cell? ⟨u2.heap.size, i, none⟩ = some (.int .i64 ([-1, 65521, 7].getD i 0))) := cells_lit u2 [-1, 65521, 7] 2 _ rfl
    go_wp2_with fail
    refine (pick_any _ B s a len cap zs _ (S2.alloc _) (by omega) u2.heap.size [-1, 65521, 7] 3 rfl (by simp) (by omega) (by omega) (by omega) 3 PH.out).mono ?_
    rintro e w2 ⟨x, rfl, hp, S3, Y3⟩
    have hp' : -1 ≤ x ∧ x ≤ 65521 := by simp at hp; omega
    have N3 := (N2.alloc (.cells #[.int .i64 (-1), .int .i64 65521, .int .i64 7] 2)).trans Y3
    have z3 := N3.size
    have hown2 := own_only (O2.alloc (.cells #[.int .i64 (-1), .int .i64 65521, .int .i64 7] 2)) Y3 hlt
    clear PH hp S2 Y3 O2 N2
    go_wp2_with (at_builtin; refine wpList_append_own _ rfl _ _ 24 rfl w.heap.size 2 i0 (.int .i64 0) 1 8 Tryd.underlying24 hi hz0 hz1 hz2 rfl (by decide) _ _ _ rfl (hown2.alloc _) ⟨w2.heap.size, 0, none⟩ 1 1 [.int .i64 x] rfl rfl (one_new _ _ _) (by intro u hu; simp at hu; subst hu; rfl) (by unfold maxLen; omega) (by omega) (by simp; omega) ?_; intro v' w3 hown3 hgrow _h4)
    have hbel : Below w.heap.size (w2.alloc (.cells #[.int .i64 x] 2)) w3 := (Below.refl _ _).grown hgrow (by simp; omega) (fun k hk => (hown2.lt k hk).1)
    have hs3 := (S3.alloc (.cells #[.int .i64 x] 2)).below' hbel hlt
    have ho3 := (N3.alloc _).then_below hbel
    have hown3' : w3.ownsRow w.heap.size 2 1 v' (ys ++ [x]).length ((ys ++ [x]).map (.int .i64)) := by simpa using hown3
    go_ret
    obtain ⟨a', c', rfl⟩ := own_row_shape hown3'
    exact ⟨a', c', ys ++ [x], _, rfl, by simp; omega, hown3', by intro y hy; simp at hy; rcases hy with hy | rfl; exact yw y hy; exact WalkArith.wf_i64 (by omega), hs3, by omega, ho3⟩
  · have q0b : (k == 0) = false := by simpa using q0
    clear q0
    by_cases q1 : k = 1
    · have q1b : (k == 1) = true := by simpa using q1
      clear q1
      have PZ : Hid ((madeCells (Value.int .i64 0).cells ((List.replicate 25 (0 : Int)).length * 1)).toList = part (List.replicate 25 0) 0) := part_zero (List.replicate 25 0)
      have PQ : Hid (part (List.replicate 25 0) 0 = (List.replicate 25 (0 : Int)).map (.int .i64)) := by show _ = _; unfold part; simp
      go_wp2_with (at_make; refine wpList_make_full _ rfl _ _ 24 rfl w.heap.size 2 i0 (.int .i64 0) 1 Tryd.underlying24 hi hz0 hz1 _ _ _ _ 25 rfl rfl rfl rfl (by rw [hz2]; omega) (by unfold maxLen; omega) (by omega) ?_; intro w1 hown hgrow)
      have hbel : Below u2.heap.size u2 w1 := (Below.refl _ _).grown hgrow (Nat.le_refl _) (by intro k hk; cases hk)
      have P1 := PZ.out
      rw [List.length_replicate] at P1
      rw [P1, PQ.out] at hown
      go_ret
      exact ⟨_, _, List.replicate 25 0, _, rfl, by simp, by simpa using hown, by intro y hy; rw [List.eq_of_mem_replicate hy]; rfl, S2.below hbel, by omega, N2.trans (.of_below hbel)⟩
    · have q1b : (k == 1) = false := by simpa using q1
      clear q1
      go_wp2
      go_ret
      exact ⟨a1, c1, ys, _, rfl, by omega, O2, yw, S2, by omega, N2⟩

theorem drawRootOf_any (w : World) (a : Option Addr) (len cap : Nat) (zs : List Int) (h : Has w .u8 a len zs) (hl : len ≤ 1048576) :
    Calls Tryd.prog 27 #[.slice a len cap] w fun e w' => ∃ (a' : Option Addr) (c' : Nat) (ys : List Int), e = .returned (.slice a' ys.length c') ∧ ys.length ≤ 25 ∧ ys.length ≤ c' ∧ c' ≤ maxLen ∧ Has w' .i64 a' ys.length ys ∧ Below w.heap.size w w' := by
  go_enter Tryd.func27, Tryd.ntmps27
  go_wp2_with fail
  refine (source_any _ a len cap zs h hl).mono ?_
  rintro e u1 ⟨rfl, S1, hb1, hz1⟩
  go_wp2_with fail
  refine (l4Bent_any _ _ _ a len cap zs 0 S1 (by omega)).mono ?_
  rintro e u2 ⟨a2, c2, ys, t2, rfl, hyl, O2, yw, S2, _, Y2⟩
  go_wp2
  go_ret
  have hc : ys.length ≤ c2 ∧ c2 ≤ maxLen := by
    rcases O2.2 with ⟨e1, e2⟩ | ⟨_, _, _, e1, _, _, h1, h2, _⟩
    · simp at e1; rw [e1.2.2, e2]; exact ⟨Nat.le_refl _, by unfold maxLen; omega⟩
    · simp at e1; rw [e1.2]; exact ⟨h1, h2⟩
  exact ⟨a2, c2, ys, rfl, hyl, hc.1, hc.2, has_of_own O2 yw, after_source hb1 Y2⟩

theorem drawSplitOf_any (w : World) (a : Option Addr) (len cap : Nat) (zs : List Int) (h : Has w .u8 a len zs) (hl : len ≤ 1048576) :
    Calls Tryd.prog 28 #[.slice a len cap] w fun e w' => ∃ x, e = .returned (.int .i64 x) ∧ 1 ≤ x ∧ x ≤ 25 ∧ Below w.heap.size w w' := by
  go_enter Tryd.func28, Tryd.ntmps28
  go_wp2_with fail
  refine (source_any _ a len cap zs h hl).mono ?_
  rintro e u1 ⟨rfl, S1, hb1, hz1⟩
  have PH : Hid (∀ i, i < [2, 3, 4, 5, 17, 24, 25, 1].length → (u1.alloc (.cells #[.int .i64 2, .int .i64 3, .int .i64 4, .int .i64 5, .int .i64 17, .int .i64 24, .int .i64 25, .int .i64 1] 2)).cell? ⟨u1.heap.size, i, none⟩ = some (.int .i64 ([2, 3, 4, 5, 17, 24, 25, 1].getD i 0))) := cells_lit u1 [2, 3, 4, 5, 17, 24, 25, 1] 2 _ rfl
  go_wp2_with fail
  refine (pick_any _ _ _ a len cap zs 0 (S1.alloc _) (by omega) u1.heap.size [2, 3, 4, 5, 17, 24, 25, 1] 8 rfl (by simp) (by omega) (by omega) (by omega) 8 PH.out).mono ?_
  rintro e u2 ⟨x, rfl, hp, S2, Y2⟩
  have hp' : 1 ≤ x ∧ x ≤ 25 := by simp at hp; omega
  go_wp2
  go_ret
  exact ⟨x, rfl, hp'.1, hp'.2, after_source hb1 (((Only.refl _ u1).alloc _).trans Y2)⟩

end Go.Proofs.YtkjhcblfkpknlaaDoor
