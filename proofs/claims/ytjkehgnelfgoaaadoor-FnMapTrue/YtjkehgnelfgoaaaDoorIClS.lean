/- Contracts of the program's chapter 7: a slot climbed. -/
import Derived.Test.YtjkehgnelfgoaaaDoorIRt
namespace Go.Proofs.YtjkehgnelfgoaaaDoor
open Go.ChangeShapes Go.WideShapes Go.ChangeAt Go.RowKit
set_option linter.unusedVariables false
set_option linter.unusedSimpArgs false

set_option maxHeartbeats 2000000 in
theorem climbFault_any (k v : Int) (t : Bool) (a : Option Addr) (c : Nat) (p : List Int) (w : World) (h : Has w .i64 a p.length p) (hl : p.length ≤ 1048576) :
    Calls Tryd.prog 46 #[.int .i64 k, .bool t, .int .i64 v, .slice a p.length c] w fun r w' => r = .returned (.int .i64 (clF k t v p)) ∧ w' = w := by
  have MK := isMapKey_any k w
  have IS := isSum_any v w
  have rest : slotOk k t v → Hid (clF k t v p = if p.length = 6 then suF p else 8) := fun ok => by
    show _ = _
    by_cases h6 : p.length = 6
    · rw [if_pos h6, clF_all ok h6]; rfl
    · rw [if_neg h6, clF_len ok h6]
  have SU : Hid (Calls Tryd.prog 81 #[.slice a p.length c] w fun r w' => r = .returned (.int .i64 (suF p)) ∧ w' = w) := sumsFault_any a c p w h hl
  clear h
  refine clF_ways (k := k) (v := v) (t := t) _ (fun h1 => ?_) (fun h1 h2 h3 => ?_) (fun h1 h2 h3 => ?_) (fun h1 h2 h3 ok => ?_) (fun h1 h2 h3 ok => ?_)
  · rw [clF_key h1]
    rw [h1] at MK
    clear SU rest IS
    go_enter Tryd.func46, Tryd.ntmps46
    go_wp2_with (go_at_call 42; refine MK.mono ?_; rintro r u ⟨rfl, rfl⟩)
    go_ret
    exact ⟨rfl, rfl⟩
  · subst h2
    rw [clF_val h3]
    rw [h1] at MK
    rw [h3] at IS
    clear SU rest
    go_enter Tryd.func46, Tryd.ntmps46
    go_wp2_with (first | (go_at_call 42; refine MK.mono ?_; rintro r u ⟨rfl, rfl⟩) | (go_at_call 80; refine IS.mono ?_; rintro r u ⟨rfl, rfl⟩))
    go_ret
    exact ⟨rfl, rfl⟩
  · subst h2
    rw [clF_none h3]
    rw [h1] at MK
    have h3' : (v != 0) = true := by simpa using h3
    clear SU rest IS
    go_enter Tryd.func46, Tryd.ntmps46
    go_wp2_with (go_at_call 42; refine MK.mono ?_; rintro r u ⟨rfl, rfl⟩)
    go_ret
    exact ⟨rfl, rfl⟩
  · have R := rest ok
    subst h2
    rw [h1] at MK
    rw [h3] at IS
    clear rest ok
    by_cases h6 : p.length = 6
    · have RQ : Hid (clF k true v p = suF p) := by show _ = _; rw [R.out, if_pos h6]
      have h6' : ((p.length : Int) != 6) = false := by simp; omega
      clear R h6
      go_enter Tryd.func46, Tryd.ntmps46
      go_wp2_with (first | (go_at_call 42; refine MK.mono ?_; rintro r u ⟨rfl, rfl⟩) | (go_at_call 80; refine IS.mono ?_; rintro r u ⟨rfl, rfl⟩) | (go_at_call 81; refine SU.out.mono ?_; rintro r u ⟨rfl, rfl⟩))
      go_ret
      exact ⟨ret_int RQ.out.symm, rfl⟩
    · have RQ : Hid (clF k true v p = 8) := by show _ = _; rw [R.out, if_neg h6]
      have h6' : ((p.length : Int) != 6) = true := by simp; omega
      clear R SU h6
      go_enter Tryd.func46, Tryd.ntmps46
      go_wp2_with (first | (go_at_call 42; refine MK.mono ?_; rintro r u ⟨rfl, rfl⟩) | (go_at_call 80; refine IS.mono ?_; rintro r u ⟨rfl, rfl⟩))
      go_ret
      exact ⟨ret_int RQ.out.symm, rfl⟩
  · have R := rest ok
    subst h2
    subst h3
    rw [h1] at MK
    clear rest ok IS
    by_cases h6 : p.length = 6
    · have RQ : Hid (clF k false 0 p = suF p) := by show _ = _; rw [R.out, if_pos h6]
      have h6' : ((p.length : Int) != 6) = false := by simp; omega
      clear R h6
      go_enter Tryd.func46, Tryd.ntmps46
      go_wp2_with (first | (go_at_call 42; refine MK.mono ?_; rintro r u ⟨rfl, rfl⟩) | (go_at_call 81; refine SU.out.mono ?_; rintro r u ⟨rfl, rfl⟩))
      go_ret
      exact ⟨ret_int RQ.out.symm, rfl⟩
    · have RQ : Hid (clF k false 0 p = 8) := by show _ = _; rw [R.out, if_neg h6]
      have h6' : ((p.length : Int) != 6) = true := by simp; omega
      clear R SU h6
      go_enter Tryd.func46, Tryd.ntmps46
      go_wp2_with (go_at_call 42; refine MK.mono ?_; rintro r u ⟨rfl, rfl⟩)
      go_ret
      exact ⟨ret_int RQ.out.symm, rfl⟩

set_option maxHeartbeats 2000000 in
theorem riseBy_any (k v : Int) (t : Bool) (a : Option Addr) (n c : Nat) (w : World) (hT : Tab w) (hk : 0 ≤ k ∧ k ≤ 63) (hv : t = true → 0 ≤ v ∧ v ≤ 65520) :
    Calls Tryd.prog 47 #[.int .i64 k, .bool t, .int .i64 v, .slice a n c] w fun r w' => ∃ a' c', r = .returned (.agg #[.int .i64 k, .slice a' (lfB k t v).length c', .slice a n c]) ∧ OwnB w' w.heap.size a' c' (lfB k t v) ∧ Below w.heap.size w w' := by
  obtain ⟨E, hE⟩ : ∃ E, E = w.alloc (.cells #[.int .i64 0, .slice none 0 0, .slice none 0 0] 74) := ⟨_, rfl⟩
  have zE : E.heap.size = w.heap.size + 1 := by rw [hE]; simp
  have B0 : Below w.heap.size w E := by rw [hE]; exact (Below.refl _ _).alloc (Nat.le_refl _) _
  have RE : Blk E w.heap.size #[.int .i64 0, .slice none 0 0, .slice none 0 0] 74 := by rw [hE]; exact Blk.new _ _ _
  have LF := leafOf_any k v t E (hT.below B0 (Nat.le_refl _)) hk hv
  generalize lfB k t v = zs at *
  clear hT
  go_enter Tryd.func47, Tryd.ntmps47
  go_wp2_with fail
  simp only [← hE]
  clear hE
  refine LF.mono ?_
  rintro r u1 ⟨a', c', rfl, O1, hb1⟩
  have B1 := B0.trans (hb1.mono (by omega))
  have R1 := RE.below hb1 (by omega)
  have k0 : u1.cell? ⟨w.heap.size, 0, none⟩ = some (.int .i64 0) := (R1.cell 0).trans rfl
  have k1 : u1.cell? ⟨w.heap.size, 1, none⟩ = some (.slice none 0 0) := (R1.cell 1).trans rfl
  have k2 : u1.cell? ⟨w.heap.size, 2, none⟩ = some (.slice none 0 0) := (R1.cell 2).trans rfl
  have f0 := R1.frozen 0
  have f1 := R1.frozen 1
  have f2 := R1.frozen 2
  have OH : Hid (OwnB u1 E.heap.size a' c' zs) := O1
  clear R1 RE hb1 O1 LF
  go_wp2
  refine bodyPost_ret (v := .agg #[.int .i64 k, .slice a' zs.length c', .slice a n c]) (by simp [results, Tryd.results47, go_sem, k0, k1, k2]) rfl ⟨a', c', rfl, ?_, ?_⟩
  · exact own_mono (own_set (own_set (own_set OH.out (by omega) _) (by omega) _) (by omega) _) (by omega)
  · exact ((B1.setCell (Nat.le_refl _) _).setCell (Nat.le_refl _) _).setCell (Nat.le_refl _) _

set_option maxHeartbeats 2000000 in
theorem implClimbSlot_any (k v : Int) (t : Bool) (a : Option Addr) (c : Nat) (p : List Int) (w : World) (hT : Tab w) (h : Has w .i64 a p.length p) (hl : p.length ≤ 1048576) :
    Calls Tryd.prog 10 #[.int .i64 k, .bool t, .int .i64 v, .slice a p.length c] w fun r w' => r = .returned (.agg #[.int .i64 (clF k t v p), .int .i64 (clW k t v p)]) ∧ Below w.heap.size w w' := by
  obtain ⟨E, hE⟩ : ∃ E, E = w.alloc (.cells #[.int .i64 0, .int .i64 0] 34) := ⟨_, rfl⟩
  have zE : E.heap.size = w.heap.size + 1 := by rw [hE]; simp
  have B0 : Below w.heap.size w E := by rw [hE]; exact (Below.refl _ _).alloc (Nat.le_refl _) _
  have h' : Has E .i64 a p.length p := h.below B0 (Nat.le_refl _)
  have RE : Blk E w.heap.size #[.int .i64 0, .int .i64 0] 34 := by rw [hE]; exact Blk.new _ _ _
  have CF := climbFault_any k v t a c p E h' hl
  have k0 : E.cell? ⟨w.heap.size, 0, none⟩ = some (.int .i64 0) := (RE.cell 0).trans rfl
  have k1 : E.cell? ⟨w.heap.size, 1, none⟩ = some (.int .i64 0) := (RE.cell 1).trans rfl
  have f0 := RE.frozen 0
  have f1 := RE.frozen 1
  by_cases hc : clF k t v p = 0
  · obtain ⟨hk, hv, hn, h6, hall⟩ := clF_zero hc
    have HQ : Hid (clF k t v p = 0 ∧ clW k t v p = mpC k (sumL (lfB k t v)) p 6) := ⟨hc, by unfold clW; rw [if_pos hc]⟩
    have RB := riseBy_any k v t a p.length c E (hT.below B0 (Nat.le_refl _)) hk (fun _ => hv)
    have LW : Hid (∀ n ∈ lfB k t v, (Lit.int .u8 n).wf = true) := lfB_wf t hk hv
    have RT : Hid (∀ (u : World) (a1 : Option Addr) (c1 : Nat), Below w.heap.size w u → Has u .u8 a1 (lfB k t v).length (lfB k t v) → Calls Tryd.prog 48 #[.agg #[.int .i64 k, .slice a1 (lfB k t v).length c1, .slice a p.length c]] u fun r w' => r = .returned (.int .i64 (mpC k (sumL (lfB k t v)) p 6)) ∧ Below u.heap.size u w') := fun u a1 c1 hu h1 => root_of k a1 c1 (lfB k t v) a c p u (hT.below hu (Nat.le_refl _)) hk h1 (lfB_len k v t) (h.below hu (Nat.le_refl _)) h6 hall
    rw [hc] at CF
    clear hc hk hv hn h6 hall h h' hT k0 k1 f0 f1
    go_enter Tryd.func10, Tryd.ntmps10
    go_wp2_with fail
    simp only [← hE]
    clear hE
    refine CF.mono ?_
    rintro r u1 ⟨rfl, hu1⟩
    subst hu1
    go_wp2_with fail
    refine RB.mono ?_
    rintro r u2 ⟨a1, c1, rfl, O2, hb2⟩
    have z2 := hb2.size
    have R2 := RE.below hb2 (by omega)
    have B2 := B0.trans (hb2.mono (by omega))
    have RT2 := RT.out u2 a1 c1 B2 (has_of_own O2 LW.out)
    clear RE hb2 O2 RB RT LW CF
    go_wp2_with fail
    refine RT2.mono ?_
    rintro r u3 ⟨rfl, hb3⟩
    have R3 := R2.below hb3 (by omega)
    have B3 := B2.trans (hb3.mono (by omega))
    have k0 : u3.cell? ⟨w.heap.size, 0, none⟩ = some (.int .i64 0) := (R3.cell 0).trans rfl
    have k1 : u3.cell? ⟨w.heap.size, 1, none⟩ = some (.int .i64 0) := (R3.cell 1).trans rfl
    have f0 := R3.frozen 0
    have f1 := R3.frozen 1
    clear R2 R3 hb3 RT2
    go_wp2
    refine bodyPost_ret (v := .agg #[.int .i64 0, .int .i64 (mpC k (sumL (lfB k t v)) p 6)]) (by simp [results, Tryd.results10, go_sem, k0, k1]) rfl ⟨by rw [HQ.out.1, HQ.out.2], ?_⟩
    exact (B3.setCell (Nat.le_refl _) _).setCell (Nat.le_refl _) _
  · have hc' : (clF k t v p != 0) = true := by simpa using hc
    rw [clW_zero hc]
    generalize clF k t v p = cc at *
    clear h h' hT RE
    go_enter Tryd.func10, Tryd.ntmps10
    go_wp2_with fail
    simp only [← hE]
    clear hE
    refine CF.mono ?_
    rintro r u1 ⟨rfl, hu1⟩
    subst hu1
    go_wp2
    refine bodyPost_ret (v := .agg #[.int .i64 cc, .int .i64 0]) (by simp [results, Tryd.results10, go_sem, k0, k1]) rfl ⟨rfl, ?_⟩
    exact (B0.setCell (Nat.le_refl _) _).setCell (Nat.le_refl _) _

end Go.Proofs.YtjkehgnelfgoaaaDoor
