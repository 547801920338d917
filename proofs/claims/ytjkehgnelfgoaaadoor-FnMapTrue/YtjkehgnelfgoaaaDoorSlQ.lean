/- Contracts of chapter 7: the code of a climb (both sides); the model's climb, root, path and whether a slot is taken. -/
import Derived.Test.YtjkehgnelfgoaaaDoorSlP
import Derived.Test.YtjkehgnelfgoaaaDoorISums
namespace Go.Proofs.YtjkehgnelfgoaaaDoor
open Go.ChangeShapes Go.WideShapes Go.ChangeAt Go.RowKit
set_option linter.unusedVariables false
set_option linter.unusedSimpArgs false

/-- What a climb's code hangs on. -/
theorem clF_key {k v : Int} {t : Bool} {p : List Int} (h : decide (0 ≤ k ∧ k ≤ 63) = false) : clF k t v p = 3 := by
  unfold clF
  rw [if_pos]
  left
  simpa using h
theorem clF_val {k v : Int} {p : List Int} (h : decide (0 ≤ v ∧ v ≤ 65520) = false) : clF k true v p = 3 := by
  unfold clF
  rw [if_pos]
  right; left
  exact ⟨rfl, by simpa using h⟩
theorem clF_none {k v : Int} {p : List Int} (h : ¬ v = 0) : clF k false v p = 3 := by
  unfold clF
  rw [if_pos]
  right; right
  exact ⟨rfl, h⟩
/-- The slot of a climb is as it should be. -/
def slotOk (k : Int) (t : Bool) (v : Int) : Prop := (0 ≤ k ∧ k ≤ 63) ∧ (0 ≤ v ∧ v ≤ 65520) ∧ (t = false → v = 0)
theorem clF_len {k v : Int} {t : Bool} {p : List Int} (h : slotOk k t v) (hp : p.length ≠ 6) : clF k t v p = 8 := by
  obtain ⟨h1, h2, h3⟩ := h
  unfold clF
  rw [if_neg, if_pos hp]
  rintro (h | h | h)
  · exact h h1
  · exact h.2 h2
  · exact h.2 (h3 h.1)
theorem clF_all {k v : Int} {t : Bool} {p : List Int} (h : slotOk k t v) (hp : p.length = 6) : clF k t v p = if allS p = true then 0 else 3 := by
  obtain ⟨h1, h2, h3⟩ := h
  unfold clF
  rw [if_neg, if_neg (by omega)]
  rintro (h | h | h)
  · exact h h1
  · exact h.2 h2
  · exact h.2 (h3 h.1)
/-- What a climb comes to. -/
def clW (k : Int) (t : Bool) (v : Int) (p : List Int) : Int := if clF k t v p = 0 then mpC k (sumL (lfB k t v)) p 6 else 0
theorem clW_zero {k v : Int} {t : Bool} {p : List Int} (h : ¬ clF k t v p = 0) : clW k t v p = 0 := by unfold clW; rw [if_neg h]
theorem clW_bd (k : Int) (t : Bool) (v : Int) (p : List Int) : 0 ≤ clW k t v p ∧ clW k t v p ≤ 65520 := by
  unfold clW
  split
  · exact mpC_bd _ _ (sum_bd _) _
  · omega
theorem clF_ways {k v : Int} {t : Bool} (Q : Prop) (h1 : decide (0 ≤ k ∧ k ≤ 63) = false → Q) (h2 : decide (0 ≤ k ∧ k ≤ 63) = true → t = true → decide (0 ≤ v ∧ v ≤ 65520) = false → Q) (h3 : decide (0 ≤ k ∧ k ≤ 63) = true → t = false → ¬ v = 0 → Q) (h4 : decide (0 ≤ k ∧ k ≤ 63) = true → t = true → decide (0 ≤ v ∧ v ≤ 65520) = true → slotOk k t v → Q) (h5 : decide (0 ≤ k ∧ k ≤ 63) = true → t = false → v = 0 → slotOk k t v → Q) : Q := by
  by_cases hk : 0 ≤ k ∧ k ≤ 63
  · have hk' : decide (0 ≤ k ∧ k ≤ 63) = true := by simpa using hk
    cases t with
    | true =>
      by_cases hv : 0 ≤ v ∧ v ≤ 65520
      · exact h4 hk' rfl (by simpa using hv) ⟨hk, hv, by simp⟩
      · exact h2 hk' rfl (by simpa using hv)
    | false =>
      by_cases hv : v = 0
      · exact h5 hk' rfl hv ⟨hk, by omega, fun _ => hv⟩
      · exact h3 hk' rfl hv
  · exact h1 (by simpa using hk)

set_option maxRecDepth 100000 in
set_option maxHeartbeats 4000000 in
theorem specClimbSlot_any (k v : Int) (t : Bool) (a : Option Addr) (c : Nat) (p : List Int) (w : World) (h : Has w .i64 a p.length p) (hl : p.length ≤ 1048576) :
    Calls Tryd.prog 12 #[.int .i64 k, .bool t, .int .i64 v, .slice a p.length c] w fun r w' => r = .returned (.agg #[.int .i64 (clF k t v p), .int .i64 (clW k t v p)]) ∧ Below w.heap.size w w' := by
  have h0 := h.alloc (.cells #[.int .i64 0, .int .i64 0] 34)
  have bad : ∀ (cd : Int), clF k t v p = cd → cd ≠ 0 → clW k t v p = 0 := fun cd h1 h2 => clW_zero (by rw [h1]; exact h2)
  have B0 : Below w.heap.size w (w.alloc (.cells #[.int .i64 0, .int .i64 0] 34)) := (Below.refl _ _).alloc (Nat.le_refl _) _
  have rest : slotOk k t v → decide (0 ≤ k ∧ k ≤ 63) = true → (t = true ∧ decide (0 ≤ v ∧ v ≤ 65520) = true ∨ t = false ∧ v = 0) → Calls Tryd.prog 12 #[.int .i64 k, .bool t, .int .i64 v, .slice a p.length c] w fun r w' => r = .returned (.agg #[.int .i64 (clF k t v p), .int .i64 (clW k t v p)]) ∧ Below w.heap.size w w' := by
    intro hs hk ht
    have hs1 := hs.1
    have hs2 := hs.2.1
    by_cases h6 : p.length = 6
    · have h6' : ((p.length : Int) != 6) = false := by simp; omega
      have hal := clF_all hs h6
      cases hA : allS p with
      | false =>
        have e1 : clF k t v p = 3 := by rw [hal, hA]; rfl
        rw [e1, bad 3 e1 (by decide)]
        clear hal bad e1 hs h6
        rcases ht with ⟨rfl, d2⟩ | ⟨rfl, rfl⟩
        · go_enter Tryd.func12, Tryd.ntmps12
          go_wp2_with (first | (go_at_call 50; refine (l7Key_any k _).mono ?_; rintro r u ⟨rfl, rfl⟩; rw [hk]) | (go_at_call 51; refine (l2Is_any v _).mono ?_; rintro r u ⟨rfl, rfl⟩; rw [d2]) | (go_at_call 52; refine (l1All_any a c p _ h0 hl).mono ?_; rintro r u ⟨rfl, rfl⟩; rw [hA]))
          refine bodyPost_ret (v := .agg #[.int .i64 (3), .int .i64 (0)]) (by simp [results, Tryd.results12, go_sem]) rfl ⟨rfl, ?_⟩
          repeat (first | exact Below.refl _ _ | refine Below.alloc ?_ (by (try simp) <;> omega) _ | refine Below.setCell ?_ (by (try simp) <;> omega) _)
        · go_enter Tryd.func12, Tryd.ntmps12
          go_wp2_with (first | (go_at_call 50; refine (l7Key_any k _).mono ?_; rintro r u ⟨rfl, rfl⟩; rw [hk]) | (go_at_call 52; refine (l1All_any a c p _ h0 hl).mono ?_; rintro r u ⟨rfl, rfl⟩; rw [hA]))
          refine bodyPost_ret (v := .agg #[.int .i64 (3), .int .i64 (0)]) (by simp [results, Tryd.results12, go_sem]) rfl ⟨rfl, ?_⟩
          repeat (first | exact Below.refl _ _ | refine Below.alloc ?_ (by (try simp) <;> omega) _ | refine Below.setCell ?_ (by (try simp) <;> omega) _)
      | true =>
        have e1 : clF k t v p = 0 := by rw [hal, hA]; rfl
        have e2 : clW k t v p = mpC k (sumL (lfB k t v)) p 6 := by unfold clW; rw [if_pos e1]
        rw [e1, e2]
        have LB : Hid (∀ u : World, Calls Tryd.prog 55 #[.int .i64 k, .bool t, .int .i64 v] u fun r w' => ∃ a' c', r = .returned (.slice a' (lfB k t v).length c') ∧ OwnB w' u.heap.size a' c' (lfB k t v) ∧ Below u.heap.size u w') := fun u => l7Bytes_any k v t u hs1 hs2
        have LW : Hid (∀ n ∈ lfB k t v, (Lit.int .u8 n).wf = true) := lfB_wf t hs1 hs2
        have LL : (lfB k t v).length ≤ 4 := lfB_len k v t
        have SB := sum_bd (lfB k t v)
        have CL : Hid (∀ (x : Int) (u : World), Below w.heap.size w u → 0 ≤ x ∧ x ≤ 65520 → Calls Tryd.prog 53 #[.int .i64 k, .int .i64 x, .slice a p.length c] u fun r w' => r = .returned (.int .i64 (mpC k x p 6)) ∧ Below u.heap.size u w') := fun x u hu hx => by
          have := l7Climb_any a c p k x u (h.below hu (Nat.le_refl _)) (by omega) hA hs1.1 hs1.2 hx
          rw [h6] at this ⊢
          exact this
        clear hal bad e1 e2 hs h6
        generalize lfB k t v = zs at *
        have BN : ∀ u : World, Below (w.alloc (.cells #[.int .i64 0, .int .i64 0] 34)).heap.size (w.alloc (.cells #[.int .i64 0, .int .i64 0] 34)) u → Below w.heap.size w u := fun u hu => B0.trans (hu.mono (by simp))
        have BNH : Hid (_) := BN
        clear BN
        rcases ht with ⟨rfl, d2⟩ | ⟨rfl, rfl⟩
        · go_enter Tryd.func12, Tryd.ntmps12
          go_wp2_with (first | (go_at_call 50; refine (l7Key_any k _).mono ?_; rintro r u ⟨rfl, rfl⟩; rw [hk]) | (go_at_call 51; refine (l2Is_any v _).mono ?_; rintro r u ⟨rfl, rfl⟩; rw [d2]) | (go_at_call 52; refine (l1All_any a c p _ h0 hl).mono ?_; rintro r u ⟨rfl, rfl⟩; rw [hA]))
          refine (LB.out _).mono ?_
          rintro r u1 ⟨a1, c1, rfl, O1, hb1⟩
          go_wp2_with fail
          refine (l2Sum_any a1 c1 zs _ (has_of_own O1 LW.out) (by omega)).mono ?_
          rintro r u2 ⟨rfl, rfl⟩
          go_wp2_with fail
          refine (CL.out _ _ (BNH.out _ hb1) SB).mono ?_
          rintro r u3 ⟨rfl, hb3⟩
          have hB := hb1.trans (hb3.mono hb1.size)
          obtain ⟨k0, k1⟩ := var2 hB
          have f0 := (bcell hB).2 w.heap.size 0 (by simp)
          have f1 := (bcell hB).2 w.heap.size 1 (by simp)
          simp [go_sem] at f0 f1
          have B3 := BNH.out _ hB
          clear O1
          go_wp2
          refine bodyPost_ret (v := .agg #[.int .i64 (0), .int .i64 (mpC k (sumL zs) p 6)]) (by simp [results, Tryd.results12, go_sem, k0, k1]) rfl ⟨rfl, ?_⟩
          exact (B3.setCell (Nat.le_refl _) _).setCell (Nat.le_refl _) _
        · go_enter Tryd.func12, Tryd.ntmps12
          go_wp2_with (first | (go_at_call 50; refine (l7Key_any k _).mono ?_; rintro r u ⟨rfl, rfl⟩; rw [hk]) | (go_at_call 52; refine (l1All_any a c p _ h0 hl).mono ?_; rintro r u ⟨rfl, rfl⟩; rw [hA]))
          refine (LB.out _).mono ?_
          rintro r u1 ⟨a1, c1, rfl, O1, hb1⟩
          go_wp2_with fail
          refine (l2Sum_any a1 c1 zs _ (has_of_own O1 LW.out) (by omega)).mono ?_
          rintro r u2 ⟨rfl, rfl⟩
          go_wp2_with fail
          refine (CL.out _ _ (BNH.out _ hb1) SB).mono ?_
          rintro r u3 ⟨rfl, hb3⟩
          have hB := hb1.trans (hb3.mono hb1.size)
          obtain ⟨k0, k1⟩ := var2 hB
          have f0 := (bcell hB).2 w.heap.size 0 (by simp)
          have f1 := (bcell hB).2 w.heap.size 1 (by simp)
          simp [go_sem] at f0 f1
          have B3 := BNH.out _ hB
          clear O1
          go_wp2
          refine bodyPost_ret (v := .agg #[.int .i64 (0), .int .i64 (mpC k (sumL zs) p 6)]) (by simp [results, Tryd.results12, go_sem, k0, k1]) rfl ⟨rfl, ?_⟩
          exact (B3.setCell (Nat.le_refl _) _).setCell (Nat.le_refl _) _
    · have h6' : ((p.length : Int) != 6) = true := by simp; omega
      have e1 := clF_len hs h6
      rw [e1, bad 8 e1 (by decide)]
      clear bad e1 hs h6
      rcases ht with ⟨rfl, d2⟩ | ⟨rfl, rfl⟩
      · go_enter Tryd.func12, Tryd.ntmps12
        go_wp2_with (first | (go_at_call 50; refine (l7Key_any k _).mono ?_; rintro r u ⟨rfl, rfl⟩; rw [hk]) | (go_at_call 51; refine (l2Is_any v _).mono ?_; rintro r u ⟨rfl, rfl⟩; rw [d2]))
        refine bodyPost_ret (v := .agg #[.int .i64 (8), .int .i64 (0)]) (by simp [results, Tryd.results12, go_sem]) rfl ⟨rfl, ?_⟩
        repeat (first | exact Below.refl _ _ | refine Below.alloc ?_ (by (try simp) <;> omega) _ | refine Below.setCell ?_ (by (try simp) <;> omega) _)
      · go_enter Tryd.func12, Tryd.ntmps12
        go_wp2_with (first | (go_at_call 50; refine (l7Key_any k _).mono ?_; rintro r u ⟨rfl, rfl⟩; rw [hk]))
        refine bodyPost_ret (v := .agg #[.int .i64 (8), .int .i64 (0)]) (by simp [results, Tryd.results12, go_sem]) rfl ⟨rfl, ?_⟩
        repeat (first | exact Below.refl _ _ | refine Below.alloc ?_ (by (try simp) <;> omega) _ | refine Below.setCell ?_ (by (try simp) <;> omega) _)
  refine clF_ways (k := k) (v := v) (t := t) _ ?_ ?_ ?_ ?_ ?_
  · intro d1
    have e1 : clF k t v p = 3 := clF_key d1
    rw [e1, bad 3 e1 (by decide)]
    clear rest bad e1
    go_enter Tryd.func12, Tryd.ntmps12
    go_wp2_with (go_at_call 50; refine (l7Key_any k _).mono ?_; rintro r u ⟨rfl, rfl⟩; rw [d1])
    refine bodyPost_ret (v := .agg #[.int .i64 (3), .int .i64 (0)]) (by simp [results, Tryd.results12, go_sem]) rfl ⟨rfl, ?_⟩
    repeat (first | exact Below.refl _ _ | refine Below.alloc ?_ (by (try simp) <;> omega) _ | refine Below.setCell ?_ (by (try simp) <;> omega) _)
  · rintro d1 rfl d2
    have e1 : clF k true v p = 3 := clF_val d2
    rw [e1, bad 3 e1 (by decide)]
    clear rest bad e1
    go_enter Tryd.func12, Tryd.ntmps12
    go_wp2_with (first | (go_at_call 50; refine (l7Key_any k _).mono ?_; rintro r u ⟨rfl, rfl⟩; rw [d1]) | (go_at_call 51; refine (l2Is_any v _).mono ?_; rintro r u ⟨rfl, rfl⟩; rw [d2]))
    refine bodyPost_ret (v := .agg #[.int .i64 (3), .int .i64 (0)]) (by simp [results, Tryd.results12, go_sem]) rfl ⟨rfl, ?_⟩
    repeat (first | exact Below.refl _ _ | refine Below.alloc ?_ (by (try simp) <;> omega) _ | refine Below.setCell ?_ (by (try simp) <;> omega) _)
  · rintro d1 rfl d2
    have e1 : clF k false v p = 3 := clF_none d2
    rw [e1, bad 3 e1 (by decide)]
    have d2' : (v != 0) = true := by simpa using d2
    clear rest bad e1
    go_enter Tryd.func12, Tryd.ntmps12
    go_wp2_with (first | (go_at_call 50; refine (l7Key_any k _).mono ?_; rintro r u ⟨rfl, rfl⟩; rw [d1]))
    refine bodyPost_ret (v := .agg #[.int .i64 (3), .int .i64 (0)]) (by simp [results, Tryd.results12, go_sem]) rfl ⟨rfl, ?_⟩
    repeat (first | exact Below.refl _ _ | refine Below.alloc ?_ (by (try simp) <;> omega) _ | refine Below.setCell ?_ (by (try simp) <;> omega) _)
  · exact fun d1 h1 h2 h3 => rest h3 d1 (.inl ⟨h1, h2⟩)
  · exact fun d1 h1 h2 h3 => rest h3 d1 (.inr ⟨h1, h2⟩)

theorem specAcceptSlot_any (k v : Int) (t : Bool) (a : Option Addr) (c : Nat) (p : List Int) (root : Int) (w : World) (h : Has w .i64 a p.length p) (hl : p.length ≤ 1048576) :
    Calls Tryd.prog 14 #[.int .i64 k, .bool t, .int .i64 v, .slice a p.length c, .int .i64 root] w fun r w' => r = .returned (.bool (decide (clF k t v p = 0 ∧ clW k t v p = root))) ∧ Below w.heap.size w w' := by
  have CS : Hid (∀ u : World, Has u .i64 a p.length p → Calls Tryd.prog 12 #[.int .i64 k, .bool t, .int .i64 v, .slice a p.length c] u fun r w' => r = .returned (.agg #[.int .i64 (clF k t v p), .int .i64 (clW k t v p)]) ∧ Below u.heap.size u w') := fun u hu => specClimbSlot_any k v t a c p u hu hl
  generalize clF k t v p = cd at *
  generalize clW k t v p = x at *
  by_cases hc : cd = 0
  · have hc' : (cd == 0) = true := by simpa using hc
    have HC : Hid (cd = 0) := hc
    clear hc
    go_enter Tryd.func14, Tryd.ntmps14
    go_wp2_with fail
    refine (CS.out _ h).mono ?_
    rintro r u1 ⟨rfl, hb1⟩
    go_wp2
    go_ret
    exact ⟨ret_bool (by go_light; rw [Bool.eq_iff_iff]; simp [HC.out]), hb1.alloc hb1.size _⟩
  · have hc' : (cd == 0) = false := by simpa using hc
    have HC : Hid (¬ cd = 0) := hc
    clear hc
    go_enter Tryd.func14, Tryd.ntmps14
    go_wp2_with fail
    refine (CS.out _ h).mono ?_
    rintro r u1 ⟨rfl, hb1⟩
    go_wp2
    go_ret
    exact ⟨ret_bool (by simp [HC.out]), hb1.alloc hb1.size _⟩

/-- The codes and the values of a root, of a path. -/
def mrV (l : List Sl) : Int := if slF l = 0 then mpN l 6 0 else 0
def mpF (l : List Sl) (k : Int) : Int := if slF l = 0 then (if 0 ≤ k ∧ k ≤ 63 then 0 else 3) else slF l
def mpL (l : List Sl) (k : Int) : List Int := if slF l = 0 ∧ 0 ≤ k ∧ k ≤ 63 then mpP l k else []
theorem mpL_len (l : List Sl) (k : Int) : (mpL l k).length ≤ 6 := by unfold mpL; split; rw [mpP_len]; omega; simp
theorem mpL_wf (l : List Sl) (k : Int) : (mpL l k).length ≤ 1048576 ∧ ∀ n ∈ mpL l k, (Lit.int .i64 n).wf = true := by
  refine ⟨by have := mpL_len l k; omega, ?_⟩
  unfold mpL
  split
  · exact mpP_wf l k
  · simp
theorem nil_ownI (w : World) (base : Nat) : OwnI w base (.slice none 0 0) [] := ⟨rfl, .inl ⟨rfl, rfl⟩⟩

set_option maxHeartbeats 4000000 in
theorem specMapRoot_any (a : Option Addr) (c : Nat) (l : List Sl) (w : World) (h : HasS w a l) (hl : l.length ≤ 1048576) :
    Calls Tryd.prog 20 #[.slice a l.length c] w fun r w' => r = .returned (.agg #[.int .i64 (slF l), .int .i64 (mrV l)]) ∧ Below w.heap.size w w' := by
  have h0 := h.alloc (.cells #[.int .i64 0, .int .i64 0] 34)
  have B0 : Below w.heap.size w (w.alloc (.cells #[.int .i64 0, .int .i64 0] 34)) := (Below.refl _ _).alloc (Nat.le_refl _) _
  have LF : Hid (∀ u : World, HasS u a l → Calls Tryd.prog 56 #[.slice a l.length c] u fun r w' => r = .returned (.int .i64 (slF l)) ∧ Below u.heap.size u w') := fun u hu => l7Fault_any a c l u hu hl
  by_cases hc : slF l = 0
  · have e : mrV l = mpN l 6 0 := by unfold mrV; rw [if_pos hc]
    rw [e]
    have ok := (slF_zero hc).2.1
    have ND : Hid (∀ u : World, HasS u a l → Calls Tryd.prog 49 #[.slice a l.length c, .int .i64 0, .int .i64 64] u fun r w' => r = .returned (.int .i64 (mpN l 6 0)) ∧ Below u.heap.size u w') := fun u hu => l7Node_any a c l hl ok 6 0 64 u hu (by decide) (by decide) (by decide) (by decide)
    rw [hc] at LF ⊢
    generalize mpN l 6 0 = x at *
    clear hc e ok
    go_enter Tryd.func20, Tryd.ntmps20
    go_wp2_with fail
    refine (LF.out _ h0).mono ?_
    rintro r u1 ⟨rfl, hb1⟩
    have h1 := h0.below hb1 (Nat.le_refl _)
    go_wp2_with fail
    refine (ND.out _ h1).mono ?_
    rintro r u2 ⟨rfl, hb2⟩
    have hB := hb1.trans (hb2.mono hb1.size)
    obtain ⟨k0, k1⟩ := var2 hB
    have f0 := (bcell hB).2 w.heap.size 0 (by simp)
    have f1 := (bcell hB).2 w.heap.size 1 (by simp)
    simp [go_sem] at f0 f1
    have B3 := B0.trans (hB.mono (by simp))
    go_wp2
    refine bodyPost_ret (v := .agg #[.int .i64 (0), .int .i64 (x)]) (by simp [results, Tryd.results20, go_sem, k0, k1]) rfl ⟨rfl, ?_⟩
    exact (B3.setCell (Nat.le_refl _) _).setCell (Nat.le_refl _) _
  · have e : mrV l = 0 := by unfold mrV; rw [if_neg hc]
    rw [e]
    have hc' : (slF l != 0) = true := by simpa using hc
    generalize slF l = cc at *
    clear hc e
    go_enter Tryd.func20, Tryd.ntmps20
    go_wp2_with fail
    refine (LF.out _ h0).mono ?_
    rintro r u1 ⟨rfl, hb1⟩
    obtain ⟨k0, k1⟩ := var2 hb1
    have f0 := (bcell hb1).2 w.heap.size 0 (by simp)
    have f1 := (bcell hb1).2 w.heap.size 1 (by simp)
    simp [go_sem] at f0 f1
    have B3 := B0.trans (hb1.mono (by simp))
    go_wp2
    refine bodyPost_ret (v := .agg #[.int .i64 (cc), .int .i64 (0)]) (by simp [results, Tryd.results20, go_sem, k0, k1]) rfl ⟨rfl, ?_⟩
    exact (B3.setCell (Nat.le_refl _) _).setCell (Nat.le_refl _) _

set_option maxHeartbeats 4000000 in
theorem specMapPath_any (a : Option Addr) (c : Nat) (l : List Sl) (key : Int) (w : World) (h : HasS w a l) (hl : l.length ≤ 1048576) :
    Calls Tryd.prog 15 #[.slice a l.length c, .int .i64 key] w fun r w' => ∃ a1 c1, r = .returned (.agg #[.int .i64 (mpF l key), .slice a1 (mpL l key).length c1]) ∧ OwnI w' w.heap.size (.slice a1 (mpL l key).length c1) (mpL l key) ∧ Below w.heap.size w w' := by
  have h0 := h.alloc (.cells #[.int .i64 0, .slice none 0 0] 29)
  have B0 : Below w.heap.size w (w.alloc (.cells #[.int .i64 0, .slice none 0 0] 29)) := (Below.refl _ _).alloc (Nat.le_refl _) _
  have LF : Hid (∀ u : World, HasS u a l → Calls Tryd.prog 56 #[.slice a l.length c] u fun r w' => r = .returned (.int .i64 (slF l)) ∧ Below u.heap.size u w') := fun u hu => l7Fault_any a c l u hu hl
  by_cases hc : slF l = 0
  · have ok := (slF_zero hc).2.1
    by_cases hk : 0 ≤ key ∧ key ≤ 63
    · have d1 : decide (0 ≤ key ∧ key ≤ 63) = true := by simpa using hk
      have e1 : mpF l key = 0 := by unfold mpF; rw [if_pos hc, if_pos hk]
      have e2 : mpL l key = mpP l key := by unfold mpL; rw [if_pos ⟨hc, hk⟩]
      rw [e1, e2]
      have PT : Hid (∀ u : World, HasS u a l → Calls Tryd.prog 57 #[.slice a l.length c, .int .i64 key] u fun r w' => ∃ a' c', r = .returned (.slice a' (mpP l key).length c') ∧ OwnI w' u.heap.size (.slice a' (mpP l key).length c') (mpP l key) ∧ Below u.heap.size u w') := fun u hu => l7Path_any a c l key u hu hl ok hk.1 hk.2
      rw [hc] at LF
      generalize mpP l key = P at *
      clear hc e1 e2 ok hk
      go_enter Tryd.func15, Tryd.ntmps15
      go_wp2_with fail
      refine (LF.out _ h0).mono ?_
      rintro r u1 ⟨rfl, hb1⟩
      have h1 := h0.below hb1 (Nat.le_refl _)
      have z1 := hb1.size
      simp at z1
      go_wp2_with (go_at_call 50; refine (l7Key_any key _).mono ?_; rintro r u ⟨rfl, rfl⟩; rw [d1])
      refine (PT.out _ h1).mono ?_
      rintro r u2 ⟨a2, c2, rfl, O2, hb2⟩
      have hB := hb1.trans (hb2.mono hb1.size)
      obtain ⟨k0, k1⟩ := var2 hB
      have f0 := (bcell hB).2 w.heap.size 0 (by simp)
      have f1 := (bcell hB).2 w.heap.size 1 (by simp)
      simp [go_sem] at f0 f1
      have B3 := B0.trans (hB.mono (by simp))
      have O3 : Hid (OwnI u2 _ (.slice a2 P.length c2) P) := O2
      clear O2
      go_wp2
      refine bodyPost_ret (v := .agg #[.int .i64 0, .slice a2 P.length c2]) (by simp [results, Tryd.results15, go_sem, k0, k1]) rfl ⟨a2, c2, rfl, ?_, ?_⟩
      · exact own2_mono (own2_set (own2_set O3.out (by omega) _) (by omega) _) (by omega)
      · exact (B3.setCell (Nat.le_refl _) _).setCell (Nat.le_refl _) _
    · have d1 : decide (0 ≤ key ∧ key ≤ 63) = false := by simpa using hk
      have e1 : mpF l key = 3 := by unfold mpF; rw [if_pos hc, if_neg hk]
      have e2 : mpL l key = [] := by unfold mpL; rw [if_neg (fun e => hk e.2)]
      rw [e1, e2]
      rw [hc] at LF
      clear hc e1 e2 ok hk
      go_enter Tryd.func15, Tryd.ntmps15
      go_wp2_with fail
      refine (LF.out _ h0).mono ?_
      rintro r u1 ⟨rfl, hb1⟩
      obtain ⟨k0, k1⟩ := var2 hb1
      have f0 := (bcell hb1).2 w.heap.size 0 (by simp)
      have f1 := (bcell hb1).2 w.heap.size 1 (by simp)
      simp [go_sem] at f0 f1
      have B3 := B0.trans (hb1.mono (by simp))
      go_wp2_with (go_at_call 50; refine (l7Key_any key _).mono ?_; rintro r u ⟨rfl, rfl⟩; rw [d1])
      refine bodyPost_ret (v := .agg #[.int .i64 3, .slice none 0 0]) (by simp [results, Tryd.results15, go_sem, k0, k1]) rfl ⟨none, 0, rfl, nil_ownI _ _, ?_⟩
      exact (B3.setCell (Nat.le_refl _) _).setCell (Nat.le_refl _) _
  · have e1 : mpF l key = slF l := by unfold mpF; rw [if_neg hc]
    have e2 : mpL l key = [] := by unfold mpL; rw [if_neg (fun e => hc e.1)]
    rw [e1, e2]
    have hc' : (slF l != 0) = true := by simpa using hc
    generalize slF l = cc at *
    clear hc e1 e2
    go_enter Tryd.func15, Tryd.ntmps15
    go_wp2_with fail
    refine (LF.out _ h0).mono ?_
    rintro r u1 ⟨rfl, hb1⟩
    obtain ⟨k0, k1⟩ := var2 hb1
    have f0 := (bcell hb1).2 w.heap.size 0 (by simp)
    have f1 := (bcell hb1).2 w.heap.size 1 (by simp)
    simp [go_sem] at f0 f1
    have B3 := B0.trans (hb1.mono (by simp))
    go_wp2
    refine bodyPost_ret (v := .agg #[.int .i64 cc, .slice none 0 0]) (by simp [results, Tryd.results15, go_sem, k0, k1]) rfl ⟨none, 0, rfl, nil_ownI _ _, ?_⟩
    exact (B3.setCell (Nat.le_refl _) _).setCell (Nat.le_refl _) _

end Go.Proofs.YtjkehgnelfgoaaaDoor
