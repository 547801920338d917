/- Contracts of the laws' own functions over results of numbers: held against each other, marked, still there. -/
import Derived.Test.YtlmjppglaolccaaDoorMark
import Derived.Test.YtlmjppglaolccaaDoorMarkR
import Derived.Test.YtlmjppglaolccaaDoorInts
namespace Go.Proofs.YtlmjppglaolccaaDoor
open Go.ChangeShapes Go.WideShapes Go.ChangeAt Go.RowKit
set_option linter.unusedVariables false
set_option linter.unusedSimpArgs false

/-- Numbers of a block below B. -/
def HasJ (B : Nat) (w : World) (a : Option Addr) (zs : List Int) : Prop :=
  (∀ n ∈ zs, (Lit.int .i64 n).wf = true) ∧ (zs.length = 0 ∨ ∃ b off, a = some ⟨b, off, none⟩ ∧ b < B ∧ ∀ i, i < zs.length → w.cell? ⟨b, off + i, none⟩ = some (.int .i64 (zs.getD i 0)))
theorem HasJ.of {w : World} {a : Option Addr} {zs : List Int} (h : Has w .i64 a zs.length zs) : HasJ w.heap.size w a zs := ⟨h.2.1, h.2.2⟩
theorem HasJ.below {B : Nat} {w w' : World} {a : Option Addr} {zs : List Int} (h : HasJ B w a zs) (hb : Below B w w') : HasJ B w' a zs := by
  refine ⟨h.1, h.2.imp id ?_⟩
  rintro ⟨b, off, ha, hlt, hc⟩
  exact ⟨b, off, ha, hlt, fun i hi => (hb.cell (p := ⟨b, off + i, none⟩) hlt).trans (hc i hi)⟩
theorem HasJ.has {B : Nat} {w : World} {a : Option Addr} {zs : List Int} (h : HasJ B w a zs) (hB : B ≤ w.heap.size) : Has w .i64 a zs.length zs := by
  refine ⟨rfl, h.1, h.2.imp id ?_⟩
  rintro ⟨b, off, ha, hlt, hc⟩
  exact ⟨b, off, ha, by omega, hc⟩

/-- The numbers that are marked from k on. -/
def markN (k : Int) (n : Nat) : List Int := (List.range n).map fun (i : Nat) => (k + (i : Int)) 
theorem markN_len (k : Int) (n : Nat) : (markN k n).length = n := by simp [markN]
theorem markN_wf (k : Int) (n : Nat) (h0 : 0 ≤ k) (h1 : k ≤ 2097152) (hn : n ≤ 2097152) : ∀ x ∈ markN k n, (Lit.int .i64 x).wf = true := by
  intro x hx
  simp [markN] at hx
  obtain ⟨i, _, rfl⟩ := hx
  exact WalkArith.wf_i64 (by omega)
theorem markN_get (k : Int) (n i : Nat) (h : i < n) : (markN k n).getD i 0 = (k + (i : Int))  := by
  simp [markN, List.getD, List.getElem?_map, h]
def markQ (k : Int) (zs : List Int) (j : Nat) : List Value := (markN k j ++ zs.drop j).map (.int .i64)
theorem markQ_zero (k : Int) (zs : List Int) : markQ k zs 0 = zs.map (.int .i64) := by simp [markQ, markN]
theorem markQ_all (k : Int) (zs : List Int) : markQ k zs zs.length = (markN k zs.length).map (.int .i64) := by simp [markQ]
theorem markQ_set (k : Int) (zs : List Int) (j : Nat) (h : j < zs.length) : (markQ k zs j).set j (.int .i64 ((k + (j : Int)) )) = markQ k zs (j + 1) := by
  unfold markQ
  rw [← List.map_set, List.set_append_right _ _ (by rw [markN_len]; omega), markN_len, Nat.sub_self, List.drop_eq_getElem_cons h, List.set_cons_zero]
  have e : markN k (j + 1) = markN k j ++ [(k + (j : Int)) ] := by simp [markN, List.range_succ]
  rw [e, List.append_assoc]
  rfl
theorem markQ_cell (k : Int) (zs : List Int) (j : Nat) (h : j < zs.length) : (markQ k zs j)[j]? = some (.int .i64 zs[j]) := by
  unfold markQ
  rw [List.getElem?_map, List.getElem?_append_right (by rw [markN_len]; omega), markN_len, Nat.sub_self, List.drop_eq_getElem_cons h]
  rfl

set_option maxHeartbeats 1000000 in
theorem markInt64S_any (base : Nat) (a : Option Addr) (c : Nat) (k : Int) (zs : List Int) (w : World) (hown : w.ownsRow base 2 1 (.slice a zs.length c) zs.length (zs.map (.int .i64))) (hl : zs.length ≤ 2097152) (k0 : 0 ≤ k) (k1 : k ≤ 2097152) :
    Calls Tryd.prog 25 #[.slice a zs.length c, .int .i64 k] w fun r w' => r = .returned (.int .i64 (k + zs.length)) ∧ w'.ownsRow base 2 1 (.slice a zs.length c) zs.length ((markN k zs.length).map (.int .i64)) ∧ Mk a w w' := by
  have hpz := markQ_zero k zs
  have hpa := markQ_all k zs
  have PZ : Hid (_) := hpz
  have PA : Hid (_) := hpa
  clear hpz hpa
  rcases hown.2 with ⟨e, h0⟩ | ⟨g, cap, cur, e, _⟩
  · obtain rfl : zs = [] := List.eq_nil_of_length_eq_zero h0
    simp at e
    obtain ⟨rfl, rfl⟩ := e
    have hown' := hown
    rw [← PZ.out] at hown'
    simp only [List.length_nil] at *
    have PA' := PA.out
    have HO : Hid (_) := hown'
    clear hown hown'
    go_enter Tryd.func25, Tryd.ntmps25
    go_wp2
    refine wp_loop_rounds 1 ?_
    rw [rounds_succ]
    go_wp2
    go_ret
    refine ⟨ret_int (by simp), ?_, Mk.refl _ _⟩
    exact ⟨by simp [markN], .inl ⟨rfl, rfl⟩⟩
  · simp at e
    obtain ⟨rfl, rfl⟩ := e
    rw [← PZ.out] at hown
    go_enter Tryd.func25, Tryd.ntmps25
    go_wp2
    go_loopw [1, 5] (fun kk i wr => ∃ j : Nat, j ≤ zs.length ∧ i = .int .i64 j ∧ kk = .int .i64 (k + j) ∧ wr.ownsRow base 2 1 (.slice (some ⟨g, 0, none⟩) zs.length c) zs.length (markQ k zs j) ∧ Mk (some ⟨g, 0, none⟩) w wr) (fun _ i _ => zs.length - (intOf i).toNat)
    case atStart => exact ⟨0, Nat.zero_le _, rfl, by simp, hown, Mk.refl _ _⟩
    case round =>
      clear hown
      obtain ⟨j, hj, rfl, rfl, hown, hmk⟩ := hrel
      by_cases hlt : j < zs.length
      · have hlt' : (j : Int) < (zs.length : Int) := by omega
        have hy : wr.cell? ⟨g, j, none⟩ = some (.int .i64 zs[j]) := (hown.cellAt j (by omega)).trans (markQ_cell k zs j hlt)
        have hf := hown.frozenAt j
        have hst := hown.stored j (.int .i64 ((k + (j : Int)) ))
        rw [markQ_set k zs j hlt] at hst
        have HST : Hid (_ ∧ _) := hst
        clear hst hown
        go_wp2
        go_roundw
        case rel => exact ⟨j + 1, by omega, by go_num, by go_num, HST.out.1, hmk.store _⟩
        case measure => simp [intOf]; omega
      · have hjj : j = zs.length := by omega
        have HK : Hid (j = zs.length) := hjj
        clear hjj
        go_wp2
        go_ret
        refine ⟨ret_int (by rw [HK.out]), ?_, hmk⟩
        rw [HK.out, PA.out] at hown
        exact hown

set_option maxHeartbeats 1000000 in
theorem heldInt64S_any (a : Option Addr) (c : Nat) (k : Int) (n : Nat) (w : World) (h : Has w .i64 a (markN k n).length (markN k n)) (hl : n ≤ 2097152) (k0 : 0 ≤ k) (k1 : k ≤ 2097152) :
    Calls Tryd.prog 53 #[.slice a n c, .int .i64 k] w fun r w' => r = .returned (.int .i64 (k + n)) ∧ Below w.heap.size w w' := by
  have hc := h.2.2
  rw [markN_len] at hc
  rcases hc with h0 | ⟨b, off, rfl, hb, hcell⟩
  · subst h0
    go_enter Tryd.func53, Tryd.ntmps53
    go_wp2
    refine wp_loop_rounds 1 ?_
    rw [rounds_succ]
    go_wp2
    go_ret
    exact ⟨ret_int (by simp), Below.refl _ _⟩
  · clear h
    go_enter Tryd.func53, Tryd.ntmps53
    go_wp2
    go_loopw [1, 5] (fun kk i wr => ∃ j m : Nat, j ≤ n ∧ i = .int .i64 j ∧ kk = .int .i64 (k + j) ∧ wr = w.drewN m) (fun _ i _ => n - (intOf i).toNat)
    case atStart => exact ⟨0, 0, Nat.zero_le _, rfl, by simp, rfl⟩
    case round =>
      obtain ⟨j, m, hj, rfl, rfl, rfl⟩ := hrel
      by_cases hlt : j < n
      · have hlt' : (j : Int) < (n : Int) := by omega
        have e1 : w.cell? ⟨b, off + j, none⟩ = some (.int .i64 ((k + (j : Int)) )) := by rw [hcell j hlt, markN_get k n j hlt]
        have e3 : ((k + (j : Int))  != (k + (j : Int)) ) = false := by simp
        clear hcell
        go_wp2
        try go_quiet (fail)
        go_wp2
        go_roundw
        case rel => exact ⟨j + 1, _, by omega, by go_num, by go_num, rfl⟩
        case measure => simp [intOf]; omega
      · have hjj : j = n := by omega
        subst hjj
        go_wp2
        go_ret
        exact ⟨rfl, below_drewN (Below.refl _ _) _⟩

set_option maxHeartbeats 1000000 in
theorem eqIntsR_any (cd : Int) (a b : Option Addr) (ca cb : Nat) (zs : List Int) (w : World) (ha : Has w .i64 a zs.length zs) (hb : Has w .i64 b zs.length zs) (hl : zs.length ≤ 1048576) :
    Calls Tryd.prog 23 #[.agg #[.int .i64 cd, .slice a zs.length ca], .agg #[.int .i64 cd, .slice b zs.length cb]] w fun r w' => r = .returned (.bool true) ∧ Below w.heap.size w w' := by
  have hcc : (cd != cd) = false := by simp
  have A := (ha.alloc (.cells #[.int .i64 cd, .slice a zs.length ca] 28)).alloc (.cells #[.int .i64 cd, .slice b zs.length cb] 28)
  have B := (hb.alloc (.cells #[.int .i64 cd, .slice a zs.length ca] 28)).alloc (.cells #[.int .i64 cd, .slice b zs.length cb] 28)
  go_enter Tryd.func23, Tryd.ntmps23
  go_wp2_with (go_at_call 24; refine (eqInts_any a b ca cb zs _ A B hl).mono ?_; rintro r u1 ⟨rfl, hb1⟩)
  go_ret
  exact ⟨rfl, (((Below.refl _ _).alloc (Nat.le_refl _) _).alloc (by simp) _).trans (hb1.mono (by simp; omega))⟩

set_option maxHeartbeats 1000000 in
theorem markIntsR_any (base : Nat) (cd : Int) (a : Option Addr) (c : Nat) (zs : List Int) (w : World) (hown : w.ownsRow base 2 1 (.slice a zs.length c) zs.length (zs.map (.int .i64))) (hl : zs.length ≤ 2097152) :
    Calls Tryd.prog 26 #[.agg #[.int .i64 cd, .slice a zs.length c], .int .i64 1] w fun r w' => r = .returned (.int .i64 (1 + zs.length)) ∧ w'.ownsRow base 2 1 (.slice a zs.length c) zs.length ((markN 1 zs.length).map (.int .i64)) ∧ Mk a (w.alloc (.cells #[.int .i64 cd, .slice a zs.length c] 28)) w' := by
  go_enter Tryd.func26, Tryd.ntmps26
  go_wp2_with (go_at_call 25; refine (markInt64S_any base a c 1 zs _ (own_below hown ((Below.refl _ _).alloc (Nat.le_refl _) _)) hl (by omega) (by omega)).mono ?_; rintro r u1 ⟨rfl, ho1, hm1⟩)
  go_ret
  exact ⟨rfl, ho1, hm1⟩

set_option maxHeartbeats 1000000 in
theorem heldIntsR_any (cd : Int) (a : Option Addr) (c : Nat) (n : Nat) (w : World) (h : Has w .i64 a (markN 1 n).length (markN 1 n)) (hl : n ≤ 2097152) :
    Calls Tryd.prog 27 #[.agg #[.int .i64 cd, .slice a n c], .int .i64 1] w fun r w' => r = .returned (.int .i64 (1 + n)) ∧ Below w.heap.size w w' := by
  have hn : ¬ (1 + (n : Int)) < 0 := by omega
  have hn' : (0 : Int) ≤ 1 + (n : Int) := by omega
  go_enter Tryd.func27, Tryd.ntmps27
  go_wp2_with (go_at_call 53; refine (heldInt64S_any a c 1 n _ (h.alloc _) hl (by omega) (by omega)).mono ?_; rintro r u1 ⟨rfl, hb1⟩)
  go_ret
  exact ⟨rfl, ((Below.refl _ _).alloc (Nat.le_refl _) _).trans (hb1.mono (by simp))⟩

end Go.Proofs.YtlmjppglaolccaaDoor
