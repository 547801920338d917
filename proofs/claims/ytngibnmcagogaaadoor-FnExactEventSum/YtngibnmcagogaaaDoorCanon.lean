/- Contracts: BitsOf and CanonOf of the program and of the model. -/
import Derived.Test.YtngibnmcagogaaaDoorJoin
namespace Go.Proofs.YtngibnmcagogaaaDoor
open Go.ChangeShapes Go.WideShapes Go.ChangeAt Go.RowKit
set_option maxRecDepth 100000
set_option linter.unusedVariables false
set_option linter.unusedSimpArgs false

def valOf (k : Int) (m : Bool) (e t : Int) : Int := if faultOf k m e t = 0 then joinOf k m e t else 0

set_option maxHeartbeats 1000000 in
theorem bits_impl (k : Int) (m : Bool) (e t : Int) (w : World) :
    Calls Tryd.prog 97 #[.agg #[.int .i64 k, .bool m, .int .i64 e, .int .i64 t]] w fun r w' => r = .returned (.agg #[.int .i64 (faultOf k m e t), .int .i64 (valOf k m e t)]) ∧ Below w.heap.size w w' := by
  by_cases h : faultOf k m e t = 0
  · have hv : valOf k m e t = joinOf k m e t := by unfold valOf; rw [if_pos h]
    have hb := body_bd h
    rw [hv, h]
    unfold joinOf
    have e1 := or_hi hb.1 (by omega)
    have e2 : wrap64 (bodyOf k e t + 9223372036854775808) = bodyOf k e t - 9223372036854775808 := by unfold wrap64; omega
    have e3 : IntKind.i64.wrap (bodyOf k e t + 9223372036854775808) = bodyOf k e t - 9223372036854775808 := by rw [IntKind.wrap_i64]; omega
    have H : Hid (faultOf k m e t = 0) := h
    have H1 : Hid (0 ≤ bodyOf k e t ∧ bodyOf k e t ≤ 9223372036854775807) := hb
    cases m
    all_goals
      clear hv
      go_enter Tryd.func97, Tryd.ntmps97
      go_wp2_with (first | (go_at_call 101; refine (fault_impl _ _ _ _ _).mono ?_; rintro r w1 ⟨rfl, hb1⟩; obtain ⟨hc1, hf1⟩ := bcell hb1; have hz1 := hb1.size; simp at hz1) | (go_at_call 102; refine (body_impl _ _ _ _ _ H.out).mono ?_; rintro r w2 ⟨rfl, hb2⟩; have hB := hb1.trans (hb2.mono hb1.size); obtain ⟨hc2, hf2⟩ := bcell hB; have hz2 := hB.size; simp at hz2))
      refine bodyPost_ret (v := .agg #[.int .i64 0, _]) (by simp [results, Tryd.results97, go_sem, hc2]) rfl ⟨rfl, ?_⟩
      exact (((((Below.refl _ _).alloc (Nat.le_refl _) _).alloc (by simp) _).trans (hB.mono (by simp; omega))).setCell (by simp) _).setCell (by simp) _
  · have hv : valOf k m e t = 0 := by unfold valOf; rw [if_neg h]
    have h' : (faultOf k m e t == 0) = false := by simpa using h
    have h2 : (faultOf k m e t != 0) = true := by simpa using h
    rw [hv]
    clear hv h
    go_enter Tryd.func97, Tryd.ntmps97
    go_wp2_with (go_at_call 101; refine (fault_impl _ _ _ _ _).mono ?_; rintro r w1 ⟨rfl, hb1⟩; obtain ⟨hc1, hf1⟩ := bcell hb1; have hz1 := hb1.size; simp at hz1)
    refine bodyPost_ret (v := .agg #[.int .i64 (faultOf k m e t), .int .i64 0]) (by simp [results, Tryd.results97, go_sem, hc1]) rfl ⟨rfl, ?_⟩
    exact (((((Below.refl _ _).alloc (Nat.le_refl _) _).alloc (by simp) _).trans (hb1.mono (by simp; omega))).setCell (by simp) _).setCell (by simp) _

theorem val_parts {x : Int} (h0 : -9223372036854775808 ≤ x) (h1 : x ≤ 9223372036854775807) : valOf (kd x) (mn x) (ex x) (mt x) = canon x := by
  unfold valOf; rw [if_pos (fault_parts h0 h1), join_parts h0 h1]

theorem fld_code (x y : Int) (w : World) : (Instr.field 37 (.agg #[.int .i64 x, .int .i64 y]) 0).run Tryd.prog w = .ok (.int .i64 x) w := by kernel_rfl
theorem fld_int (x y : Int) (w : World) : (Instr.field 37 (.agg #[.int .i64 x, .int .i64 y]) 1).run Tryd.prog w = .ok (.int .i64 y) w := by kernel_rfl
set_option maxHeartbeats 1000000 in
theorem canon_impl (x : Int) (w : World) (h0 : -9223372036854775808 ≤ x) (h1 : x ≤ 9223372036854775807) :
    Calls Tryd.prog 88 #[.int .i64 x] w fun r w' => r = .returned (.int .i64 (canon x)) ∧ Below w.heap.size w w' := by
  have hv := val_parts h0 h1
  have hfl := fld_int
  go_enter Tryd.func88, Tryd.ntmps88
  go_wp2_with (first | (go_at_call 98; refine (parts_impl _ _ h0 h1).mono ?_; rintro r w1 ⟨rfl, hb1⟩) | (go_at_call 97; refine (bits_impl _ _ _ _ _).mono ?_; rintro r w2 ⟨rfl, hb2⟩))
  go_ret
  exact ⟨rfl, hb1.trans (hb2.mono hb1.size)⟩

set_option maxHeartbeats 1000000 in
theorem canon_spec1 (x : Int) (w : World) (h0 : -9223372036854775808 ≤ x) (h1 : x ≤ 9223372036854775807) :
    Calls Tryd.prog 92 #[.int .i64 x] w fun r w' => r = .returned (.int .i64 (canon x)) ∧ Below w.heap.size w w' := by
  have hf := fault_parts h0 h1
  have hj := join_parts h0 h1
  have H : Hid (faultOf (kd x) (mn x) (ex x) (mt x) = 0) := hf
  clear hf
  go_enter Tryd.func92, Tryd.ntmps92
  go_wp2_with (first | (go_at_call 99; refine (parts_spec _ _ h0 h1).mono ?_; rintro r w1 ⟨rfl, hb1⟩) | (go_at_call 100; refine (join_ptr (kd x) (mn x) (ex x) (mt x) _ _ _ H.out (cells4 _).1 (cells4 _).2.1 (cells4 _).2.2.1 (cells4 _).2.2.2).mono ?_; rintro r w2 ⟨rfl, n, rfl⟩))
  go_ret
  exact ⟨rfl, below_drewN (hb1.trans ((Below.refl _ _).alloc hb1.size _)) _⟩

end Go.Proofs.YtngibnmcagogaaaDoor
