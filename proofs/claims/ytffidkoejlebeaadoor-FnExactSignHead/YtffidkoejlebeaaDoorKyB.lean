/- Contracts of the program's chapter 8: its iterator over the bits. -/
import Derived.Test.YtffidkoejlebeaaDoorLvl
import Derived.Test.YtffidkoejlebeaaDoorKyD
import Derived.ScopeJumps
import Derived.WalkMore
namespace Go.Proofs.YtffidkoejlebeaaDoor
open Go.ChangeShapes Go.WideShapes Go.ChangeAt Go.RowKit
set_option maxRecDepth 100000
set_option linter.unusedVariables false
set_option linter.unusedSimpArgs false

attribute [local go_sem] Oper.semAt_some

/-- A bit. -/
abbrev Bt := { k : Nat // k < 16 }
def encB (x : Bt) : Array Value := #[.int .i64 (x.1 : Int)]
/-- The first bits, in order. -/
def upB (k : Nat) (h : k ≤ 16) : List Bt := (List.range k).pmap (fun i hi => ⟨i, hi⟩) (fun i hi => by have := List.mem_range.1 hi; omega)
theorem upB_len (k : Nat) (h) : (upB k h).length = k := by simp [upB]
theorem upB_succ (k : Nat) (h : k < 16) : upB (k + 1) (by omega) = upB k (by omega) ++ [⟨k, h⟩] := by
  unfold upB
  simp [List.range_succ, List.pmap_append]
theorem upB_val (k : Nat) (h : k ≤ 16) : (upB k h).map (fun x => x.1) = List.range k := by
  unfold upB
  rw [List.map_pmap]
  simp

theorem jump_normal (l : Nat) (J : Act → World → Prop) (Q : Exit → Act → World → Prop) (a : Act) (w : World) : Exit.jump l J Q .normal a w = Q .normal a w := rfl

set_option maxHeartbeats 4000000 in
theorem bits1_in (n l : Nat) (J Jx : List Bt → World → Prop) (W : World)
    (hY : ∀ pre x W1, J pre W1 → pre.length < 16 → YieldAt Fence.wide (n - 1) Tryd.prog l (encB x) W1 fun e W' =>
      (e = .returned (.bool true) ∧ J (pre ++ [x]) W') ∨ (e = .returned (.bool false) ∧ Jx (pre ++ [x]) W'))
    (h0 : J [] W) :
    CallsIn Fence.wide n Tryd.prog 75 #[.func (.yield l) #[] #[]] W fun e W' => (∃ v, e = .returned v) ∧
      ((∃ ys, ys = upB 16 (Nat.le_refl _) ∧ J ys W') ∨ (∃ pre, True ∧ Jx pre W')) := by
  refine callsIn_of_wp Tryd.func75 rfl trivial ?_ rfl
  simp only [Tryd.ntmps75, List.size_toArray, List.length_cons, List.length_nil, Nat.reduceAdd, Nat.reduceSub, Array.replicate_succ, Array.replicate_zero, List.push_toArray, List.append_toArray, List.nil_append, List.cons_append]
  obtain ⟨JJ, hJJ⟩ : ∃ JJ : Act → World → Prop, JJ = fun a w => ∃ (k : Nat) (h : k ≤ 16) (t3 t4 t5 t6 t7 t8 t9 t10 t11 : Value), a = { tmps := #[.func (.yield l) #[] #[], undef, .int .i64 k, t3, t4, t5, t6, t7, t8, t9, t10, t11], defers := [] } ∧ J (upB k h) w := ⟨_, rfl⟩
  have HJ : Hid (∀ a w, JJ a w = ∃ (k : Nat) (h : k ≤ 16) (t3 t4 t5 t6 t7 t8 t9 t10 t11 : Value), a = { tmps := #[.func (.yield l) #[] #[], undef, .int .i64 k, t3, t4, t5, t6, t7, t8, t9, t10, t11], defers := [] } ∧ J (upB k h) w) := fun a w => by rw [hJJ]
  clear hJJ
  have JI : Hid (∀ (k : Nat) (h : k ≤ 16) (t3 t4 t5 t6 t7 t8 t9 t10 t11 : Value) (w : World), J (upB k h) w → JJ { tmps := #[.func (.yield l) #[] #[], undef, .int .i64 k, t3, t4, t5, t6, t7, t8, t9, t10, t11], defers := [] } w) := fun k h t3 t4 t5 t6 t7 t8 t9 t10 t11 w hw => by rw [HJ.out]; exact ⟨k, h, t3, t4, t5, t6, t7, t8, t9, t10, t11, rfl, hw⟩
  refine wpIn_wide.2 (wp_scope_jumps 0 JJ (fun a _ => 16 - (intOf (a.tmps.getD 2 undef)).toNat) rfl ?first ?pass)
  case pass =>
    intro a w hj
    rw [HJ.out] at hj
    obtain ⟨k, hk, t3, t4, t5, t6, t7, t8, t9, t10, t11, rfl, hJ⟩ := hj
    clear HJ
    refine (wpIn_wide (n := n)).1 ?_
    by_cases hlt : k < 16
    · have hlt' : (k : Int) < 16 := by omega
      obtain ⟨fn, tmps, assign, body, hy, hR⟩ := hY (upB k hk) ⟨k, hlt⟩ w hJ (by rw [upB_len]; omega)
      have he : encB ⟨k, hlt⟩ = #[.int .i64 (k : Int)] := rfl
      rw [he] at hy
      clear he hY
      gi_wp2
      refine ⟨fun h => (by cases h), hR.mono ?_⟩
      rintro e W3 (⟨rfl, hJ3⟩ | ⟨rfl, hJx3⟩)
      · gi_wp2
        refine wpIn_wide.2 ?_
        go_step3
        refine ⟨rfl, JI.out (k + 1) (by omega) _ _ _ _ _ _ _ _ _ _ (by rw [upB_succ k hlt]; exact hJ3), ?_⟩
        simp [intOf]; omega
      · gi_wp2
        rw [jump_normal]
        go_end0
        first | exact ⟨⟨_, rfl⟩, .inr ⟨_, hJx3⟩⟩ | exact ⟨⟨_, rfl⟩, .inr ⟨_, trivial, hJx3⟩⟩
    · have hlt' : ¬ (k : Int) < 16 := by omega
      obtain rfl : k = 16 := by omega
      gi_wp2
      refine ⟨fun f h => (by cases h), ?_⟩
      gi_wp2
      rw [jump_normal]
      go_end0
      exact ⟨⟨_, rfl⟩, .inl hJ⟩
  case first =>
    refine (wpIn_wide (n := n)).1 ?_
    gi_wp2
    refine wpIn_wide.2 ?_
    go_step3
    have hlt' : (0 : Int) < 16 := by omega
    obtain ⟨fn, tmps, assign, body, hy, hR⟩ := hY [] ⟨0, by omega⟩ W h0 (by simp)
    have he : encB ⟨0, by omega⟩ = #[.int .i64 0] := rfl
    rw [he] at hy
    clear he hY
    gi_wp2
    refine ⟨fun h => (by cases h), hR.mono ?_⟩
    rintro e W3 (⟨rfl, hJ3⟩ | ⟨rfl, hJx3⟩)
    · gi_wp2
      refine wpIn_wide.2 ?_
      go_step3
      exact ⟨rfl, JI.out 1 (by omega) _ _ _ _ _ _ _ _ _ _ hJ3⟩
    · gi_wp2
      rw [jump_normal]
      go_end0
      first | exact ⟨⟨_, rfl⟩, .inr ⟨_, hJx3⟩⟩ | exact ⟨⟨_, rfl⟩, .inr ⟨_, trivial, hJx3⟩⟩

/-- The bits come in order, all of them, or a round has said no more. -/
theorem bits_stops (n : Nat) (w : World) :
    SeqStopsK Fence.wide n Tryd.prog 75 #[] encB (fun _ _ => True) (fun ys => ys = upB 16 (Nat.le_refl _)) (fun _ => True) 16 w := fun l J Jx W hW hJ _ hY h0 =>
  bits1_in n l J Jx W (fun pre x W1 h1 h2 => by
    obtain ⟨fn, tmps, assign, body, hy, hR⟩ := hY pre x W1 h1 h2
    refine ⟨fn, tmps, assign, body, hy, hR.mono ?_⟩
    rintro e W3 (⟨rfl, hJ3, _⟩ | h)
    · exact .inl ⟨rfl, hJ3⟩
    · exact .inr h) h0

end Go.Proofs.YtffidkoejlebeaaDoor
