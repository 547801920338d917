/- Contracts of the program's chapter 8: its iterator over the bits. Contracts of the program's chapter 8: bounds, sides, secrets and public numbers. Contracts of the program's chapter 8: the public numbers of a key. Contracts of the program's chapter 8: the sum of a key, SecretOf, PublicOf. Contracts of the program's chapter 8: SecretOf, the fault of a signature, both numbers that open a bit. -/
import Derived.Test.YtffidkoejlebeaaGreatDoorLvl
import Derived.Test.YtffidkoejlebeaaGreatDoorHdD
import Derived.ScopeJumps
import Derived.WalkMore
import Derived.Test.YtffidkoejlebeaaGreatDoorRegB
import Derived.Scope
import Derived.Test.YtffidkoejlebeaaGreatDoorKyH
import Derived.Deep.RegionHeld3
import Derived.Deep.RegionWith
namespace Go.Proofs.YtffidkoejlebeaaGreatDoor
open Go.ChangeShapes Go.WideShapes Go.ChangeAt Go.RowKit
set_option maxRecDepth 100000
set_option linter.unusedVariables false
set_option linter.unusedSimpArgs false

attribute [local go_sem] Oper.semAt_some

/-- A bit. -/
abbrev Bt := { k : Nat // k < 16 }
def encB (x : Bt) : Array Value := #[.int .i64 (x.1 : Int)]
/-- The first bits, in order. -/
def upB (k : Nat) (h : k ≤ 16) : List Bt := (List.range k).pmap (fun i hi => ⟨i, hi⟩) (fun i hi => by have := List.mem_range.1 hi; omega)
theorem upB_len (k : Nat) (h) : (upB k h).length = k := by simp [upB]
theorem upB_succ (k : Nat) (h : k < 16) : upB (k + 1) (by omega) = upB k (by omega) ++ [⟨k, h⟩] := by
  unfold upB
  simp [List.range_succ, List.pmap_append]
theorem upB_val (k : Nat) (h : k ≤ 16) : (upB k h).map (fun x => x.1) = List.range k := by
  unfold upB
  rw [List.map_pmap]
  simp

theorem jump_normal (l : Nat) (J : Act → World → Prop) (Q : Exit → Act → World → Prop) (a : Act) (w : World) : Exit.jump l J Q .normal a w = Q .normal a w := rfl

set_option maxHeartbeats 4000000 in
theorem bits1_in (n l : Nat) (J Jx : List Bt → World → Prop) (W : World)
    (hY : ∀ pre x W1, J pre W1 → pre.length < 16 → YieldAt Fence.wide (n - 1) Tryz.prog l (encB x) W1 fun e W' =>
      (e = .returned (.bool true) ∧ J (pre ++ [x]) W') ∨ (e = .returned (.bool false) ∧ Jx (pre ++ [x]) W'))
    (h0 : J [] W) :
    CallsIn Fence.wide n Tryz.prog 88 #[.func (.yield l) #[] #[]] W fun e W' => (∃ v, e = .returned v) ∧
      ((∃ ys, ys = upB 16 (Nat.le_refl _) ∧ J ys W') ∨ (∃ pre, True ∧ Jx pre W')) := by
  refine callsIn_of_wp Tryz.func88 rfl trivial ?_ rfl
  simp only [Tryz.ntmps88, List.size_toArray, List.length_cons, List.length_nil, Nat.reduceAdd, Nat.reduceSub, Array.replicate_succ, Array.replicate_zero, List.push_toArray, List.append_toArray, List.nil_append, List.cons_append]
  obtain ⟨JJ, hJJ⟩ : ∃ JJ : Act → World → Prop, JJ = fun a w => ∃ (k : Nat) (h : k ≤ 16) (t3 t4 t5 t6 t7 t8 t9 t10 t11 : Value), a = { tmps := #[.func (.yield l) #[] #[], undef, .int .i64 k, t3, t4, t5, t6, t7, t8, t9, t10, t11], defers := [] } ∧ J (upB k h) w := ⟨_, rfl⟩
  have HJ : Hid (∀ a w, JJ a w = ∃ (k : Nat) (h : k ≤ 16) (t3 t4 t5 t6 t7 t8 t9 t10 t11 : Value), a = { tmps := #[.func (.yield l) #[] #[], undef, .int .i64 k, t3, t4, t5, t6, t7, t8, t9, t10, t11], defers := [] } ∧ J (upB k h) w) := fun a w => by rw [hJJ]
  clear hJJ
  have JI : Hid (∀ (k : Nat) (h : k ≤ 16) (t3 t4 t5 t6 t7 t8 t9 t10 t11 : Value) (w : World), J (upB k h) w → JJ { tmps := #[.func (.yield l) #[] #[], undef, .int .i64 k, t3, t4, t5, t6, t7, t8, t9, t10, t11], defers := [] } w) := fun k h t3 t4 t5 t6 t7 t8 t9 t10 t11 w hw => by rw [HJ.out]; exact ⟨k, h, t3, t4, t5, t6, t7, t8, t9, t10, t11, rfl, hw⟩
  refine wpIn_wide.2 (wp_scope_jumps 0 JJ (fun a _ => 16 - (intOf (a.tmps.getD 2 undef)).toNat) rfl ?first ?pass)
  case pass =>
    intro a w hj
    rw [HJ.out] at hj
    obtain ⟨k, hk, t3, t4, t5, t6, t7, t8, t9, t10, t11, rfl, hJ⟩ := hj
    clear HJ
    refine (wpIn_wide (n := n)).1 ?_
    by_cases hlt : k < 16
    · have hlt' : (k : Int) < 16 := by omega
      obtain ⟨fn, tmps, assign, body, hy, hR⟩ := hY (upB k hk) ⟨k, hlt⟩ w hJ (by rw [upB_len]; omega)
      have he : encB ⟨k, hlt⟩ = #[.int .i64 (k : Int)] := rfl
      rw [he] at hy
      clear he hY
      gi_wp2
      refine ⟨fun h => (by cases h), hR.mono ?_⟩
      rintro e W3 (⟨rfl, hJ3⟩ | ⟨rfl, hJx3⟩)
      · gi_wp2
        refine wpIn_wide.2 ?_
        go_step3
        refine ⟨rfl, JI.out (k + 1) (by omega) _ _ _ _ _ _ _ _ _ _ (by rw [upB_succ k hlt]; exact hJ3), ?_⟩
        simp [intOf]; omega
      · gi_wp2
        rw [jump_normal]
        go_end0
        first | exact ⟨⟨_, rfl⟩, .inr ⟨_, hJx3⟩⟩ | exact ⟨⟨_, rfl⟩, .inr ⟨_, trivial, hJx3⟩⟩
    · have hlt' : ¬ (k : Int) < 16 := by omega
      obtain rfl : k = 16 := by omega
      gi_wp2
      refine ⟨fun f h => (by cases h), ?_⟩
      gi_wp2
      rw [jump_normal]
      go_end0
      exact ⟨⟨_, rfl⟩, .inl hJ⟩
  case first =>
    refine (wpIn_wide (n := n)).1 ?_
    gi_wp2
    refine wpIn_wide.2 ?_
    go_step3
    have hlt' : (0 : Int) < 16 := by omega
    obtain ⟨fn, tmps, assign, body, hy, hR⟩ := hY [] ⟨0, by omega⟩ W h0 (by simp)
    have he : encB ⟨0, by omega⟩ = #[.int .i64 0] := rfl
    rw [he] at hy
    clear he hY
    gi_wp2
    refine ⟨fun h => (by cases h), hR.mono ?_⟩
    rintro e W3 (⟨rfl, hJ3⟩ | ⟨rfl, hJx3⟩)
    · gi_wp2
      refine wpIn_wide.2 ?_
      go_step3
      exact ⟨rfl, JI.out 1 (by omega) _ _ _ _ _ _ _ _ _ _ hJ3⟩
    · gi_wp2
      rw [jump_normal]
      go_end0
      first | exact ⟨⟨_, rfl⟩, .inr ⟨_, hJx3⟩⟩ | exact ⟨⟨_, rfl⟩, .inr ⟨_, trivial, hJx3⟩⟩

/-- The bits come in order, all of them, or a round has said no more. -/
theorem bits_stops (n : Nat) (w : World) :
    SeqStopsK Fence.wide n Tryz.prog 88 #[] encB (fun _ _ => True) (fun ys => ys = upB 16 (Nat.le_refl _)) (fun _ => True) 16 w := fun l J Jx W hW hJ _ hY h0 =>
  bits1_in n l J Jx W (fun pre x W1 h1 h2 => by
    obtain ⟨fn, tmps, assign, body, hy, hR⟩ := hY pre x W1 h1 h2
    refine ⟨fn, tmps, assign, body, hy, hR.mono ?_⟩
    rintro e W3 (⟨rfl, hJ3, _⟩ | h)
    · exact .inl ⟨rfl, hJ3⟩
    · exact .inr h) h0

end Go.Proofs.YtffidkoejlebeaaGreatDoor

namespace Go.Proofs.YtffidkoejlebeaaGreatDoor
open Go.ChangeShapes Go.WideShapes Go.ChangeAt Go.RowKit
set_option maxRecDepth 100000
set_option linter.unusedVariables false
set_option linter.unusedSimpArgs false

theorem isSeed_any (v : Int) (w : World) : Calls Tryz.prog 56 #[.int .i64 v] w fun r w' => r = .returned (.bool (decide (0 ≤ v ∧ v ≤ 999))) ∧ w' = w := by
  go_enter Tryz.func56, Tryz.ntmps56
  go_wp2_with fail
  refine (isFrom_any v 999 _).mono ?_
  rintro r u ⟨rfl, rfl⟩
  go_wp2
  go_ret
  exact ⟨ret_bool (by simp), rfl⟩
theorem isKeyCount_any (v : Int) (w : World) : Calls Tryz.prog 57 #[.int .i64 v] w fun r w' => r = .returned (.bool (decide (1 ≤ v ∧ v ≤ 8))) ∧ w' = w := by
  by_cases h : 1 ≤ v
  · go_enter Tryz.func57, Tryz.ntmps57
    go_wp2
    go_ret
    exact ⟨ret_bool (by simp [h]), rfl⟩
  · go_enter Tryz.func57, Tryz.ntmps57
    go_wp2
    go_ret
    exact ⟨ret_bool (by simp; omega), rfl⟩
theorem and_one_i64 (q : Int) (h0 : 0 ≤ q) (h1 : q ≤ 65520) : bits .and .i64 q 1 = q % 2 := by
  obtain ⟨n, rfl⟩ : ∃ n : Nat, q = n := ⟨q.toNat, by omega⟩
  have hx : n &&& 1 < 2 ^ 63 := Nat.and_lt_two_pow _ (by omega)
  have e1 : (BitVec.ofInt 64 (n : Int)).toNat = n := by rw [BitVec.ofInt_natCast, BitVec.toNat_ofNat]; exact Nat.mod_eq_of_lt (by omega)
  have e2 : (BitVec.ofInt 64 (1 : Int)).toNat = 1 := by rfl
  show IntKind.i64.wrap ((BitVec.ofInt 64 (n : Int) &&& BitVec.ofInt 64 (1 : Int)).toNat : Int) = _
  rw [BitVec.toNat_and, e1, e2, IntKind.wrap_i64, Nat.and_one_is_mod]
  omega
theorem div_bd {x : Int} (b : Nat) (hx : 0 ≤ x ∧ x ≤ 65520) : 0 ≤ x / 2 ^ b ∧ x / 2 ^ b ≤ 65520 := by
  have h2 : (0 : Int) < 2 ^ b := Int.pow_pos (by decide)
  exact ⟨Int.ediv_nonneg hx.1 (by omega), Int.le_trans (Int.ediv_le_self _ hx.1) hx.2⟩
theorem sideOf_any (x : Int) (b : Nat) (w : World) (hx : 0 ≤ x ∧ x ≤ 65520) (hb : b < 16) : Calls Tryz.prog 90 #[.int .i64 x, .int .i64 b] w fun r w' => r = .returned (.int .i64 (bitV x b)) ∧ w' = w := by
  have HB : Hid (bitV x b = x / 2 ^ b % 2) := rfl
  have hb' : (b : Int) < 16 := by omega
  have hq := div_bd b hx
  obtain ⟨Q, hQ⟩ : ∃ Q, x / 2 ^ b = Q := ⟨_, rfl⟩
  rw [hQ] at hq HB
  have ha := and_one_i64 Q hq.1 hq.2
  go_enter Tryz.func90, Tryz.ntmps90
  go_wp2
  go_ret
  exact ⟨ret_int HB.out.symm, rfl⟩
theorem otherSide_any (d : Int) (w : World) (h0 : 0 ≤ d) (h1 : d ≤ 1) : Calls Tryz.prog 92 #[.int .i64 d] w fun r w' => r = .returned (.int .i64 (1 - d)) ∧ w' = w := by
  have h2 : 0 ≤ 1 - d := by omega
  have h3 : 1 - d ≤ 1 := by omega
  have WD : IntKind.i64.wrap (1 - d) = 1 - d := by rw [IntKind.wrap_i64]; omega
  go_enter Tryz.func92, Tryz.ntmps92
  go_wp2
  go_ret
  exact ⟨rfl, rfl⟩

theorem fldK1 (x y : Int) (w : World) : (Instr.field 45 (.agg #[.int .i64 x, .int .i64 y]) 1).run Tryz.prog w = .ok (.int .i64 y) w := by kernel_rfl

set_option maxHeartbeats 1000000 in
theorem publicNumber_any (x : Int) (w : World) (hT : Tab w) (h0 : 0 ≤ x) (h1 : x ≤ 65535) : Calls Tryz.prog 108 #[.int .i64 x] w fun r w' => r = .returned (.int .i64 (opnV x)) ∧ Below w.heap.size w w' := by
  have H2 := has_two w (x := x / 256) (y := x % 256) 5 (by omega) (by omega)
  have HC : Hid (leafC (twoL x) = 0 ∧ leafV (twoL x) = opnV x) := by
    have : ¬ 250 < (twoL x).length := by simp [twoL]
    exact ⟨by unfold leafC; rw [if_neg this], by unfold leafV; rw [if_neg this]; rfl⟩
  have LS := implLeafSum_any (some ⟨w.heap.size, 0, none⟩) 2 (twoL x) _ (hT.alloc (.cells #[.int .u8 (x / 256), .int .u8 (x % 256)] 5)) H2
  rw [HC.out.1, HC.out.2] at LS
  generalize opnV x = y at *
  have F1 := fldK1
  clear H2 hT
  go_enter Tryz.func108, Tryz.ntmps108
  go_wp2_with fail
  refine (twoBytes_any x _ h0 h1).mono ?_
  rintro r u ⟨rfl, rfl⟩
  go_wp2_with fail
  refine LS.mono ?_
  rintro r u1 ⟨rfl, hb1⟩
  have B1 : Below w.heap.size w u1 := ((Below.refl _ _).alloc (Nat.le_refl _) _).trans (hb1.mono (by simp))
  go_wp2
  go_ret
  exact ⟨rfl, B1⟩

/-- What is summed for a secret of one side, by the program's bytes. -/
theorem secret_piece (s i b d : Int) (p q : Nat) : pieceL 3 [(some ⟨p, 0, none⟩, 2, [s / 256, s % 256]), (some ⟨q, 0, none⟩, 3, [i, b, d])] = secL s i b d := by simp [pieceL, secL]
theorem has_three (w : World) {x y z : Int} (T : Nat) (hx : 0 ≤ x ∧ x ≤ 255) (hy : 0 ≤ y ∧ y ≤ 255) (hz : 0 ≤ z ∧ z ≤ 255) : Has (w.alloc (.cells #[.int .u8 x, .int .u8 y, .int .u8 z] T)) .u8 (some ⟨w.heap.size, 0, none⟩) [x, y, z].length [x, y, z] := by
  refine ⟨rfl, ?_, .inr ⟨w.heap.size, 0, rfl, by simp, ?_⟩⟩
  · intro n hn
    simp at hn
    rcases hn with rfl | rfl | rfl
    · exact wf_u8 hx.1 hx.2
    · exact wf_u8 hy.1 hy.2
    · exact wf_u8 hz.1 hz.2
  · intro i hi
    match i, hi with
    | 0, _ => simp [go_sem]
    | 1, _ => simp [go_sem]
    | 2, _ => simp [go_sem]

set_option maxHeartbeats 2000000 in
/-- One secret, out of its bytes. -/
theorem secretPiece_any (s i b d : Int) (w : World) (hT : Tab w) (hs : 0 ≤ s ∧ s ≤ 999) (h2 : 0 ≤ i ∧ i ≤ 7) (hb : 0 ≤ b ∧ b ≤ 15) (hd : 0 ≤ d ∧ d ≤ 1) :
    Calls Tryz.prog 37 #[.int .i64 3, .slice (some ⟨w.heap.size + 2, 0, none⟩) 2 2] (((w.alloc (.cells #[.int .u8 (s / 256), .int .u8 (s % 256)] 5)).alloc (.cells #[.int .u8 i, .int .u8 b, .int .u8 d] 5)).alloc (.cells #[.slice (some ⟨w.heap.size, 0, none⟩) 2 2, .slice (some ⟨w.heap.size + 1, 0, none⟩) 3 3] 22)) fun r w' => ∃ a' c', r = .returned (.slice a' (secL s i b d).length c') ∧ Has w' .u8 a' (secL s i b d).length (secL s i b d) ∧ Below w.heap.size w w' := by
  have EE : Hid (_) := secret_piece s i b d w.heap.size (w.heap.size + 1)
  have WF := secL_wf hs h2 hb hd
  refine (pieceOf_any 3 (by decide) [(some ⟨w.heap.size, 0, none⟩, 2, [s / 256, s % 256]), (some ⟨w.heap.size + 1, 0, none⟩, 3, [i, b, d])] (w.heap.size + 2) _ (((hT.alloc _).alloc _).alloc _) (by simp) ?hc ?hh (by simp) (by rw [EE.out]; simp [secL])).mono ?_
  case hc =>
    intro i hi
    match i, hi with
    | 0, _ => simp [go_sem]
    | 1, _ => simp [go_sem]
  case hh =>
    intro k hk
    match k, hk with
    | 0, _ =>
      have hh0 := has_two w (x := s / 256) (y := s % 256) 5 (by omega) (by omega)
      exact (hh0.alloc _).alloc _
    | 1, _ =>
      have hh0 := has_three (w.alloc (.cells #[.int .u8 (s / 256), .int .u8 (s % 256)] 5)) (x := i) (y := b) (z := d) 5 (by omega) (by omega) (by omega)
      rw [World.size_alloc] at hh0
      exact hh0.alloc _
  rw [EE.out]
  rintro r u1 ⟨a', c', rfl, hown, hb1⟩
  exact ⟨a', c', rfl, has_of_own hown WF, (((Below.refl _ _).alloc (Nat.le_refl _) _).alloc (by simp) _ |>.alloc (by simp; omega) _).trans (hb1.mono (by simp; omega))⟩

/-- Both numbers of a bit, as far as they are laid. -/
def sdA (f : Nat → Int) (j : Nat) : Array Value := #[.int .i64 (if 0 < j then f 0 else 0), .int .i64 (if 1 < j then f 1 else 0)]
theorem sd_set (f : Nat → Int) {j : Nat} (hj : j < 2) : (sdA f j).setIfInBounds j (.int .i64 (f j)) = sdA f (j + 1) := by
  have : j = 0 ∨ j = 1 := by omega
  rcases this with rfl | rfl <;> simp [sdA]
theorem sd_new (f : Nat → Int) {j : Nat} (hj : j < 2) : (sdA f j)[j]? = some (.int .i64 0) := by
  have : j = 0 ∨ j = 1 := by omega
  rcases this with rfl | rfl <;> simp [sdA]

set_option maxHeartbeats 4000000 in
theorem secretsOf_any (s i b : Int) (w : World) (hT : Tab w) (hs : 0 ≤ s ∧ s ≤ 999) (h2 : 0 ≤ i ∧ i ≤ 7) (hb : 0 ≤ b ∧ b ≤ 15) :
    Calls Tryz.prog 89 #[.int .i64 s, .int .i64 i, .int .i64 b] w fun r w' => r = .returned (.agg #[.int .i64 (secV s i b 0), .int .i64 (secV s i b 1)]) ∧ Below w.heap.size w w' := by
  obtain ⟨W0, hW0⟩ : ∃ W0, W0 = (w.alloc (.cells #[.int .i64 0, .int .i64 0] 120)).alloc (.cells #[.int .i64 0, .int .i64 0] 120) := ⟨_, rfl⟩
  have zW0 : W0.heap.size = w.heap.size + 2 := by rw [hW0]; simp
  have B0 : Below w.heap.size w W0 := by rw [hW0]; exact ((Below.refl _ _).alloc (Nat.le_refl _) _).alloc (by simp) _
  have R0 : Blk W0 w.heap.size #[.int .i64 0, .int .i64 0] 120 := by rw [hW0]; exact (Blk.new w _ _).below ((Below.refl _ _).alloc (Nat.le_refl _) _) (by simp)
  have V0 : Blk W0 (w.heap.size + 1) (sdA (fun d => secV s i b d) 0) 120 := by
    have := Blk.new (w.alloc (.cells #[.int .i64 0, .int .i64 0] 120)) #[.int .i64 0, .int .i64 0] 120
    rw [World.size_alloc] at this
    rw [hW0]; exact this
  have F1 := fldK1
  go_enter Tryz.func89, Tryz.ntmps89
  go_wp2
  simp only [← hW0]
  clear hW0
  obtain ⟨V, hV⟩ : ∃ V, V = w.heap.size + 1 := ⟨_, rfl⟩
  rw [← hV] at V0
  simp only [← hV]
  have hVB : V < W0.heap.size := by omega
  have WV : Hid (V = w.heap.size + 1) := hV
  clear hV
  have TT : Hid (∀ u : World, Below w.heap.size w u → Tab u) := fun u hu => hT.below hu (Nat.le_refl _)
  have SP : Hid (∀ (j : Nat) (u : World), j < 2 → Below w.heap.size w u → Calls Tryz.prog 37 #[.int .i64 3, .slice (some ⟨u.heap.size + 2, 0, none⟩) 2 2] (((u.alloc (.cells #[.int .u8 (s / 256), .int .u8 (s % 256)] 5)).alloc (.cells #[.int .u8 i, .int .u8 b, .int .u8 j] 5)).alloc (.cells #[.slice (some ⟨u.heap.size, 0, none⟩) 2 2, .slice (some ⟨u.heap.size + 1, 0, none⟩) 3 3] 22)) fun r w' => ∃ a' c', r = .returned (.slice a' (secL s i b j).length c') ∧ Has w' .u8 a' (secL s i b j).length (secL s i b j) ∧ Below u.heap.size u w') := fun j u hj hu => secretPiece_any s i b j u (TT.out u hu) hs h2 hb (by omega)
  have SO : Hid (∀ (j : Nat) (a : Option Addr) (c : Nat) (u : World), Has u .u8 a (secL s i b j).length (secL s i b j) → Calls Tryz.prog 15 #[.slice a (secL s i b j).length c] u fun r w' => r = .returned (.agg #[.int .i64 0, .int .i64 (secV s i b j)]) ∧ Below u.heap.size u w') := fun j a c u hu => by
    have h := implSumOf_any a c _ u hu (by simp [secL])
    rw [show sumC (secL s i b j) = 0 by unfold sumC; rw [if_neg (by simp [secL])], show sumV (secL s i b j) = secV s i b j by unfold sumV; rw [if_neg (by simp [secL])]; rfl] at h
    exact h
  have LL : Hid (∀ j : Nat, (secL s i b j).length = 6) := fun j => rfl
  obtain ⟨f, hf⟩ : ∃ f : Nat → Int, f = fun d : Nat => secV s i b d := ⟨_, rfl⟩
  rw [← hf] at V0
  have HF : Hid (∀ j : Nat, secV s i b j = f j) := fun j => by rw [hf]
  have H01 : Hid (secV s i b 0 = f 0 ∧ secV s i b 1 = f 1) := by show _ ∧ _; rw [hf]; exact ⟨rfl, rfl⟩
  clear hf hT
  go_loopw [9] (fun c wr => ∃ j : Nat, j ≤ 2 ∧ c = .int .i64 j ∧ Blk wr V (sdA f j) 120 ∧ Fr (fun k => k = V) W0 wr) (fun c _ => 2 - (intOf c).toNat)
  case atStart => exact ⟨0, by omega, rfl, V0, Fr.refl _ _⟩
  case round =>
    clear V0
    obtain ⟨j, hj, rfl, hN, hfr⟩ := hrel
    have B1 : Below w.heap.size w wr := B0.trans (hfr.below (fun k e => by have := WV.out; omega) B0.size)
    by_cases hlt : j < 2
    · have hlt' : (j : Int) < 2 := by omega
      have wi : IntKind.u8.wrap i = i := by rw [IntKind.wrap_u8]; omega
      have wb : IntKind.u8.wrap b = b := by rw [IntKind.wrap_u8]; omega
      have wj : IntKind.u8.wrap (j : Int) = j := by rw [IntKind.wrap_u8]; omega
      have SPj := SP.out j wr hlt B1
      have SOj := SO.out j
      have HFj := HF.out j
      rw [HFj] at SOj
      have Sn := sd_new f hlt
      have St : Hid (_) := sd_set f hlt
      generalize secL s i b j = zs at *
      have SPh : Hid (_) := SPj
      clear SPj HFj
      have hVr := hN.lt
      go_wp2_with fail
      refine (twoBytes_any s _ hs.1 (by omega)).mono ?_
      rintro r u ⟨rfl, rfl⟩
      go_wp2_with fail
      refine Calls.mono (P := Tryz.prog) (f := 37) SPh.out ?_
      rintro r u1 ⟨a1, c1, rfl, H1, hb1⟩
      have N1 := hN.below hb1 hVr
      have f1 : Fr (fun k => k = V) W0 u1 := hfr.trans (M' := fun _ => False) (.of_below hb1 (Nat.le_refl _)) (fun _ _ e => e.elim)
      clear hb1 hN
      go_wp2_with fail
      refine (SOj a1 c1 _ H1).mono ?_
      rintro r u2 ⟨rfl, hb2⟩
      have N2 := N1.below hb2 N1.lt
      have f2 : Fr (fun k => k = V) W0 u2 := f1.trans (M' := fun _ => False) (.of_below hb2 (Nat.le_refl _)) (fun _ _ e => e.elim)
      have k0 : u2.cell? ⟨V, j, none⟩ = some (.int .i64 0) := (N2.cell j).trans Sn
      have g0 := N2.frozen j
      have N3 := N2.set j (.int .i64 (f j))
      rw [St.out] at N3
      have f3 : Fr (fun k => k = V) W0 (u2.setCell ⟨V, j, none⟩ (.int .i64 (f j))) := f2.setCell _ _ rfl
      clear hb2 H1 N1 f1 Sn
      go_wp2
      go_roundw
      case rel => exact ⟨j + 1, by omega, by go_num, N3, f3⟩
      case measure => simp [intOf]; omega
    · obtain rfl : j = 2 := by omega
      clear hlt
      have v0 : wr.cell? ⟨V, 0, none⟩ = some (.int .i64 (f 0)) := (hN.cell 0).trans rfl
      have v1 : wr.cell? ⟨V, 1, none⟩ = some (.int .i64 (f 1)) := (hN.cell 1).trans rfl
      have r0 := R0.fr hfr (show ¬ w.heap.size = V by have := WV.out; omega)
      have q0 : wr.cell? ⟨w.heap.size, 0, none⟩ = some (.int .i64 0) := (r0.cell 0).trans rfl
      have q1 : wr.cell? ⟨w.heap.size, 1, none⟩ = some (.int .i64 0) := (r0.cell 1).trans rfl
      have f0 := r0.frozen 0
      have f1 := r0.frozen 1
      clear r0 SP SO HF hN hfr R0
      go_wp2
      refine bodyPost_ret (v := .agg #[.int .i64 (f 0), .int .i64 (f 1)]) (by simp [results, Tryz.results89, go_sem, q0, q1]) rfl ⟨by rw [H01.out.1, H01.out.2], ?_⟩
      exact (B1.setCell (Nat.le_refl _) _).setCell (Nat.le_refl _) _

theorem idxS0 (x y : Int) (w : World) : (Instr.index 120 (.agg #[.int .i64 x, .int .i64 y]) (.int .i64 0)).run Tryz.prog w = .ok (.int .i64 x) w := by kernel_rfl
theorem idxS1 (x y : Int) (w : World) : (Instr.index 120 (.agg #[.int .i64 x, .int .i64 y]) (.int .i64 1)).run Tryz.prog w = .ok (.int .i64 y) w := by kernel_rfl
theorem idxS (g : Nat → Int) {j : Nat} (hj : j < 2) (w : World) : (Instr.index 120 (.agg #[.int .i64 (g 0), .int .i64 (g 1)]) (.int .i64 j)).run Tryz.prog w = .ok (.int .i64 (g j)) w := by
  have : j = 0 ∨ j = 1 := by omega
  rcases this with rfl | rfl
  · exact idxS0 _ _ w
  · exact idxS1 _ _ w
/-- Both numbers of a bit, the first ones turned. -/
def tuA (f g : Nat → Int) (j : Nat) : Array Value := #[.int .i64 (if 0 < j then f 0 else g 0), .int .i64 (if 1 < j then f 1 else g 1)]
theorem tu_set (f g : Nat → Int) {j : Nat} (hj : j < 2) : (tuA f g j).setIfInBounds j (.int .i64 (f j)) = tuA f g (j + 1) := by
  have : j = 0 ∨ j = 1 := by omega
  rcases this with rfl | rfl <;> simp [tuA]
theorem tu_new (f g : Nat → Int) {j : Nat} (hj : j < 2) : (tuA f g j)[j]? = some (.int .i64 (g j)) := by
  have : j = 0 ∨ j = 1 := by omega
  rcases this with rfl | rfl <;> simp [tuA]

set_option maxHeartbeats 4000000 in
theorem sidesPublic_any (x y : Int) (w : World) (hT : Tab w) (hx : 0 ≤ x ∧ x ≤ 65520) (hy : 0 ≤ y ∧ y ≤ 65520) :
    Calls Tryz.prog 91 #[.agg #[.int .i64 x, .int .i64 y]] w fun r w' => r = .returned (.agg #[.int .i64 (opnV x), .int .i64 (opnV y)]) ∧ Below w.heap.size w w' := by
  obtain ⟨g, hg⟩ : ∃ g : Nat → Int, g = fun j => if j = 0 then x else y := ⟨_, rfl⟩
  obtain ⟨f, hf⟩ : ∃ f : Nat → Int, f = fun j => opnV (g j) := ⟨_, rfl⟩
  have hg0 : g 0 = x := by rw [hg]; rfl
  have hg1 : g 1 = y := by rw [hg]; rfl
  have HR : Hid (opnV x = f 0 ∧ opnV y = f 1) := by show _ ∧ _; rw [hf]; simp only; rw [hg0, hg1]; exact ⟨rfl, rfl⟩
  have HF : Hid (∀ j, opnV (g j) = f j) := fun j => by rw [hf]
  have BD : Hid (∀ j, 0 ≤ g j ∧ g j ≤ 65520) := fun j => by rw [hg]; simp only; split <;> assumption
  rw [← hg0, ← hg1] at *
  obtain ⟨W0, hW0⟩ : ∃ W0, W0 = (w.alloc (.cells #[.int .i64 (g 0), .int .i64 (g 1)] 120)).alloc (.cells #[.int .i64 0, .int .i64 0] 120) := ⟨_, rfl⟩
  have zW0 : W0.heap.size = w.heap.size + 2 := by rw [hW0]; simp
  have B0 : Below w.heap.size w W0 := by rw [hW0]; exact ((Below.refl _ _).alloc (Nat.le_refl _) _).alloc (by simp) _
  have V0 : Blk W0 w.heap.size (tuA f g 0) 120 := by rw [hW0]; exact (Blk.new w _ _).below ((Below.refl _ _).alloc (Nat.le_refl _) _) (by simp)
  have R0 : Blk W0 (w.heap.size + 1) #[.int .i64 0, .int .i64 0] 120 := by
    have := Blk.new (w.alloc (.cells #[.int .i64 (g 0), .int .i64 (g 1)] 120)) #[.int .i64 0, .int .i64 0] 120
    rw [World.size_alloc] at this
    rw [hW0]; exact this
  have IX : Hid (∀ (j : Nat) (w : World), j < 2 → (Instr.index 120 (.agg #[.int .i64 (g 0), .int .i64 (g 1)]) (.int .i64 j)).run Tryz.prog w = .ok (.int .i64 (g j)) w) := fun j w h => idxS g h w
  have PN : Hid (∀ (j : Nat) (u : World), Below w.heap.size w u → Calls Tryz.prog 108 #[.int .i64 (g j)] u fun r w' => r = .returned (.int .i64 (f j)) ∧ Below u.heap.size u w') := fun j u hu => by
    have := publicNumber_any (g j) u (hT.below hu (Nat.le_refl _)) (BD.out j).1 (by have := (BD.out j).2; omega)
    rw [HF.out] at this
    exact this
  clear hg hf hg0 hg1 HF BD hT hx hy
  go_enter Tryz.func91, Tryz.ntmps91
  go_wp2
  simp only [← hW0]
  clear hW0
  obtain ⟨V, hV⟩ : ∃ V, V = w.heap.size := ⟨_, rfl⟩
  rw [← hV] at V0 R0
  simp only [← hV]
  have hVB : V < W0.heap.size := by omega
  have WV : Hid (V = w.heap.size) := hV
  clear hV
  go_loopw [6] (fun c wr => ∃ j : Nat, j ≤ 2 ∧ c = .int .i64 j ∧ Blk wr V (tuA f g j) 120 ∧ Fr (fun k => k = V) W0 wr) (fun c _ => 2 - (intOf c).toNat)
  case atStart => exact ⟨0, by omega, rfl, V0, Fr.refl _ _⟩
  case round =>
    clear V0
    obtain ⟨j, hj, rfl, hN, hfr⟩ := hrel
    have B1 : Below w.heap.size w wr := B0.trans (hfr.below (fun k e => by have := WV.out; omega) B0.size)
    by_cases hlt : j < 2
    · have hlt' : (j : Int) < 2 := by omega
      have PNj := PN.out j wr B1
      have IXj := fun w => IX.out j w hlt
      have Sn := tu_new f g hlt
      have St : Hid (_) := tu_set f g hlt
      have hVr := hN.lt
      go_wp2_with fail
      refine PNj.mono ?_
      rintro r u2 ⟨rfl, hb2⟩
      have N2 := hN.below hb2 hVr
      have f2 : Fr (fun k => k = V) W0 u2 := hfr.trans (M' := fun _ => False) (.of_below hb2 (Nat.le_refl _)) (fun _ _ e => e.elim)
      have k0 : u2.cell? ⟨V, j, none⟩ = some (.int .i64 (g j)) := (N2.cell j).trans Sn
      have g0 := N2.frozen j
      have N3 := N2.set j (.int .i64 (f j))
      rw [St.out] at N3
      have f3 : Fr (fun k => k = V) W0 (u2.setCell ⟨V, j, none⟩ (.int .i64 (f j))) := f2.setCell _ _ rfl
      clear hb2 Sn hN PNj
      go_wp2
      go_roundw
      case rel => exact ⟨j + 1, by omega, by go_num, N3, f3⟩
      case measure => simp [intOf]; omega
    · obtain rfl : j = 2 := by omega
      clear hlt
      have v0 : wr.cell? ⟨V, 0, none⟩ = some (.int .i64 (f 0)) := (hN.cell 0).trans rfl
      have v1 : wr.cell? ⟨V, 1, none⟩ = some (.int .i64 (f 1)) := (hN.cell 1).trans rfl
      have r0 := R0.fr hfr (show ¬ V + 1 = V by omega)
      have q0 : wr.cell? ⟨V + 1, 0, none⟩ = some (.int .i64 0) := (r0.cell 0).trans rfl
      have q1 : wr.cell? ⟨V + 1, 1, none⟩ = some (.int .i64 0) := (r0.cell 1).trans rfl
      have f0 := r0.frozen 0
      have f1 := r0.frozen 1
      clear r0 PN IX hN hfr R0
      go_wp2
      refine bodyPost_ret (v := .agg #[.int .i64 (f 0), .int .i64 (f 1)]) (by simp [results, Tryz.results91, go_sem, q0, q1]) rfl ⟨by rw [HR.out.1, HR.out.2], ?_⟩
      exact (B1.setCell (by have := WV.out; show _ ≤ V + 1; omega) _).setCell (by have := WV.out; show _ ≤ V + 1; omega) _

end Go.Proofs.YtffidkoejlebeaaGreatDoor

namespace Go.Proofs.YtffidkoejlebeaaGreatDoor
open Go.ChangeShapes Go.WideShapes Go.ChangeAt Go.RowKit
set_option maxRecDepth 100000
set_option linter.unusedVariables false
set_option linter.unusedSimpArgs false

attribute [local go_sem] Oper.semAt_some

/-- Two numbers appended to a row of one's own, at a step of a region that draws. -/
theorem step_app2 {P : Program} {ops : Array Oper} {o : Oper} {a : Act} {w : World} {K : Act → World → Prop} {Q : Exit → Act → World → Prop} {E : Prop} (hgd : o.guard = none) (s x : Operand) (t : TypeId)
    (ho : o.op = .call { callee := .builtin .append, args := #[s, x], argTypes := #[t, t] }) (base e : TypeId) (i : TypeInfo) (ht : P.underlying t = some (.slice e)) (hi : P.info? e = some i) (hz : i.zero = some (.int .i64 0)) (hsize : i.size = 1) (hby : i.bytes = 8)
    (v : Value) (n : Nat) (xs : List Value) (hs : a.eval s = v) (hown : w.ownsRow base e 1 v n xs) (g c : Nat) (y z : Int) (hx : a.eval x = .slice (some ⟨g, 0, none⟩) 2 c) (hy : w.cell? ⟨g, 0, none⟩ = some (.int .i64 y)) (hy2 : w.cell? ⟨g, 1, none⟩ = some (.int .i64 z)) (hn : n ≤ 1000) (hbase : base ≤ w.heap.size)
    (h : ∀ g' c' w', w'.ownsRow base e 1 (.slice (some ⟨g', 0, none⟩) (n + 2) c') (n + 2) (xs ++ [.int .i64 y, .int .i64 z]) → w.grownBy w' v.ownBlock → ((Value.slice (some ⟨g', 0, none⟩) (n + 2) c').ownBlock = v.ownBlock ∨ (Value.slice (some ⟨g', 0, none⟩) (n + 2) c').ownBlock = some w.heap.size) → K (a.put o.dst (.slice (some ⟨g', 0, none⟩) (n + 2) c')) w') :
    if Region.wanted o (yielded ops a.tmps) = true then Oper.wp P o a w K Q else E := by
  have hw : Region.wanted o (yielded ops a.tmps) = true := by simp [Region.wanted, hgd]
  rw [if_pos hw]
  obtain ⟨v', w', hr, h2, h3, _, h5⟩ := run_append_own_at (P := P) w base t o.type e i (.int .i64 0) 1 8 ht hi hz hsize hby rfl (by decide) v n xs hown ⟨g, 0, none⟩ 2 c [.int .i64 y, .int .i64 z] rfl
    (fun j u hu => by
      match j with
      | 0 => simp at hu; subst hu; exact hy
      | 1 => simp at hu; subst hu; exact hy2
      | j + 2 => simp at hu) (by intro u hu; simp at hu; rcases hu with rfl | rfl <;> rfl) (by unfold maxLen; omega) (by omega) hbase
  obtain ⟨g', c', rfl⟩ := ownsRow_succ h2
  unfold Oper.wp execOp
  simp only [ho, resolve, invoke, builtin, Sem.run_bind, Sem.run_pure, Result.andThen_ok, List.map_toArray, List.map_cons, List.map_nil, hs, hx, hr]
  exact h g' c' w' h2 h3 h5

theorem callsIn_round {l n : Nat} {P : Program} {f : FuncId} {args : Array Value} {w : World} {R : Ending → World → Prop} (h : CallsIn Fence.wide n P f args w R) : CallsIn (Fence.wide.inRound l) n P f args w R := h
/-- Numbers in memory of one's own. -/
abbrev OwnM (w : World) (base : Nat) (v : Value) (zs : List Int) : Prop := w.ownsRow base 2 1 v zs.length (zs.map (.int .i64))
/-- The state of the rounds: where the list lies, and what it holds. -/
structure LsS (V : Nat) (W0 : World) (us : List Int) (W : World) (av : Value) : Prop where
  v : Blk W V #[av] 34
  arow : W.ownsRow W0.heap.size 2 1 av us.length (us.map (.int .i64))
  fr : Fr (fun k => k = V) W0 W
theorem LsS.below {V : Nat} {W0 W W' : World} {us : List Int} {av : Value} (h : LsS V W0 us W av) (hb : Below W.heap.size W W') : LsS V W0 us W' av :=
  ⟨h.v.below hb h.v.lt, own_fr (M := fun _ => False) h.arow (.of_below hb (Nat.le_refl _)) (fun _ _ => id), h.fr.trans (M' := fun _ => False) (.of_below hb (Nat.le_refl _)) (fun _ _ e => e.elim)⟩
theorem LsS.kept {V : Nat} {W0 W W' : World} {us : List Int} {av : Value} {row : Option Nat} (h : LsS V W0 us W av) (hV : V < W0.heap.size) (hg : W.grownBy W' row) (hr : ∀ k, row = some k → W0.heap.size ≤ k ∧ ∃ o : Obj, W.heap[k]? = some o ∧ o.isCells = false) : LsS V W0 us W' av := by
  have hf : Fr (fun k => row = some k) W W' := .of_grown hg (fun k e => e)
  refine ⟨h.v.fr hf (fun e => by have := (hr V e).1; omega), own_fr h.arow hf (fun g e1 e2 => ?_), h.fr.trans hf (fun i hi e => by have := (hr i e).1; omega)⟩
  obtain ⟨cs, hc⟩ := own_cells h.arow e1
  obtain ⟨_, o, ho, hn⟩ := hr g e2
  rw [hc] at ho; cases ho; cases hn
theorem LsS.appendV {V : Nat} {W0 W W2 W3 : World} {av av' : Value} {us ys : List Int} (h : LsS V W0 us W av) (hV : V < W0.heap.size)
    (hb : Below W.heap.size W W2) (hown : W3.ownsRow W0.heap.size 2 1 av' (us.length + ys.length) (us.map (.int .i64) ++ ys.map (.int .i64))) (hg : W2.grownBy W3 av.ownBlock) :
    LsS V W0 (us ++ ys) (W3.setCell ⟨V, 0, none⟩ av') av' ∧ Fr (fun k => k = V ∨ av.ownBlock = some k) W (W3.setCell ⟨V, 0, none⟩ av') ∧ Blk W3 V #[av] 34 := by
  have h2 := h.below hb
  have f3 : Fr (fun k => av.ownBlock = some k) W2 W3 := .of_grown hg (fun k e => e)
  have hav : ∀ k, av.ownBlock = some k → W0.heap.size ≤ k := fun k e => (h2.arow.lt k e).1
  have v3 : Blk W3 V #[av] 34 := h2.v.fr f3 (fun e => by have := hav V e; omega)
  have fs : Fr (fun k => k = V) W3 (W3.setCell ⟨V, 0, none⟩ av') := (Fr.refl _ _).setCell _ _ rfl
  refine ⟨⟨by have := v3.set 0 av'; simpa using this, ?_, ?_⟩, ?_, v3⟩
  · have := own_fr hown fs (fun g e1 e2 => by have := (hown.lt g e1).1; omega)
    simpa using this
  · refine (h2.fr.trans f3 (fun i hi e => ?_)).trans fs (fun i hi e => e)
    have := hav i e; omega
  · exact ((Fr.of_below hb (Nat.le_refl _)).trans f3 (fun i _ e => .inr e)).trans fs (fun i _ e => .inl e)
/-- What a round owes to the loop over the iterator. -/
theorem LsS.pays {V : Nat} {W0 W W' : World} {av : Value} {us : List Int} (h : LsS V W0 us W av) (hV : V < W0.heap.size) (hf : Fr (fun k => k = V ∨ av.ownBlock = some k) W W') : KeepsFrom W0.heap.size W W' := by
  refine ⟨hf.size, fun k o hk ho hn => ?_⟩
  refine (hf.block k (Array.getElem?_eq_some_iff.1 ho).1 ?_).trans ho
  rintro (e | e)
  · omega
  · obtain ⟨cs, hc⟩ := own_cells h.arow e
    rw [hc] at ho; cases ho; cases hn
/-- The activation of a round. -/
def actP (s i : Int) (B k : Nat) (x6 x8 : Value) : Act :=
  { tmps := #[.int .i64 s, .int .i64 i, .pointer (some ⟨B, 0, none⟩), .pointer (some ⟨B + 1, 0, none⟩), .slice none 0 0, .pointer (some ⟨B + 2, 0, none⟩), x6, undef, x8, undef, undef, undef, undef, undef, undef, undef, undef, undef], defers := [] }

set_option maxHeartbeats 4000000 in
theorem publicOf_any (s i : Int) (w : World) (hT : Tab w) (hs : 0 ≤ s ∧ s ≤ 999) (h2 : 0 ≤ i ∧ i ≤ 7) :
    Calls Tryz.prog 96 #[.int .i64 s, .int .i64 i] w fun r w' => ∃ pa pc, r = .returned (.slice pa (pubL s i).length pc) ∧ OwnM w' w.heap.size (.slice pa (pubL s i).length pc) (pubL s i) ∧ Below w.heap.size w w' := by
  obtain ⟨i0, hi0, hz0, hz1, hz2⟩ := info_parts info64
  refine (callsIn_wide (n := 5)).1 ?_
  refine callsIn_of_wp_marks Tryz.func96 rfl trivial ?_ rfl
  simp only [Tryz.ntmps96, List.size_toArray, List.length_cons, List.length_nil, Nat.reduceAdd, Nat.reduceSub, Array.replicate_succ, Array.replicate_zero, List.push_toArray, List.append_toArray, List.nil_append, List.cons_append]
  gi_wp2
  obtain ⟨B, hB⟩ : ∃ B, B = w.heap.size := ⟨_, rfl⟩
  have aS : ∀ o : Obj, Below w.heap.size w (w.alloc o) := fun o => (Below.refl _ _).alloc (Nat.le_refl _) o
  obtain ⟨W0, hW0⟩ : ∃ W0, W0 = (((w.alloc (.cells #[.int .i64 s] 2)).alloc (.cells #[.int .i64 i] 2)).alloc (.cells #[.slice none 0 0] 34)) := ⟨_, rfl⟩
  have zW0 : W0.heap.size = w.heap.size + 3 := by rw [hW0]; simp
  have b0 : Below w.heap.size w W0 := by rw [hW0]; exact ((aS _).alloc (by simp) _).alloc (by simp; omega) _
  have S0 : Blk W0 B #[.int .i64 s] 2 := by
    rw [hW0, hB]; exact (Blk.new w _ _).below (((Below.refl _ _).alloc (Nat.le_refl _) _).alloc (by simp) _) (by simp)
  have I0 : Blk W0 (B + 1) #[.int .i64 i] 2 := by
    have := (Blk.new (w.alloc (.cells #[.int .i64 s] 2)) #[.int .i64 i] 2).below ((Below.refl _ _).alloc (Nat.le_refl _) (.cells #[.slice none 0 0] 34)) (by simp)
    rw [World.size_alloc] at this
    rw [hW0, hB]; exact this
  have V0 : Blk W0 (B + 2) #[.slice none 0 0] 34 := by
    have := Blk.new ((w.alloc (.cells #[.int .i64 s] 2)).alloc (.cells #[.int .i64 i] 2)) #[.slice none 0 0] 34
    rw [World.size_alloc, World.size_alloc] at this
    rw [hW0, hB]; exact this
  rw [← hW0, ← hB]
  clear hW0 aS
  have WB : Hid (B = w.heap.size) := hB
  have L0 : LsS (B + 2) W0 (pubW s i []) W0 (.slice none 0 0) := ⟨V0, World.ownsRow_nil _ _ _ _, Fr.refl _ _⟩
  have TabOf : Hid (∀ Y : World, Fr (fun k => k = B + 2) W0 Y → Tab Y) := fun Y hf => hT.below (b0.trans (hf.below (B := w.heap.size) (by rintro j e; omega) (by omega))) (Nat.le_refl _)
  have BWF : Hid (∀ Y : World, Fr (fun k => k = B + 2) W0 Y → Below w.heap.size w Y) := fun Y hf => b0.trans (hf.below (B := w.heap.size) (by rintro j e; omega) (by omega))
  have zB : W0.heap.size = B + 3 := by omega
  have LN : Hid (∀ bs, (pubW s i bs).length = 2 * bs.length) := fun bs => pubW_len s i bs
  have SN : Hid (∀ (bs : List Nat) (b : Nat), pubW s i (bs ++ [b]) = pubW s i bs ++ [opnV (secV s i b 0), opnV (secV s i b 1)]) := fun bs b => pubW_snoc s i bs b
  have EN : Hid (pubW s i ((upB 16 (Nat.le_refl _)).map (fun x => x.1)) = pubL s i) := by show _ = _; rw [upB_val]; rfl
  clear hB zW0 hT
  refine wpIn_rangeFunc_ownH (F := Fence.wide) rfl (by decide) (gf := 88) (lb := #[]) rfl trivial (enters_of Tryz.func88 (by kernel_rfl) rfl)
    (bits_stops 4 W0) (fun _ _ => trivial) (fun _ _ _ _ _ _ _ _ => trivial) (Below.refl _ _) (fun _ => rfl)
    (fun pre X => ∃ av, LsS (B + 2) W0 (pubW s i (pre.map (fun x => x.1))) X av) (fun _ _ _ => False)
    (fun st X Y row hs hg hr => by obtain ⟨av, h⟩ := hs; exact ⟨av, h.kept (by omega) hg hr⟩) (fun _ _ _ _ _ hs _ _ => hs) ⟨.slice none 0 0, L0⟩
    (fun x0 b' X => b' = actP s i B x0.1 (.int .i64 x0.1) (.int .i64 x0.1))
    (fun x0 b' st X Y row hs hg hr => hs) ?assign ?body ?done ?stop
  case assign =>
    rintro l pre x0 X K' ⟨av, hi⟩ hK'
    unfold encB
    gi_wp2
    exact hK' _ _ ((KeepsOthers.refl X).from _) trivial ⟨av, hi⟩ rfl
  case body =>
    rintro l pre ⟨k, hk⟩ b' X hl' - ⟨av, hi⟩ rfl hlt
    dsimp only
    have hk' : (k : Int) < 16 := by omega
    have s0 := ((S0.fr hi.fr (by omega)).cell 0)
    have i1 := ((I0.fr hi.fr (by omega)).cell 0)
    simp at s0 i1
    have TX : Hid (∀ Y : World, Below X.heap.size X Y → Tab Y) := fun Y hb => (TabOf.out X hi.fr).below hb (Nat.le_refl _)
    have SO := secretsOf_any s i k X (TX.out X (Below.refl _ _)) hs h2 (by omega)
    have HSN : Hid (_) := SN.out (pre.map (fun x => x.1)) k
    have q0 := secV_bd s i k 0
    have q1 := secV_bd s i k 1
    generalize secV s i k 0 = x0 at *
    generalize secV s i k 1 = x1 at *
    have hu : (pubW s i (pre.map (fun x => x.1))).length ≤ 600 := by have := LN.out (pre.map (fun x => x.1)); rw [List.length_map] at this; omega
    generalize hus : pubW s i (pre.map (fun x => x.1)) = us at *
    have SP : Hid (∀ Y : World, Below X.heap.size X Y → Calls Tryz.prog 91 #[.agg #[.int .i64 x0, .int .i64 x1]] Y fun r w' => r = .returned (.agg #[.int .i64 (opnV x0), .int .i64 (opnV x1)]) ∧ Below Y.heap.size Y w') := fun Y hb => sidesPublic_any x0 x1 Y (TX.out Y hb) q0 q1
    generalize opnV x0 = y0 at *
    generalize opnV x1 = y1 at *
    unfold actP
    gi_wp2_with fail
    refine ⟨trivial, CallsIn.mono (callsIn_round (callsIn_wide.2 (SO))) ?_⟩
    rintro r u1 ⟨rfl, hb1⟩
    gi_wp2_with fail
    refine ⟨trivial, CallsIn.mono (callsIn_round (callsIn_wide.2 (SP.out _ hb1))) ?_⟩
    rintro r u2 ⟨rfl, hb2⟩
    have B2 := hb1.trans (hb2.mono hb1.size)
    clear hb1 hb2
    gi_wp2_with fail
    obtain ⟨Bx, hBx⟩ : ∃ Bx, Bx = u2.heap.size := ⟨_, rfl⟩
    obtain ⟨Y, hY⟩ : ∃ Y, Y = u2.alloc (.cells #[.int .i64 y0, .int .i64 y1] 120) := ⟨_, rfl⟩
    have bY : Blk Y Bx #[.int .i64 y0, .int .i64 y1] 120 := by rw [hY, hBx]; exact Blk.new _ _ _
    have D0 : Below X.heap.size X Y := by rw [hY]; exact B2.alloc B2.size _
    have zX : W0.heap.size ≤ X.heap.size := hi.fr.size
    have nBx : X.heap.size ≤ Bx := by rw [hBx]; exact B2.size
    simp only [← hY, ← hBx]
    clear hY hBx B2 s0 i1 SO SP TX q0 q1
    have D : Below X.heap.size X Y.drew := D0.drew
    have FIN : ∀ (Z : World) (av2 : Value), LsS (B + 2) W0 (us ++ [y0, y1]) Z av2 → Fr (fun j => j = B + 2 ∨ av.ownBlock = some j) X Z → KeepsFrom W0.heap.size X Z ∧ True ∧ ∃ av, LsS (B + 2) W0 (pubW s i ((pre ++ [(⟨k, hk⟩ : Bt)]).map (fun x => x.1))) Z av := fun Z av2 h hf => by
      refine ⟨hi.pays (by omega) hf, trivial, av2, ?_⟩
      have e1 : pubW s i ((pre ++ [(⟨k, hk⟩ : Bt)]).map (fun x => x.1)) = us ++ [y0, y1] := by rw [List.map_append, List.map_singleton]; exact HSN.out
      rw [e1]
      exact h
    clear HSN
    refine wpIn_round_held (S := fun u => Blk u Bx #[.int .i64 y0, .int .i64 y1] 120) (by kernel_rfl) (by kernel_rfl) (fun ⟨_, _, h⟩ => h) (bY.below (Below.refl _ _).drew bY.lt) (fun hs => ?_)
    refine take_at (i := 1) (d := some 15) (v := ?mv1) rfl rfl (by kernel_rfl) (by kernel_rfl) (by kernel_rfl) (fun _ _ _ h => h) (Or.inl ⟨by rfl, ?my1⟩) hs ?mg1
    case my1 => (intro z hSz; skip; go_simp; (try with_reducible rfl))
    try simp only [Act.put, List.setIfInBounds_toArray, List.set_cons_zero, List.set_cons_succ]
    refine wpAnyH_ready (rs := [0]) (by kernel_rfl) (by simp) ?_
    refine AllReadyH.cons rfl (fun K' hK' => ?_) AllReadyH.nil
    have v0 := (hi.below D).v.cell 0
    simp at v0
    go_simp
    refine hK'.out _ _ hs (fun hs => ?_)
    clear hK' K'
    try simp only [Act.put, List.setIfInBounds_toArray, List.set_cons_zero, List.set_cons_succ]
    refine wpAnyH_ready (rs := [2]) (by kernel_rfl) (by simp) ?_
    refine AllReadyH.cons rfl (fun K' hK' => ?_) AllReadyH.nil
    refine step_app2 rfl _ _ 34 rfl W0.heap.size 2 i0 Tryz.underlying34 hi0 hz0 hz1 hz2 av us.length (us.map (.int .i64)) rfl (hi.below D).arow Bx 2 y0 y1 rfl (by have := hs.cell 0; simpa using this) (by have := hs.cell 1; simpa using this) (by omega) (Nat.le_trans zX D.size) ?_
    intro g' c' w3 hown hgrow hnew
    obtain ⟨E1, E2, E3⟩ := hi.appendV (ys := [y0, y1]) (by omega) D hown hgrow
    have nB : av.ownBlock ≠ some Bx := fun e => by have := (hi.arow.lt Bx e).2; omega
    refine hK'.out _ _ (hs.fr (M := fun j => av.ownBlock = some j) (.of_grown hgrow (fun j e => e)) nB) (fun hs => ?_)
    clear hK' K'
    try simp only [Act.put, List.setIfInBounds_toArray, List.set_cons_zero, List.set_cons_succ]
    have v3 := E3.cell 0
    have v4 := E3.frozen 0
    simp at v3
    refine wpAnyH_ready (rs := [3]) (by kernel_rfl) (by simp) ?_
    refine AllReadyH.cons rfl (fun K' hK' => ?_) AllReadyH.nil
    go_simp
    refine hK'.out _ _ (hs.fr (M := fun j => j = B + 2) (by refine Fr.setCell (Fr.refl _ _) _ _ ?_; rfl) (show Bx ≠ B + 2 by omega)) (fun hs => ?_)
    clear hK' K'
    try simp only [Act.put, List.setIfInBounds_toArray, List.set_cons_zero, List.set_cons_succ]
    refine wpAnyH_done (by kernel_rfl) ?_ _
    exact FIN _ _ E1 E2
  case done =>
    rintro D ys Y hD rfl ⟨av, hi⟩ hKD
    rw [EN.out] at hi
    have v0 := hi.v.cell 0
    simp at v0
    obtain ⟨pa, pc, rfl⟩ := own_row_shape hi.arow
    have AR : Hid (OwnM Y W0.heap.size (.slice pa (pubL s i).length pc) (pubL s i)) := hi.arow
    have FR : Hid (Fr (fun k => k = B + 2) W0 Y) := hi.fr
    clear hi
    gi_wp2_with fail
    have hD0 : w.heap.size ≤ D := by have := WB.out; omega
    refine leaves_marks (base := w.heap.size) _ _ ⟨D, rfl, hD0, hKD, by simp, trivial⟩ ?_
    intro W' hf
    have hfm : Fr (fun k => k = D) Y W' := hf.mono (fun k ⟨d, hd, e⟩ => by simp at hd; subst hd; simpa using e.symm)
    have B1 : Below w.heap.size w W' := (BWF.out _ FR.out).trans (hfm.below (fun k e => by omega) (by have := FR.out.size; have := WB.out; omega))
    have AR2 : OwnM W' W0.heap.size (.slice pa (pubL s i).length pc) (pubL s i) := own_fr AR.out hfm (fun g e1 e2 => by
      obtain ⟨cs, hc⟩ := own_cells AR.out e1
      rw [e2, hKD] at hc
      cases hc)
    refine ⟨.slice pa (pubL s i).length pc, by simp [results, Tryz.results96, go_sem], pa, pc, rfl, own_mono AR2 (by have := WB.out; omega), B1⟩
  case stop =>
    rintro D c pre X _ _ h _
    exact h.elim

end Go.Proofs.YtffidkoejlebeaaGreatDoor

namespace Go.Proofs.YtffidkoejlebeaaGreatDoor
open Go.ChangeShapes Go.WideShapes Go.ChangeAt Go.RowKit
set_option maxRecDepth 100000
set_option linter.unusedVariables false
set_option linter.unusedSimpArgs false

theorem set2 {w u : World} {B : Nat} (h : Below B w u) {p q : Addr} (hp : B ≤ p.block) (hq : B ≤ q.block) (x y : Value) : Below B w ((u.setCell p x).setCell q y) := (h.setCell hp _).setCell hq _
theorem own_shapeM {w : World} {base e n : Nat} {v : Value} {xs : List Value} (h : w.ownsRow base e 1 v n xs) : ∃ a c, v = .slice a n c ∧ n ≤ c ∧ c ≤ maxLen := by
  rcases h.2 with ⟨rfl, h0⟩ | ⟨g, cap, cur, rfl, _, _, h1, h2, _⟩
  · exact ⟨none, 0, by rw [h0], by omega, Nat.zero_le _⟩
  · exact ⟨_, cap, rfl, h1, h2⟩

set_option maxHeartbeats 4000000 in
theorem implKeySum_any (a : Option Addr) (c : Nat) (l : List Int) (w : World) (hT : Tab w) (h : Has w .i64 a l.length l) (hl : l.length ≤ 1048576) :
    Calls Tryz.prog 95 #[.slice a l.length c] w fun r w' => r = .returned (.agg #[.int .i64 (kyC l), .int .i64 (kyV l)]) ∧ Below w.heap.size w w' := by
  obtain ⟨i0, hi, hz0, hz1, hz2⟩ := info_parts info8
  obtain ⟨E, hE⟩ : ∃ E, E = w.alloc (.cells #[.int .i64 0, .int .i64 0] 45) := ⟨_, rfl⟩
  have zE : E.heap.size = w.heap.size + 1 := by rw [hE]; simp
  have B0 : Below w.heap.size w E := by rw [hE]; exact (Below.refl _ _).alloc (Nat.le_refl _) _
  have RE : Blk E w.heap.size #[.int .i64 0, .int .i64 0] 45 := by rw [hE]; exact Blk.new _ _ _
  have h' : Has E .i64 a l.length l := h.below B0 (Nat.le_refl _)
  by_cases h32 : l.length = 32
  · have e32 : ((l.length : Int) != 32) = false := by simp; omega
    have SF := sumsFault_any a c l E h' hl
    by_cases hf : suF l = 0
    · have ha : allS l = true := by unfold suF at hf; split at hf; assumption; omega
      have HC : Hid (kyC l = 0 ∧ kyV l = keyS l) := ⟨kyC_of h32 ha, kyV_of h32 ha⟩
      have e0 : (suF l != 0) = false := by simpa using hf
      rw [hf] at SF
      rcases h'.2.2 with h0 | ⟨b, off, rfl, hb, hcell⟩
      · omega
      have WF : Hid (∀ n ∈ numB l, (Lit.int .u8 n).wf = true) := numB_wf ha
      have WK : Hid (∀ n ∈ keyB l, (Lit.int .u8 n).wf = true) := keyB_wf ha
      have SU : Hid (∀ k (h : k < l.length), numB (l.take (k + 1)) = numB (l.take k) ++ [l[k] / 256, l[k] % 256]) := fun k h => by rw [numB_succ l k h]; rfl
      have LN : Hid (∀ k, k ≤ l.length → (numB (l.take k)).length = 2 * k) := fun k h => by rw [numB_len, List.length_take]; omega
      have EN : Hid (numB (l.take l.length) = numB l) := by show _ = _; rw [List.take_length]
      have BD : Hid (∀ k (h : k < l.length), 0 ≤ l[k] ∧ l[k] ≤ 65520) := fun k h => allS_get ha k h
      have LK : Hid ((keyB l).length ≤ 300) := by show _ ≤ _; rw [keyB_len]; omega
      have PL : Hid (∀ (va : Option Addr) (vc : Nat), pieceL 4 [(va, vc, numB l)] = keyB l) := fun va vc => by simp [pieceL, keyB]
      have SO : Hid (∀ (a : Option Addr) (c : Nat) (u : World), Has u .u8 a (keyB l).length (keyB l) → Calls Tryz.prog 15 #[.slice a (keyB l).length c] u fun r w' => r = .returned (.agg #[.int .i64 0, .int .i64 (keyS l)]) ∧ Below u.heap.size u w') := fun a c u hu => by
        have h := implSumOf_any a c _ u hu (by have := LK.out; omega)
        have : ¬ 300 < (keyB l).length := by have := LK.out; omega
        rw [show sumC (keyB l) = 0 by unfold sumC; rw [if_neg this], show sumV (keyB l) = keyS l by unfold sumV; rw [if_neg this]; rfl] at h
        exact h
      have TT : Hid (∀ u : World, Below w.heap.size w u → Tab u) := fun u hu => hT.below hu (Nat.le_refl _)
      have WV : Hid (l.length = 32) := h32
      have hpos : 0 < (l.length : Int) := by omega
      clear h h' ha hf h32 hT
      go_enter Tryz.func95, Tryz.ntmps95
      go_wp2_with fail
      simp only [← hE]
      clear hE
      refine (SF).mono ?_
      rintro r u ⟨rfl, hu⟩; have hu2 := hu.symm; subst hu2; clear hu
      go_wp2
      go_loopw [4, 19] (fun v i wr => ∃ k : Nat, k ≤ l.length ∧ i = .int .i64 k ∧ wr.ownsRow E.heap.size 5 1 v (numB (l.take k)).length ((numB (l.take k)).map (.int .u8)) ∧ Below E.heap.size E wr) (fun _ i _ => l.length - (intOf i).toNat)
      case atStart => exact ⟨0, Nat.zero_le _, rfl, World.ownsRow_nil _ _ _ _, Below.refl _ _⟩
      case round =>
        obtain ⟨k, hk, rfl, hO, hbel⟩ := hrel
        obtain ⟨va, vc, rfl, _, _⟩ := own_shapeM hO
        have zr := hbel.size
        by_cases hlt : k < l.length
        · have hlt' : (k : Int) < (l.length : Int) := by omega
          have zl : (numB (l.take k)).length ≤ 300 := by have := LN.out k hk; have := WV.out; omega
          have e1 : wr.cell? ⟨b, off + k, none⟩ = some (.int .i64 l[k]) := (hbel.cell (p := ⟨b, off + k, none⟩) hb).trans (by rw [hcell k hlt]; simp [List.getD, hlt])
          have bd := BD.out k hlt
          have HSU : Hid (_) := SU.out k hlt
          clear hcell
          generalize l[k] = x at *
          generalize numB (l.take k) = zs at *
          go_wp2_with fail
          refine (twoBytes_any x _ bd.1 (by omega)).mono ?_
          rintro r u1 ⟨rfl, rfl⟩
          go_wp2_with (at_builtin; refine wpList_append_own _ rfl _ _ 22 rfl E.heap.size 5 i0 (.int .u8 0) 1 1 Tryz.underlying22 hi hz0 hz1 hz2 rfl (by decide) _ (zs.length) _ rfl (hO.alloc _) ⟨wr.heap.size, 0, none⟩ 2 2 [.int .u8 (x / 256), .int .u8 (x % 256)] rfl (by simp) (two_new _ _ _ _) (by intro u hu; simp at hu; rcases hu with rfl | rfl <;> rfl) (by unfold maxLen; omega) (by omega) (by simp; omega) ?_; intro v5 w5 hn5 hg5 hx5)
          have B5 : Below E.heap.size E w5 := (hbel.alloc zr _).trans ((Below.refl _ _).grown hg5 (by simp; omega) (fun k hk => (hO.lt k hk).1))
          have O5 : w5.ownsRow E.heap.size 5 1 v5 (numB (l.take (k + 1))).length ((numB (l.take (k + 1))).map (.int .u8)) := by
            rw [HSU.out, List.length_append]
            simpa using hn5
          clear hn5 hg5 hx5 hO
          go_wp2
          go_roundw
          case rel => exact ⟨k + 1, by omega, by go_num, O5, B5⟩
          case measure => simp [intOf]; omega
        · obtain rfl : k = l.length := by omega
          clear hlt hcell
          rw [EN.out] at hO
          have el := EN.out
          rw [el]
          clear el
          have H := has_of_own hO WF.out
          have B1 : Below w.heap.size w wr := B0.trans (hbel.mono B0.size)
          have PO := pieceOf_any 4 (by decide) [(va, vc, numB l)] wr.heap.size (wr.alloc (.cells #[.slice va (numB l).length vc] 22)) ((TT.out wr B1).alloc _) (by simp) (by intro i hi; obtain rfl : i = 0 := (by simpa using hi); simp [go_sem]) (by intro i hi; obtain rfl : i = 0 := (by simpa using hi); exact H.alloc _) (by simp) (by rw [PL.out]; have := LK.out; omega)
          rw [PL.out] at PO
          have POH : Hid (_) := PO
          have R1 := RE.below hbel RE.lt
          have B2 : Below w.heap.size w (wr.alloc (.cells #[.slice va (numB l).length vc] 22)) := B1.alloc B1.size _
          have R2 := R1.below (W' := wr.alloc (.cells #[.slice va (numB l).length vc] 22)) ((Below.refl _ _).alloc (Nat.le_refl _) _) R1.lt
          clear hO SU LN BD WF PL TT EN PO R1
          go_wp2_with fail
          refine Calls.mono (P := Tryz.prog) (f := 37) POH.out ?_
          rintro r u1 ⟨a1, c1, rfl, O1, hb1⟩
          have H1 := SO.out a1 c1 u1 (has_of_own O1 WK.out)
          have B3 := B2.trans (hb1.mono B2.size)
          have R3 := R2.below hb1 R2.lt
          clear O1 hb1 R2 POH H
          go_wp2_with fail
          refine H1.mono ?_
          rintro r u2 ⟨rfl, hb2⟩
          have B4 := B3.trans (hb2.mono B3.size)
          have R4 := R3.below hb2 R3.lt
          have k0 : u2.cell? ⟨w.heap.size, 0, none⟩ = some (.int .i64 0) := (R4.cell 0).trans rfl
          have k1 : u2.cell? ⟨w.heap.size, 1, none⟩ = some (.int .i64 0) := (R4.cell 1).trans rfl
          have f0 := R4.frozen 0
          have f1 := R4.frozen 1
          clear R3 R4 hb2 H1 SO
          go_wp2
          refine bodyPost_ret (v := .agg #[.int .i64 0, .int .i64 (keyS l)]) (by simp [results, Tryz.results95, go_sem, k0, k1]) rfl ⟨by rw [HC.out.1, HC.out.2], ?_⟩
          exact set2 B4 (Nat.le_refl _) (Nat.le_refl _) _ _
    · have HC : Hid (kyC l = suF l ∧ kyV l = 0) := by
        have e : kyC l = suF l := by unfold kyC; rw [if_pos h32]
        exact ⟨e, by unfold kyV; rw [if_neg (by rw [e]; exact hf)]⟩
      have e0 : (suF l != 0) = true := by simpa using hf
      generalize suF l = cc at *
      have k0 : E.cell? ⟨w.heap.size, 0, none⟩ = some (.int .i64 0) := (RE.cell 0).trans rfl
      have k1 : E.cell? ⟨w.heap.size, 1, none⟩ = some (.int .i64 0) := (RE.cell 1).trans rfl
      have f0 := RE.frozen 0
      have f1 := RE.frozen 1
      clear h32 hf
      go_enter Tryz.func95, Tryz.ntmps95
      go_wp2_with fail
      simp only [← hE]
      clear hE
      refine (SF).mono ?_
      rintro r u ⟨rfl, hu⟩; have hu2 := hu.symm; subst hu2; clear hu
      go_wp2
      refine bodyPost_ret (v := .agg #[.int .i64 cc, .int .i64 0]) (by simp [results, Tryz.results95, go_sem, k0, k1]) rfl ⟨by rw [HC.out.1, HC.out.2], ?_⟩
      exact set2 B0 (Nat.le_refl _) (Nat.le_refl _) _ _
  · have e32 : ((l.length : Int) != 32) = true := by simp; omega
    have HC : Hid (kyC l = 2 ∧ kyV l = 0) := by
      have e : kyC l = 2 := by unfold kyC; rw [if_neg h32]
      exact ⟨e, by unfold kyV; rw [if_neg (by omega)]⟩
    clear h32 RE h' zE B0
    subst hE
    go_enter Tryz.func95, Tryz.ntmps95
    go_wp2
    refine bodyPost_ret (v := .agg #[.int .i64 2, .int .i64 0]) (by simp [results, Tryz.results95, go_sem]) rfl ⟨by rw [HC.out.1, HC.out.2], ?_⟩
    repeat (first | exact Below.refl _ _ | refine Below.alloc ?_ (by (try simp) <;> omega) _ | refine Below.setCell ?_ (by (try simp) <;> omega) _)

end Go.Proofs.YtffidkoejlebeaaGreatDoor

namespace Go.Proofs.YtffidkoejlebeaaGreatDoor
open Go.ChangeShapes Go.WideShapes Go.ChangeAt Go.RowKit
set_option maxRecDepth 100000
set_option linter.unusedVariables false
set_option linter.unusedSimpArgs false

set_option maxHeartbeats 4000000 in
theorem opened_any (i d : Int) (n : Nat) (sb so ob oo ca cb : Nat) (sh ot : List Int) (w : World) (hT : Tab w) (hn : n < 16) (hd : d = 0 ∨ d = 1) (ls : sh.length = 16) (lo : ot.length = 16) (hs : Has w .i64 (some ⟨sb, so, none⟩) sh.length sh) (ho : Has w .i64 (some ⟨ob, oo, none⟩) ot.length ot) (as' : allS sh = true) :
    Calls Tryz.prog 103 #[.agg #[.int .i64 i, .slice (some ⟨sb, so, none⟩) sh.length ca, .slice (some ⟨ob, oo, none⟩) ot.length cb], .int .i64 n, .int .i64 d] w fun r w' => r = .returned (.agg #[.int .i64 (if d = 0 then opnV (sh.getD n 0) else ot.getD n 0), .int .i64 (if d = 0 then ot.getD n 0 else opnV (sh.getD n 0))]) ∧ Below w.heap.size w w' := by
  obtain ⟨E, hE⟩ : ∃ E, E = ((w.alloc (.cells #[.int .i64 i, .slice (some ⟨sb, so, none⟩) sh.length ca, .slice (some ⟨ob, oo, none⟩) ot.length cb] 36)).alloc (.cells #[.int .i64 0, .int .i64 0] 120)).alloc (.cells #[.int .i64 0, .int .i64 0] 120) := ⟨_, rfl⟩
  have zE : E.heap.size = w.heap.size + 3 := by rw [hE]; simp
  have B0 : Below w.heap.size w E := by rw [hE]; exact (((Below.refl _ _).alloc (Nat.le_refl _) _).alloc (by simp) _).alloc (by simp; omega) _
  have GE : Blk E w.heap.size #[.int .i64 i, .slice (some ⟨sb, so, none⟩) sh.length ca, .slice (some ⟨ob, oo, none⟩) ot.length cb] 36 := by rw [hE]; exact (Blk.new w _ _).below (((Below.refl _ _).alloc (Nat.le_refl _) _).alloc (by simp) _) (by simp)
  have RE : Blk E (w.heap.size + 1) #[.int .i64 0, .int .i64 0] 120 := by
    have := (Blk.new (w.alloc (.cells #[.int .i64 i, .slice (some ⟨sb, so, none⟩) sh.length ca, .slice (some ⟨ob, oo, none⟩) ot.length cb] 36)) #[.int .i64 0, .int .i64 0] 120).below ((Below.refl _ _).alloc (Nat.le_refl _) (.cells #[.int .i64 0, .int .i64 0] 120)) (by simp)
    rw [World.size_alloc] at this
    rw [hE]; exact this
  have PE : Blk E (w.heap.size + 2) #[.int .i64 0, .int .i64 0] 120 := by
    have := Blk.new ((w.alloc (.cells #[.int .i64 i, .slice (some ⟨sb, so, none⟩) sh.length ca, .slice (some ⟨ob, oo, none⟩) ot.length cb] 36)).alloc (.cells #[.int .i64 0, .int .i64 0] 120)) #[.int .i64 0, .int .i64 0] 120
    rw [World.size_alloc, World.size_alloc] at this
    rw [hE]; exact this
  have hsE := (hs.below B0 (Nat.le_refl _)).2.2
  have hoE := (ho.below B0 (Nat.le_refl _)).2.2
  have sc : E.cell? ⟨sb, so + n, none⟩ = some (.int .i64 (sh.getD n 0)) ∧ sb < w.heap.size := by
    rcases hsE with c | ⟨b, off, e, _, hc⟩
    · omega
    · simp at e
      obtain ⟨rfl, rfl⟩ := e
      refine ⟨hc n (by omega), ?_⟩
      rcases hs.2.2 with c | ⟨b', off', e', hb', _⟩
      · omega
      · simp at e'; rw [e'.1]; exact hb'
  have oc : E.cell? ⟨ob, oo + n, none⟩ = some (.int .i64 (ot.getD n 0)) ∧ ob < w.heap.size := by
    rcases hoE with c | ⟨b, off, e, _, hc⟩
    · omega
    · simp at e
      obtain ⟨rfl, rfl⟩ := e
      refine ⟨hc n (by omega), ?_⟩
      rcases ho.2.2 with c | ⟨b', off', e', hb', _⟩
      · omega
      · simp at e'; rw [e'.1]; exact hb'
  have hn' : (n : Int) < 16 := by omega
  have bd := getD_all as' n
  have PN := publicNumber_any (sh.getD n 0) E (hT.below B0 (Nat.le_refl _)) bd.1 (by omega)
  generalize opnV (sh.getD n 0) = y at *
  generalize sh.getD n 0 = x at *
  generalize ot.getD n 0 = z at *
  rw [ls, lo] at *
  have k1 : E.cell? ⟨w.heap.size, 1, none⟩ = some (.slice (some ⟨sb, so, none⟩) 16 ca) := (GE.cell 1).trans rfl
  have k2 : E.cell? ⟨w.heap.size, 2, none⟩ = some (.slice (some ⟨ob, oo, none⟩) 16 cb) := (GE.cell 2).trans rfl
  obtain ⟨sc1, sc2⟩ := sc
  obtain ⟨oc1, oc2⟩ := oc
  have OS0 : ∀ u : World, Calls Tryz.prog 92 #[.int .i64 0] u fun r w' => r = .returned (.int .i64 1) ∧ w' = u := fun u => otherSide_any 0 u (by decide) (by decide)
  have OS1 : ∀ u : World, Calls Tryz.prog 92 #[.int .i64 1] u fun r w' => r = .returned (.int .i64 0) ∧ w' = u := fun u => otherSide_any 1 u (by decide) (by decide)
  clear hsE hoE hs ho hT bd
  rcases hd with rfl | rfl
  · go_enter Tryz.func103, Tryz.ntmps103
    go_upto_region 2 with fail
    simp only [← hE]
    clear hE
    go_wp2_with fail
    refine PN.mono ?_
    rintro r u1 ⟨rfl, hb1⟩
    have B1 := B0.trans (hb1.mono B0.size)
    have z1 := hb1.size
    have G1 := GE.below hb1 GE.lt
    have R1 := RE.below hb1 RE.lt
    have P1 := PE.below hb1 PE.lt
    have q0 : u1.cell? ⟨w.heap.size + 2, 0, none⟩ = some (.int .i64 0) := (P1.cell 0).trans rfl
    have g0 := P1.frozen 0
    have P2 := P1.set 0 (.int .i64 y)
    obtain ⟨W, hW⟩ : ∃ W, W = u1.setCell ⟨w.heap.size + 2, 0, none⟩ (.int .i64 y) := ⟨_, rfl⟩
    rw [← hW] at P2
    have fW : Fr (fun k => k = w.heap.size + 2) u1 W := by rw [hW]; exact (Fr.refl _ _).setCell _ _ rfl
    have G2 := G1.fr fW (by omega)
    have R2 := R1.fr fW (by omega)
    have c2 : W.cell? ⟨w.heap.size, 2, none⟩ = some (.slice (some ⟨ob, oo, none⟩) 16 cb) := (G2.cell 2).trans rfl
    have c3 : W.cell? ⟨ob, oo + n, none⟩ = some (.int .i64 z) := (World.cell?_of_block (a := ⟨ob, oo + n, none⟩) (fW.block ob (by omega) (by omega))).trans ((hb1.cell (p := ⟨ob, oo + n, none⟩) (show ob < E.heap.size by omega)).trans oc1)
    have B2 : Below w.heap.size w W := by rw [hW]; exact B1.setCell (by show _ ≤ w.heap.size + 2; omega) _
    have P2h : Hid (Blk W (w.heap.size + 2) _ 120) := P2
    have R2h : Hid (Blk W (w.heap.size + 1) _ 120) := R2
    clear k1 k2 sc1 oc1 GE RE PE hb1 G1 R1 P1 G2 PN
    have p1 : W.cell? ⟨w.heap.size + 2, 1, none⟩ = some (.int .i64 0) := (P2.cell 1).trans rfl
    have h1 := P2.frozen 1
    have hgl : w.heap.size < W.heap.size := by have := B2.size; have := R2.lt; omega
    go_wp2_with fail
    simp only [← hW]
    clear hW q0 g0 P2 R2 fW
    go_region_held3 (fun wx => wx.cell? ⟨w.heap.size, 2, none⟩ = some (.slice (some ⟨ob, oo, none⟩) 16 cb) ∧ wx.cell? ⟨ob, oo + n, none⟩ = some (.int .i64 z)) ((simp_all [go_sem]; try omega)) (first | (go_at_call 92; refine (OS0 _).mono ?_; rintro _ u ⟨rfl, hu⟩; have hu2 := hu.symm; subst hu2; clear hu) | fail)
    obtain ⟨Z, hZ⟩ : ∃ Z, Z = (W.setCell ⟨w.heap.size + 1 + 1, 1, none⟩ (.int .i64 z)).drew := ⟨_, rfl⟩
    have f3 : Fr (fun k => k = w.heap.size + 2) W Z := by rw [hZ]; exact Fr.trans (M := fun k => k = w.heap.size + 2) (M' := fun _ => False) ((Fr.refl _ W).setCell ⟨w.heap.size + 2, 1, none⟩ (.int .i64 z) rfl) (.of_below ((Below.refl _ _).drew) (Nat.le_refl _)) (fun _ _ e => e.elim)
    have P3 : Blk Z (w.heap.size + 2) #[.int .i64 y, .int .i64 z] 120 := by
      have h := (P2h.out.set 1 (.int .i64 z)).below ((Below.refl _ _).drew) (P2h.out.set 1 (.int .i64 z)).lt
      rw [hZ]; exact h
    have R3 := R2h.out.fr f3 (by omega)
    have B3 : Below w.heap.size w Z := B2.trans (f3.below (B := w.heap.size) (fun k e => by omega) B2.size)
    simp only [← hZ]
    clear hZ p1 h1 c2 c3 P2h R2h f3
    have p0 : Z.cell? ⟨w.heap.size + 2, 0, none⟩ = some (.int .i64 y) := (P3.cell 0).trans rfl
    have p1 : Z.cell? ⟨w.heap.size + 2, 1, none⟩ = some (.int .i64 z) := (P3.cell 1).trans rfl
    have r0 : Z.cell? ⟨w.heap.size + 1, 0, none⟩ = some (.int .i64 0) := (R3.cell 0).trans rfl
    have r1 : Z.cell? ⟨w.heap.size + 1, 1, none⟩ = some (.int .i64 0) := (R3.cell 1).trans rfl
    have s0 := R3.frozen 0
    have s1 := R3.frozen 1
    clear P3 R3
    go_wp2
    refine bodyPost_ret (v := .agg #[.int .i64 y, .int .i64 z]) (by simp [results, Tryz.results103, go_sem, r0, r1]) rfl ⟨by simp, ?_⟩
    exact (B3.setCell (Nat.le_succ _) _).setCell (Nat.le_succ _) _
  · go_enter Tryz.func103, Tryz.ntmps103
    go_upto_region 2 with fail
    simp only [← hE]
    clear hE
    go_wp2_with fail
    refine PN.mono ?_
    rintro r u1 ⟨rfl, hb1⟩
    have B1 := B0.trans (hb1.mono B0.size)
    have z1 := hb1.size
    have G1 := GE.below hb1 GE.lt
    have R1 := RE.below hb1 RE.lt
    have P1 := PE.below hb1 PE.lt
    have q0 : u1.cell? ⟨w.heap.size + 2, 1, none⟩ = some (.int .i64 0) := (P1.cell 1).trans rfl
    have g0 := P1.frozen 1
    have P2 := P1.set 1 (.int .i64 y)
    obtain ⟨W, hW⟩ : ∃ W, W = u1.setCell ⟨w.heap.size + 2, 1, none⟩ (.int .i64 y) := ⟨_, rfl⟩
    rw [← hW] at P2
    have fW : Fr (fun k => k = w.heap.size + 2) u1 W := by rw [hW]; exact (Fr.refl _ _).setCell _ _ rfl
    have G2 := G1.fr fW (by omega)
    have R2 := R1.fr fW (by omega)
    have c2 : W.cell? ⟨w.heap.size, 2, none⟩ = some (.slice (some ⟨ob, oo, none⟩) 16 cb) := (G2.cell 2).trans rfl
    have c3 : W.cell? ⟨ob, oo + n, none⟩ = some (.int .i64 z) := (World.cell?_of_block (a := ⟨ob, oo + n, none⟩) (fW.block ob (by omega) (by omega))).trans ((hb1.cell (p := ⟨ob, oo + n, none⟩) (show ob < E.heap.size by omega)).trans oc1)
    have B2 : Below w.heap.size w W := by rw [hW]; exact B1.setCell (by show _ ≤ w.heap.size + 2; omega) _
    have P2h : Hid (Blk W (w.heap.size + 2) _ 120) := P2
    have R2h : Hid (Blk W (w.heap.size + 1) _ 120) := R2
    clear k1 k2 sc1 oc1 GE RE PE hb1 G1 R1 P1 G2 PN
    have p1 : W.cell? ⟨w.heap.size + 2, 0, none⟩ = some (.int .i64 0) := (P2.cell 0).trans rfl
    have h1 := P2.frozen 0
    have hgl : w.heap.size < W.heap.size := by have := B2.size; have := R2.lt; omega
    go_wp2_with fail
    simp only [← hW]
    clear hW q0 g0 P2 R2 fW
    go_region_held3 (fun wx => wx.cell? ⟨w.heap.size, 2, none⟩ = some (.slice (some ⟨ob, oo, none⟩) 16 cb) ∧ wx.cell? ⟨ob, oo + n, none⟩ = some (.int .i64 z)) ((simp_all [go_sem]; try omega)) (first | (go_at_call 92; refine (OS1 _).mono ?_; rintro _ u ⟨rfl, hu⟩; have hu2 := hu.symm; subst hu2; clear hu) | fail)
    obtain ⟨Z, hZ⟩ : ∃ Z, Z = (W.setCell ⟨w.heap.size + 1 + 1, 0, none⟩ (.int .i64 z)).drew := ⟨_, rfl⟩
    have f3 : Fr (fun k => k = w.heap.size + 2) W Z := by rw [hZ]; exact Fr.trans (M := fun k => k = w.heap.size + 2) (M' := fun _ => False) ((Fr.refl _ W).setCell ⟨w.heap.size + 2, 0, none⟩ (.int .i64 z) rfl) (.of_below ((Below.refl _ _).drew) (Nat.le_refl _)) (fun _ _ e => e.elim)
    have P3 : Blk Z (w.heap.size + 2) #[.int .i64 z, .int .i64 y] 120 := by
      have h := (P2h.out.set 0 (.int .i64 z)).below ((Below.refl _ _).drew) (P2h.out.set 0 (.int .i64 z)).lt
      rw [hZ]; exact h
    have R3 := R2h.out.fr f3 (by omega)
    have B3 : Below w.heap.size w Z := B2.trans (f3.below (B := w.heap.size) (fun k e => by omega) B2.size)
    simp only [← hZ]
    clear hZ p1 h1 c2 c3 P2h R2h f3
    have p0 : Z.cell? ⟨w.heap.size + 2, 0, none⟩ = some (.int .i64 z) := (P3.cell 0).trans rfl
    have p1 : Z.cell? ⟨w.heap.size + 2, 1, none⟩ = some (.int .i64 y) := (P3.cell 1).trans rfl
    have r0 : Z.cell? ⟨w.heap.size + 1, 0, none⟩ = some (.int .i64 0) := (R3.cell 0).trans rfl
    have r1 : Z.cell? ⟨w.heap.size + 1, 1, none⟩ = some (.int .i64 0) := (R3.cell 1).trans rfl
    have s0 := R3.frozen 0
    have s1 := R3.frozen 1
    clear P3 R3
    go_wp2
    refine bodyPost_ret (v := .agg #[.int .i64 z, .int .i64 y]) (by simp [results, Tryz.results103, go_sem, r0, r1]) rfl ⟨by simp, ?_⟩
    exact (B3.setCell (Nat.le_succ _) _).setCell (Nat.le_succ _) _

end Go.Proofs.YtffidkoejlebeaaGreatDoor
