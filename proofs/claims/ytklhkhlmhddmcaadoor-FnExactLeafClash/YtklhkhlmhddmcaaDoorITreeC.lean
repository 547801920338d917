/- Contracts: the program's cut of leaves in two parts, the roots of both; the last one of a path. Contracts: the program's walk through two trees. Contracts: the program's clash of two trees. -/
import Derived.Test.YtklhkhlmhddmcaaDoorSplit
import Derived.Test.YtklhkhlmhddmcaaDoorGrowC
import Derived.Test.YtklhkhlmhddmcaaDoorISums
import Derived.Test.YtklhkhlmhddmcaaDoorLvl
import Derived.Test.YtklhkhlmhddmcaaDoorKeep
import Derived.Deep.RegionHeld3
import Derived.Test.YtklhkhlmhddmcaaDoorIWk
import Derived.Test.YtklhkhlmhddmcaaDoorIRootP
import Derived.Deep.DeepCutAuto
import Derived.Test.YtklhkhlmhddmcaaDoorExt6C
import Derived.Test.YtklhkhlmhddmcaaDoorCOr
namespace Go.Proofs.YtklhkhlmhddmcaaDoor
open Go.ChangeShapes Go.WideShapes Go.ChangeAt Go.RowKit
set_option linter.unusedVariables false
set_option linter.unusedSimpArgs false

set_option maxHeartbeats 1000000 in
theorem cutOf_any (b o n c m : Nat) (w : World) (h2 : 2 ≤ n) (h24 : n ≤ 24) (hm : splN n = m) (hc : n ≤ c) (hcm : c ≤ maxLen) :
    Calls Tryd.prog 108 #[.slice (some ⟨b, o, none⟩) n c] w fun r w' => r = .returned (.agg #[.slice (some ⟨b, o, none⟩) m c, .slice (some ⟨b, o + m, none⟩) (n - m) (c - m)]) ∧ Below w.heap.size w w' := by
  unfold maxLen at hcm
  obtain ⟨q1, q2, q3⟩ := splN_bd (n := n) (by omega) (by omega)
  have m1 : (1 : Int) ≤ m := by omega
  have m2 : (m : Int) < n := by omega
  have m3 : (n : Int) ≤ c := by omega
  have m4 : ¬ (c : Int) = m := by omega
  have m5 : (0 : Int) ≤ m := by omega
  have m8 : ¬ c = m := by omega
  have m6 : (m : Int) ≤ c := by omega
  have m7 : (m : Int) ≤ n := by omega
  have SP : Hid (∀ u : World, Calls Tryd.prog 137 #[.int .i64 n] u fun r w' => r = .returned (.agg #[.int .i64 0, .int .i64 m]) ∧ Below u.heap.size u w') := by
    intro u
    have := implSplit_any n u
    rw [if_pos ⟨by omega, by omega⟩, if_pos ⟨by omega, by omega⟩, hm] at this
    exact this
  have F1 := fldR1
  clear q1 q2 q3 hm
  go_enter Tryd.func108, Tryd.ntmps108
  go_wp2_with fail
  refine (SP.out _).mono ?_
  rintro r u1 ⟨rfl, hb1⟩
  have B1 : Below w.heap.size w u1 := ((Below.refl _ _).alloc (Nat.le_refl _) _).trans (hb1.mono (by simp))
  obtain ⟨hc1, hf1⟩ := bcell hb1
  have z1 := hb1.size
  simp at z1
  have z2 : w.heap.size < u1.heap.size := by omega
  clear hb1
  go_wp2_with fail
  go_region
  all_goals
    go_wp2
    exact bodyPost_ret (v := .agg #[.slice (some ⟨b, o, none⟩) m c, .slice (some ⟨b, o + m, none⟩) (n - m) (c - m)]) (by simp [results, Tryd.results108, go_sem, hc1]) rfl ⟨rfl, ((B1.setCell (Nat.le_refl _) _).setCell (Nat.le_refl _) _).drew⟩

set_option maxHeartbeats 1000000 in
theorem roots_any (b o n c m : Nat) (v1 v2 : Int) (w : World)
    (R1 : ∀ u : World, Below w.heap.size w u → Calls Tryd.prog 20 #[.slice (some ⟨b, o, none⟩) m c] u fun r w' => r = .returned (.agg #[.int .i64 0, .int .i64 v1]) ∧ Below u.heap.size u w')
    (R2 : ∀ u : World, Below w.heap.size w u → Calls Tryd.prog 20 #[.slice (some ⟨b, o + m, none⟩) (n - m) (c - m)] u fun r w' => r = .returned (.agg #[.int .i64 0, .int .i64 v2]) ∧ Below u.heap.size u w') (hm : 1 ≤ m) :
    Calls Tryd.prog 111 #[.agg #[.slice (some ⟨b, o, none⟩) m c, .slice (some ⟨b, o + m, none⟩) (n - m) (c - m)]] w fun r w' => r = .returned (.agg #[.int .i64 v1, .int .i64 v2, .bool false]) ∧ Below w.heap.size w w' := by
  have H1 : Hid (_) := R1
  have H2 : Hid (_) := R2
  clear R1 R2
  have F1 := fldR1
  have E0 : Below w.heap.size w (((w.alloc (.cells #[.slice (some ⟨b, o, none⟩) m c, .slice (some ⟨b, o + m, none⟩) (n - m) (c - m)] 115)).alloc (.cells #[.int .i64 0, .int .i64 0, .bool false] 121))) := ((Below.refl _ _).alloc (Nat.le_refl _) _).alloc (by simp) _
  obtain ⟨E, hE⟩ : ∃ E, E = ((w.alloc (.cells #[.slice (some ⟨b, o, none⟩) m c, .slice (some ⟨b, o + m, none⟩) (n - m) (c - m)] 115)).alloc (.cells #[.int .i64 0, .int .i64 0, .bool false] 121)) := ⟨_, rfl⟩
  have zE : E.heap.size = w.heap.size + 1 + 1 := by rw [hE]; simp
  have g1 : w.heap.size < E.heap.size := by omega
  have g2 : w.heap.size + 1 < E.heap.size := by omega
  have CE : ∀ wx : World, Below E.heap.size E wx → (wx.cell? ⟨w.heap.size, 0, none⟩ = some (.slice (some ⟨b, o, none⟩) m c) ∧ wx.cell? ⟨w.heap.size, 1, none⟩ = some (.slice (some ⟨b, o + m, none⟩) (n - m) (c - m))) ∧ (wx.cell? ⟨w.heap.size + 1, 0, none⟩ = some (.int .i64 0) ∧ wx.cell? ⟨w.heap.size + 1, 1, none⟩ = some (.int .i64 0) ∧ wx.cell? ⟨w.heap.size + 1, 2, none⟩ = some (.bool false)) ∧ (wx.frozen? ⟨w.heap.size + 1, 0, none⟩ = false ∧ wx.frozen? ⟨w.heap.size + 1, 1, none⟩ = false ∧ wx.frozen? ⟨w.heap.size + 1, 2, none⟩ = false) := by
    intro wx h
    refine ⟨⟨(h.cell (p := ⟨w.heap.size, 0, none⟩) g1).trans ?_, (h.cell (p := ⟨w.heap.size, 1, none⟩) g1).trans ?_⟩, ⟨(h.cell (p := ⟨w.heap.size + 1, 0, none⟩) g2).trans ?_, (h.cell (p := ⟨w.heap.size + 1, 1, none⟩) g2).trans ?_, (h.cell (p := ⟨w.heap.size + 1, 2, none⟩) g2).trans ?_⟩, ⟨(h.frozen (p := ⟨w.heap.size + 1, 0, none⟩) g2).trans ?_, (h.frozen (p := ⟨w.heap.size + 1, 1, none⟩) g2).trans ?_, (h.frozen (p := ⟨w.heap.size + 1, 2, none⟩) g2).trans ?_⟩⟩ <;> rw [hE] <;> simp [go_sem]
  have c0 : ∀ wx : World, Below (w.heap.size + 1) E wx → wx.cell? ⟨w.heap.size, 0, none⟩ = some (.slice (some ⟨b, o, none⟩) m c) := fun wx h => (h.cell (p := ⟨w.heap.size, 0, none⟩) (Nat.lt_succ_self _)).trans (CE E (Below.refl _ _)).1.1
  have c1 : ∀ wx : World, Below (w.heap.size + 1) E wx → wx.cell? ⟨w.heap.size, 1, none⟩ = some (.slice (some ⟨b, o + m, none⟩) (n - m) (c - m)) := fun wx h => (h.cell (p := ⟨w.heap.size, 1, none⟩) (Nat.lt_succ_self _)).trans (CE E (Below.refl _ _)).1.2
  have CEH : Hid (_) := CE
  have W0 : Hid (Below w.heap.size w E) := by show _; rw [hE]; exact E0
  have D0 : Below E.heap.size E E.drew := (Below.refl _ _).drew
  have D0' : Below (w.heap.size + 1) E E.drew := D0.mono (by omega)
  have g3 : w.heap.size + 1 ≤ E.heap.size := by omega
  clear CE E0 zE
  go_enter Tryd.func111, Tryd.ntmps111
  go_wp2_with fail
  simp only [← hE]
  clear hE
  go_region_held3 (fun wx => Below (w.heap.size + 1) E wx)
    ((first | exact D0' | exact D2' | exact D1' | exact ((D2'.setCell (Nat.le_refl _) _).setCell (Nat.le_refl _) _).setCell (Nat.le_refl _) _))
    ((first | (go_at_call_of 20 (Value.slice (some ⟨b, o, none⟩) m c); refine (H1.out _ (W0.out.trans (Below.mono D0 W0.out.size))).mono ?_; rintro _ ua ⟨rfl, hba⟩; have D1 : Below E.heap.size E ua := Below.trans D0 (hba.mono (Below.size D0)); have D1' : Below (w.heap.size + 1) E ua := D1.mono g3) | (go_at_call_of 20 (Value.slice (some ⟨b, o + m, none⟩) (n - m) (c - m)); refine (H2.out _ (W0.out.trans (Below.mono D1 W0.out.size))).mono ?_; rintro _ ub ⟨rfl, hbb⟩; have D2 : Below E.heap.size E ub := Below.trans D1 (hbb.mono (Below.size D1)); have D2' : Below (w.heap.size + 1) E ub := D2.mono g3; have hvv := CEH.out _ D2; obtain ⟨_, ⟨p0, p1, p2⟩, ⟨f0, f1, f2⟩⟩ := hvv) | fail))
  go_wp2
  have W2 : Below w.heap.size w ub := W0.out.trans (D2.mono W0.out.size)
  exact bodyPost_ret (v := .agg #[.int .i64 v1, .int .i64 v2, .bool false]) (by simp [results, Tryd.results111, go_sem, p0, p1, p2]) rfl ⟨rfl, ((W2.setCell (Nat.le_succ _) _).setCell (Nat.le_succ _) _).setCell (Nat.le_succ _) _⟩

theorem lastOf_any (b o n c : Nat) (v : Int) (w : World) (hcell : w.cell? ⟨b, o + n, none⟩ = some (.int .i64 v)) (hc : n + 1 ≤ c) (hcm : c ≤ maxLen) :
    Calls Tryd.prog 109 #[.slice (some ⟨b, o, none⟩) (n + 1) c] w fun r w' => r = .returned (.tuple #[.int .i64 v, .slice (some ⟨b, o, none⟩) n c]) ∧ ∃ k, w' = w.drewN k := by
  unfold maxLen at hcm
  have m1 : (0 : Int) ≤ n := by omega
  have m2 : (n : Int) < (n : Int) + 1 := by omega
  have m3 : (n : Int) < ((n + 1 : Nat) : Int) := by omega
  have m4 : (n : Int) ≤ c := by omega
  have m5 : ((n + 1 : Nat) : Int) - 1 = n := by omega
  have m6 : ((n : Int) + 1) - 1 = n := by omega
  go_enter Tryd.func109, Tryd.ntmps109
  go_wp2_with fail
  go_quiet (fail)
  go_wp2
  exact bodyPost_ret (v := .tuple #[.int .i64 v, .slice (some ⟨b, o, none⟩) n c]) (by simp [results, Tryd.results109, go_sem]) rfl ⟨rfl, _, rfl⟩

end Go.Proofs.YtklhkhlmhddmcaaDoor

namespace Go.Proofs.YtklhkhlmhddmcaaDoor
open Go.ChangeShapes Go.WideShapes Go.ChangeAt Go.RowKit
set_option linter.unusedVariables false
set_option linter.unusedSimpArgs false

/-- A variable of two empty slices that was made. -/
def Vr (u : World) (q : Nat) : Prop := (u.cell? ⟨q, 0, none⟩ = some (.slice none 0 0) ∧ u.cell? ⟨q, 1, none⟩ = some (.slice none 0 0)) ∧ (u.frozen? ⟨q, 0, none⟩ = false ∧ u.frozen? ⟨q, 1, none⟩ = false) ∧ q < u.heap.size ∧ ¬ q = u.heap.size ∧ ¬ u.heap.size = q
theorem Vr.on {u u' : World} {q : Nat} (h : Vr u q) (hb : Below u.heap.size u u') : Vr u' q :=
  ⟨⟨(hb.cell (p := ⟨q, 0, none⟩) h.2.2.1).trans h.1.1, (hb.cell (p := ⟨q, 1, none⟩) h.2.2.1).trans h.1.2⟩, ⟨(hb.frozen (p := ⟨q, 0, none⟩) h.2.2.1).trans h.2.1.1, (hb.frozen (p := ⟨q, 1, none⟩) h.2.2.1).trans h.2.1.2⟩, Nat.lt_of_lt_of_le h.2.2.1 hb.size, by have := h.2.2.1; have := hb.size; omega, by have := h.2.2.1; have := hb.size; omega⟩
theorem Vr.new (V : World) (T : Nat) : Vr (V.alloc (.cells #[.slice none 0 0, .slice none 0 0] T)) V.heap.size := by
  refine ⟨⟨?_, ?_⟩, ⟨?_, ?_⟩, ?_, ?_, ?_⟩ <;> simp [go_sem]
theorem Vr.alloc {u : World} {q : Nat} (h : Vr u q) (O : Obj) : Vr (u.alloc O) q := h.on ((Below.refl _ _).alloc (Nat.le_refl _) _)
theorem ofA {V : World} {O : Obj} {u : World} (h : Below (V.alloc O).heap.size (V.alloc O) u) : Below V.heap.size V u := ((Below.refl _ _).alloc (Nat.le_refl _) _).trans (h.mono (by simp))
theorem Vr.drew {u : World} {q : Nat} (h : Vr u q) : Vr u.drew q := h.on (Below.refl _ _).drew

theorem treeWalk_any (x y : Option Addr) (n k cx cy : Nat) (w : World) :
    Calls Tryd.prog 87 #[.slice x n cx, .slice y k cy] w fun r w' => r = .returned (.func (.func 132) #[] #[.pointer (some ⟨w.heap.size, 0, none⟩), .pointer (some ⟨w.heap.size + 1, 0, none⟩)]) ∧ w' = (w.alloc (.cells #[.slice x n cx] 25)).alloc (.cells #[.slice y k cy] 25) := by
  have hmf : ∀ (fn : Fn) (first cap : Array Value) (w : World), (Instr.makeFunc fn first cap).run Tryd.prog w = .ok (.func fn first cap) w := fun _ _ _ _ => rfl
  go_enter Tryd.func87, Tryd.ntmps87
  go_wp2
  go_ret
  exact ⟨rfl, rfl⟩

set_option maxHeartbeats 8000000 in
set_option maxRecDepth 100000 in
theorem treeWalk1_step (pa pb b1 o1 b2 o2 cx cy N m : Nat) (v1 v2 v3 v4 : Int) (X1 X2 X3 : Cl) (w : World) (h2 : 2 ≤ N) (h24 : N ≤ 24) (hm : splN N = m) (hcx : N ≤ cx) (hmx : cx ≤ maxLen) (hcy : N ≤ cy) (hmy : cy ≤ maxLen)
    (ca : w.cell? ⟨pa, 0, none⟩ = some (.slice (some ⟨b1, o1, none⟩) N cx)) (cb : w.cell? ⟨pb, 0, none⟩ = some (.slice (some ⟨b2, o2, none⟩) N cy)) (la : pa < w.heap.size) (lb : pb < w.heap.size)
    (RA : ∀ u : World, Below w.heap.size w u → Calls Tryd.prog 111 #[.agg #[.slice (some ⟨b1, o1, none⟩) m cx, .slice (some ⟨b1, o1 + m, none⟩) (N - m) (cx - m)]] u fun r w' => r = .returned (.agg #[.int .i64 v1, .int .i64 v2, .bool false]) ∧ Below u.heap.size u w')
    (RB : ∀ u : World, Below w.heap.size w u → Calls Tryd.prog 111 #[.agg #[.slice (some ⟨b2, o2, none⟩) m cy, .slice (some ⟨b2, o2 + m, none⟩) (N - m) (cy - m)]] u fun r w' => r = .returned (.agg #[.int .i64 v3, .int .i64 v4, .bool false]) ∧ Below u.heap.size u w')
    (ND : ∀ u : World, Below w.heap.size w u → Calls Tryd.prog 110 #[.agg #[.int .i64 v1, .int .i64 v2, .bool false], .agg #[.int .i64 v3, .int .i64 v4, .bool false]] u (WkE X1 u))
    (T1 : ∀ (u : World) (qa qb : Nat), Below w.heap.size w u → u.cell? ⟨qa, 0, none⟩ = some (.slice (some ⟨b1, o1, none⟩) m cx) → u.cell? ⟨qb, 0, none⟩ = some (.slice (some ⟨b2, o2, none⟩) m cy) → qa < u.heap.size → qb < u.heap.size → Calls Tryd.prog 132 #[.pointer (some ⟨qa, 0, none⟩), .pointer (some ⟨qb, 0, none⟩)] u (WkE X2 u))
    (T2 : ∀ (u : World) (qa qb : Nat), Below w.heap.size w u → u.cell? ⟨qa, 0, none⟩ = some (.slice (some ⟨b1, o1 + m, none⟩) (N - m) (cx - m)) → u.cell? ⟨qb, 0, none⟩ = some (.slice (some ⟨b2, o2 + m, none⟩) (N - m) (cy - m)) → qa < u.heap.size → qb < u.heap.size → Calls Tryd.prog 132 #[.pointer (some ⟨qa, 0, none⟩), .pointer (some ⟨qb, 0, none⟩)] u (WkE X3 u)) :
    Calls Tryd.prog 132 #[.pointer (some ⟨pa, 0, none⟩), .pointer (some ⟨pb, 0, none⟩)] w (WkE (X1 <|> (X2 <|> X3)) w) := by
  have e1 : ((N : Int) == 1) = false := by simp; omega
  have RAH : Hid (_) := RA
  have RBH : Hid (_) := RB
  have NDH : Hid (_) := ND
  have T1H : Hid (_) := T1
  have T2H : Hid (_) := T2
  have CU1 : Hid (∀ u : World, Calls Tryd.prog 108 #[.slice (some ⟨b1, o1, none⟩) N cx] u fun r w' => r = .returned (.agg #[.slice (some ⟨b1, o1, none⟩) m cx, .slice (some ⟨b1, o1 + m, none⟩) (N - m) (cx - m)]) ∧ Below u.heap.size u w') := fun u => cutOf_any b1 o1 N cx m u h2 h24 hm hcx hmx
  have CU2 : Hid (∀ u : World, Calls Tryd.prog 108 #[.slice (some ⟨b2, o2, none⟩) N cy] u fun r w' => r = .returned (.agg #[.slice (some ⟨b2, o2, none⟩) m cy, .slice (some ⟨b2, o2 + m, none⟩) (N - m) (cy - m)]) ∧ Below u.heap.size u w') := fun u => cutOf_any b2 o2 N cy m u h2 h24 hm hcy hmy
  have ka : ∀ wx : World, Below w.heap.size w wx → wx.cell? ⟨pa, 0, none⟩ = some (.slice (some ⟨b1, o1, none⟩) N cx) := fun wx h => (h.cell (p := ⟨pa, 0, none⟩) la).trans ca
  have kb : ∀ wx : World, Below w.heap.size w wx → wx.cell? ⟨pb, 0, none⟩ = some (.slice (some ⟨b2, o2, none⟩) N cy) := fun wx h => (h.cell (p := ⟨pb, 0, none⟩) lb).trans cb
  have D0 : Below w.heap.size w w.drew := (Below.refl _ _).drew
  have hmf : ∀ (fn : Fn) (first cap : Array Value) (w : World), (Instr.makeFunc fn first cap).run Tryd.prog w = .ok (.func fn first cap) w := fun _ _ _ _ => rfl
  clear RA RB ND T1 T2 hm h2 h24
  go_enter Tryd.func132, Tryd.ntmps132
  go_upto_region 1 with fail
  go_cut [2, 3] (fun s2 s3 wx => ∃ q1 q2 : Nat, s2 = .pointer (some ⟨q1, 0, none⟩) ∧ s3 = .pointer (some ⟨q2, 0, none⟩) ∧ (wx.cell? ⟨q1, 0, none⟩ = some (.slice (some ⟨b1, o1, none⟩) m cx) ∧ wx.cell? ⟨q1, 1, none⟩ = some (.slice (some ⟨b1, o1 + m, none⟩) (N - m) (cx - m))) ∧ (wx.cell? ⟨q2, 0, none⟩ = some (.slice (some ⟨b2, o2, none⟩) m cy) ∧ wx.cell? ⟨q2, 1, none⟩ = some (.slice (some ⟨b2, o2 + m, none⟩) (N - m) (cy - m))) ∧ q1 < wx.heap.size ∧ q2 < wx.heap.size ∧ Below w.heap.size w wx)
  case first =>
    go_region_held3 (fun wx => Below w.heap.size w wx)
      ((first | exact D0 | assumption | (repeat (first | assumption | exact D0 | exact D1 | exact D2 | exact Below.refl _ _ | (refine Below.drew ?_) | (refine Below.alloc ?_ (by (try simp) <;> omega) _) | (refine Below.setCell ?_ (by (try simp) <;> omega) _)))))
      ((first | (go_at_call_of 108 (Value.slice (some ⟨b1, o1, none⟩) N cx); refine (CU1.out _).mono ?_; rintro _ ua ⟨rfl, hba⟩; have D1 : Below w.heap.size w ua := Below.trans (by assumption) (hba.mono (Below.size (by assumption))); have zD := D1.size; (try (have n1 := Vr.on (Vr.new _ _) hba; have n1' := n1; obtain ⟨⟨ax1, bx1⟩, ⟨cx1, dx1⟩, ex1, fx1, gx1⟩ := n1'; (try simp at ax1); (try simp at bx1); (try simp at cx1); (try simp at dx1); (try simp at ex1); (try simp at fx1); (try simp at gx1))); (try (have n1 := Vr.on (Vr.drew (Vr.new _ _)) hba; have n1' := n1; obtain ⟨⟨ax1, bx1⟩, ⟨cx1, dx1⟩, ex1, fx1, gx1⟩ := n1'; (try simp at ax1); (try simp at bx1); (try simp at cx1); (try simp at dx1); (try simp at ex1); (try simp at fx1); (try simp at gx1))); (try (have n2 := Vr.on (Vr.alloc (Vr.new _ _) _) hba; have n2' := n2; obtain ⟨⟨ax2, bx2⟩, ⟨cx2, dx2⟩, ex2, fx2, gx2⟩ := n2'; (try simp at ax2); (try simp at bx2); (try simp at cx2); (try simp at dx2); (try simp at ex2); (try simp at fx2); (try simp at gx2))); (try (have n2 := Vr.on (Vr.drew (Vr.alloc (Vr.new _ _) _)) hba; have n2' := n2; obtain ⟨⟨ax2, bx2⟩, ⟨cx2, dx2⟩, ex2, fx2, gx2⟩ := n2'; (try simp at ax2); (try simp at bx2); (try simp at cx2); (try simp at dx2); (try simp at ex2); (try simp at fx2); (try simp at gx2)))) | (go_at_call_of 108 (Value.slice (some ⟨b2, o2, none⟩) N cy); refine (CU2.out _).mono ?_; rintro _ ub ⟨rfl, hbb⟩; have D2 : Below w.heap.size w ub := Below.trans (by assumption) (hbb.mono (Below.size (by assumption))); have zE := D2.size; (try (have m1 := Vr.on (Vr.new _ _) hbb; have m1' := m1; obtain ⟨⟨ay1, by1⟩, ⟨cy1, dy1⟩, ey1, fy1, gy1⟩ := m1'; (try simp at ay1); (try simp at by1); (try simp at cy1); (try simp at dy1); (try simp at ey1); (try simp at fy1); (try simp at gy1))); (try (have m2 := Vr.on (Vr.alloc (Vr.new _ _) _) hbb; have m2' := m2; obtain ⟨⟨ay2, by2⟩, ⟨cy2, dy2⟩, ey2, fy2, gy2⟩ := m2'; (try simp at ay2); (try simp at by2); (try simp at cy2); (try simp at dy2); (try simp at ey2); (try simp at fy2); (try simp at gy2))); (try (have k1 := Vr.on n1 (by first | exact hbb | exact ofA hbb | exact ofA (ofA hbb)); have k1' := k1; obtain ⟨⟨az1, bz1⟩, ⟨cz1, dz1⟩, ez1, fz1, gz1⟩ := k1'; (try simp at az1); (try simp at bz1); (try simp at cz1); (try simp at dz1); (try simp at ez1); (try simp at fz1); (try simp at gz1))); (try (have k2 := Vr.on n2 (by first | exact hbb | exact ofA hbb | exact ofA (ofA hbb)); have k2' := k2; obtain ⟨⟨az2, bz2⟩, ⟨cz2, dz2⟩, ez2, fz2, gz2⟩ := k2'; (try simp at az2); (try simp at bz2); (try simp at cz2); (try simp at dz2); (try simp at ez2); (try simp at fz2); (try simp at gz2)))) | fail))
    all_goals go_wp2_with fail
    all_goals go_meet
    all_goals (refine ⟨_, _, rfl, rfl, ⟨by go_simp, by go_simp⟩, ⟨by go_simp, by go_simp⟩, by go_simp, by go_simp, ?_⟩)
    all_goals (repeat (first | assumption | exact D0 | exact D1 | exact D2 | exact Below.refl _ _ | (refine Below.drew ?_) | (refine Below.alloc ?_ (by (try simp) <;> omega) _) | (refine Below.setCell ?_ (by (try simp) <;> omega) _)))
  case rest =>
    obtain ⟨q1, q2, rfl, rfl, ⟨k1, k2⟩, ⟨k3, k4⟩, l1, l2, W1⟩ := hcut
    generalize wc = E at *
    have c1 : ∀ wx : World, Below E.heap.size E wx → wx.cell? ⟨q1, 0, none⟩ = some (.slice (some ⟨b1, o1, none⟩) m cx) := fun wx h => (h.cell (p := ⟨q1, 0, none⟩) l1).trans k1
    have c2 : ∀ wx : World, Below E.heap.size E wx → wx.cell? ⟨q1, 1, none⟩ = some (.slice (some ⟨b1, o1 + m, none⟩) (N - m) (cx - m)) := fun wx h => (h.cell (p := ⟨q1, 1, none⟩) l1).trans k2
    have c3 : ∀ wx : World, Below E.heap.size E wx → wx.cell? ⟨q2, 0, none⟩ = some (.slice (some ⟨b2, o2, none⟩) m cy) := fun wx h => (h.cell (p := ⟨q2, 0, none⟩) l2).trans k3
    have c4 : ∀ wx : World, Below E.heap.size E wx → wx.cell? ⟨q2, 1, none⟩ = some (.slice (some ⟨b2, o2 + m, none⟩) (N - m) (cy - m)) := fun wx h => (h.cell (p := ⟨q2, 1, none⟩) l2).trans k4
    have VE : Hid (∀ wx : World, Below E.heap.size E wx → Below w.heap.size w wx) := fun wx h => W1.trans (h.mono W1.size)
    have DE0 : Below E.heap.size E E.drew := (Below.refl _ _).drew
    clear ka kb D0 ca cb la lb k1 k2 k3 k4 CU1 CU2 W1 hcx hcy hmx hmy l1 l2
    go_wp2_with fail
    go_region_held2 (fun wx => Below E.heap.size E wx)
      ((first | exact DE0 | exact D3 | exact D2 | exact D1))
      ((first | (go_at_call_of 111 (Value.agg #[Value.slice (some ⟨b1, o1, none⟩) m cx, Value.slice (some ⟨b1, o1 + m, none⟩) (N - m) (cx - m)]); refine (RAH.out _ (VE.out _ DE0)).mono ?_; rintro _ ua ⟨rfl, hba⟩; have D1 : Below E.heap.size E ua := DE0.trans (hba.mono DE0.size)) | (go_at_call_of 111 (Value.agg #[Value.slice (some ⟨b2, o2, none⟩) m cy, Value.slice (some ⟨b2, o2 + m, none⟩) (N - m) (cy - m)]); refine (RBH.out _ (VE.out _ D1)).mono ?_; rintro _ ub ⟨rfl, hbb⟩; have D2 : Below E.heap.size E ub := D1.trans (hbb.mono D1.size)) | (go_at_call 110; refine (NDH.out _ (VE.out _ D2)).mono ?_; rintro e uc ⟨hbc, h⟩; have D3 : Below E.heap.size E uc := D2.trans (hbc.mono D2.size); (rcases h with ⟨hn, rfl⟩ | hp); rotate_left; (obtain ⟨y, a1, k1, a2, k2, hX, rfl, OC⟩ := hp); exact ⟨rfl, WkP.out ⟨y, a1, k1, a2, k2, hX, rfl, OC⟩ hbc (VE.out _ D2)⟩) | fail))
    subst hn
    clear hba hbb hbc DE0 D1 D2 RAH RBH NDH
    have V3 := VE.out _ D3
    have z3 := V3.size
    have z4 : w.heap.size ≤ uc.heap.size + 1 := by omega
    go_wp2_with fail
    refine (treeWalk_any _ _ _ _ _ _ _).mono ?_
    rintro r u4 ⟨rfl, rfl⟩
    have V4 : Below w.heap.size w ((uc.alloc (.cells #[.slice (some ⟨b1, o1, none⟩) m cx] 25)).alloc (.cells #[.slice (some ⟨b2, o2, none⟩) m cy] 25)) := (V3.alloc z3 _).alloc (by simpa using z4) _
    have D4 : Below E.heap.size E ((uc.alloc (.cells #[.slice (some ⟨b1, o1, none⟩) m cx] 25)).alloc (.cells #[.slice (some ⟨b2, o2, none⟩) m cy] 25)) := (D3.alloc D3.size _).alloc (by have := D3.size; simp; omega) _
    go_wp2_with fail
    refine (T1H.out _ _ _ V4 (by simp [go_sem]) (by simp [go_sem]) (by (try simp) <;> omega) (by (try simp) <;> omega)).mono ?_
    rintro e u5 ⟨hb5, h⟩
    rcases h with ⟨hn, rfl⟩ | hp
    rotate_left
    · obtain ⟨y, a1, k1, a2, k2, hX, rfl, OC⟩ := hp
      have hh := WkP.out (X := X2) (Z := X3) ⟨y, a1, k1, a2, k2, hX, rfl, OC⟩ hb5 V4
      exact ⟨rfl, hh⟩
    subst hn
    have D5 : Below E.heap.size E u5 := D4.trans (hb5.mono D4.size)
    clear hb5 T1H V4 D4 V3 D3 z3 z4
    have V5 := VE.out _ D5
    have z5 := V5.size
    have z6 : w.heap.size ≤ u5.heap.size + 1 := by omega
    go_wp2_with fail
    refine (treeWalk_any _ _ _ _ _ _ _).mono ?_
    rintro r u6 ⟨rfl, rfl⟩
    have V6 : Below w.heap.size w ((u5.alloc (.cells #[.slice (some ⟨b1, o1 + m, none⟩) (N - m) (cx - m)] 25)).alloc (.cells #[.slice (some ⟨b2, o2 + m, none⟩) (N - m) (cy - m)] 25)) := (V5.alloc z5 _).alloc (by simpa using z6) _
    go_wp2_with fail
    refine (T2H.out _ _ _ V6 (by simp [go_sem]) (by simp [go_sem]) (by (try simp) <;> omega) (by (try simp) <;> omega)).mono ?_
    rintro e u7 ⟨hb7, h⟩
    rcases h with ⟨hn, rfl⟩ | hp
    rotate_left
    · obtain ⟨y, a1, k1, a2, k2, hX, rfl, OC⟩ := hp
      have hh := WkP.same (X := X3) ⟨y, a1, k1, a2, k2, hX, rfl, OC⟩ hb7 V6
      exact ⟨rfl, hh⟩
    subst hn
    go_wp2
    go_end0
    exact WkE.ret (V6.trans (hb7.mono V6.size))

end Go.Proofs.YtklhkhlmhddmcaaDoor

namespace Go.Proofs.YtklhkhlmhddmcaaDoor
open Go.ChangeShapes Go.WideShapes Go.ChangeAt Go.RowKit
set_option linter.unusedVariables false
set_option linter.unusedSimpArgs false

set_option maxHeartbeats 1000000 in
theorem treeWalk1_any (n : Nat) : ∀ (pa pb : Nat) (x y : Option Addr) (cx cy : Nat) (xs ys : List Int) (w : World), xs.length ≤ n → 1 ≤ xs.length → xs.length = ys.length → xs.length ≤ 24 → allS xs = true → allS ys = true → Tab w → Has w .i64 x xs.length xs → Has w .i64 y ys.length ys → xs.length ≤ cx → cx ≤ maxLen → ys.length ≤ cy → cy ≤ maxLen →
    w.cell? ⟨pa, 0, none⟩ = some (.slice x xs.length cx) → w.cell? ⟨pb, 0, none⟩ = some (.slice y ys.length cy) → pa < w.heap.size → pb < w.heap.size →
    Calls Tryd.prog 132 #[.pointer (some ⟨pa, 0, none⟩), .pointer (some ⟨pb, 0, none⟩)] w (WkE (trC xs ys) w) := by
  induction n with
  | zero => intro pa pb x y cx cy xs ys w hn h1; omega
  | succ n ih =>
    intro pa pb x y cx cy xs ys w hn h1 hl h24 ax ay hT hx hy hcx hmx hcy hmy ca cb la lb
    by_cases ho : xs.length = 1
    · have e1 : ((xs.length : Int) == 1) = true := by simp [ho]
      rw [trC_le ys (by omega)]
      clear ho ih
      go_enter Tryd.func132, Tryd.ntmps132
      go_wp2
      refine bodyPost_ret (results_none rfl _ _ _) rfl ?_
      exact WkE.ret (Below.refl _ _)
    · obtain ⟨b1, o1, rfl⟩ : ∃ b off, x = some ⟨b, off, none⟩ := by
        rcases hx.2.2 with c | ⟨b, o, h, h2, _⟩
        · omega
        · exact ⟨b, o, h⟩
      obtain ⟨b2, o2, rfl⟩ : ∃ b off, y = some ⟨b, off, none⟩ := by
        rcases hy.2.2 with c | ⟨b, o, h, h2, _⟩
        · omega
        · exact ⟨b, o, h⟩
      have hs' : (2 : Int) ≤ xs.length := by omega
      obtain ⟨q1, q2, q3⟩ := splN_bd hs' (by omega)
      obtain ⟨m, hm1⟩ : ∃ m : Nat, splN (xs.length : Int) = m := ⟨(splN (xs.length : Int)).toNat, by omega⟩
      have tl : (xs.take m).length = m := by simp; omega
      have dl : (xs.drop m).length = xs.length - m := by simp
      have tl2 : (ys.take m).length = m := by simp; omega
      have dl2 : (ys.drop m).length = xs.length - m := by simp; omega
      have hm1' : m < xs.length := by omega
      have hm0 : 1 ≤ m := by omega
      have H1 := has_init hx m (by omega)
      have H2 := has_rest hx m (by omega)
      have H3 := has_init hy m (by omega)
      have H4 := has_rest hy m (by omega)
      have RT : ∀ (a : Option Addr) (c : Nat) (zs : List Int), Has w .i64 a zs.length zs → zs.length ≤ 24 → allS zs = true → zs.length ≤ c → c ≤ maxLen → ∀ u : World, Below w.heap.size w u → Calls Tryd.prog 20 #[.slice a zs.length c] u fun r w' => r = .returned (.agg #[.int .i64 0, .int .i64 (rtM nS 11 zs)]) ∧ Below u.heap.size u w' := by
        intro a c zs h hz az hc hm u hu
        have := implRootOf_any a c zs u (hT.below hu (Nat.le_refl _)) (h.below hu (Nat.le_refl _)) (by omega) hc hm
        have hf : lvF zs = 0 := by unfold lvF; rw [if_neg (by omega), if_pos az]
        rw [hf, show rtV zs = rtM nS 11 zs by unfold rtV; rw [if_pos hf]] at this
        exact this
      have R1 := RT _ cx _ H1 (by omega) (allS_take ax _) (by omega) hmx
      have R2 := RT _ (cx - m) _ H2 (by omega) (allS_drop ax _) (by omega) (Nat.le_trans (Nat.sub_le _ _) hmx)
      have R3 := RT _ cy _ H3 (by omega) (allS_take ay _) (by omega) hmy
      have R4 := RT _ (cy - m) _ H4 (by omega) (allS_drop ay _) (by omega) (Nat.le_trans (Nat.sub_le _ _) hmy)
      rw [tl] at R1
      rw [dl] at R2
      rw [tl2] at R3
      rw [dl2] at R4
      have d1 := rtM_bd _ (xs.take m) (Nat.le_refl _) (allS_take ax _)
      have d2 := rtM_bd _ (xs.drop m) (Nat.le_refl _) (allS_drop ax _)
      have d3 := rtM_bd _ (ys.take m) (Nat.le_refl _) (allS_take ay _)
      have d4 := rtM_bd _ (ys.drop m) (Nat.le_refl _) (allS_drop ay _)
      rw [trC_gt ys (by omega), hm1]
      simp only [Int.toNat_natCast]
      refine treeWalk1_step pa pb b1 o1 b2 o2 cx cy xs.length m (rtM nS 11 (xs.take m)) (rtM nS 11 (xs.drop m)) (rtM nS 11 (ys.take m)) (rtM nS 11 (ys.drop m)) _ _ _ w (by omega) h24 hm1 hcx hmx (by omega) hmy ca (by rw [hl]; exact cb) la lb ?_ ?_ ?_ ?_ ?_
      · intro u hu
        exact roots_any b1 o1 xs.length cx m _ _ u (fun u' h => R1 u' (hu.trans (h.mono hu.size))) (fun u' h => R2 u' (hu.trans (h.mono hu.size))) hm0
      · intro u hu
        exact roots_any b2 o2 xs.length cy m _ _ u (fun u' h => R3 u' (hu.trans (h.mono hu.size))) (fun u' h => R4 u' (hu.trans (h.mono hu.size))) hm0
      · intro u hu
        exact lookInNodes_any _ _ _ _ u (hT.below hu (Nat.le_refl _)) d1 d2 d3 d4
      · intro u qa qb hu c1 c2 l1 l2
        exact ih qa qb _ _ cx cy _ _ u (by omega) (by omega) (by omega) (by omega) (allS_take ax _) (allS_take ay _) (hT.below hu (Nat.le_refl _)) (H1.below hu (Nat.le_refl _)) (H3.below hu (Nat.le_refl _)) (by omega) hmx (by omega) hmy (by rw [tl]; exact c1) (by rw [tl2]; exact c2) l1 l2
      · intro u qa qb hu c1 c2 l1 l2
        exact ih qa qb _ _ (cx - m) (cy - m) _ _ u (by omega) (by omega) (by omega) (by omega) (allS_drop ax _) (allS_drop ay _) (hT.below hu (Nat.le_refl _)) (H2.below hu (Nat.le_refl _)) (H4.below hu (Nat.le_refl _)) (by omega) (Nat.le_trans (Nat.sub_le _ _) hmx) (by omega) (Nat.le_trans (Nat.sub_le _ _) hmy) (by rw [dl]; exact c1) (by rw [dl2]; exact c2) l1 l2

theorem neqR (b d : Int) (w : World) : (binOp BinOp.neq 40 (.agg #[.int .i64 0, .int .i64 b]) (.agg #[.int .i64 0, .int .i64 d])).run Tryd.prog w = .ok (.bool (b != d)) w := by
  by_cases h : b = d <;> simp [go_sem, h]

set_option maxHeartbeats 4000000 in
theorem implTreeClash_any (x y : Option Addr) (cx cy : Nat) (xs ys : List Int) (w : World) (hT : Tab w) (hx : Has w .i64 x xs.length xs) (hy : Has w .i64 y ys.length ys) (lx : xs.length ≤ 1048576) (ly : ys.length ≤ 1048576) (hcx : xs.length ≤ cx) (hmx : cx ≤ maxLen) (hcy : ys.length ≤ cy) (hmy : cy ≤ maxLen) :
    Calls Tryd.prog 31 #[.slice x xs.length cx, .slice y ys.length cy] w fun r w' => ∃ a1 c1 a2 c2, r = .returned (.agg #[.int .i64 (tkC xs ys), .bool (tkX xs ys).isSome, .slice a1 (clA (tkX xs ys)).length c1, .slice a2 (clB (tkX xs ys)).length c2]) ∧ OwnC w' w.heap.size a1 a2 c1 c2 (clA (tkX xs ys)) (clB (tkX xs ys)) ∧ Below w.heap.size w w' := by
  by_cases h1 : orC (lvF xs) (lvF ys) = 0
  · have h1x : lvF xs = 0 := by unfold orC at h1; split at h1 <;> omega
    have h1y : lvF ys = 0 := by unfold orC at h1; rw [if_pos h1x] at h1; exact h1
    obtain ⟨g1, a1⟩ := lvF_zero h1x
    obtain ⟨g2, a2⟩ := lvF_zero h1y
    have hor := h1
    by_cases h3 : xs.length = ys.length ∧ xs.length ≠ 0
    · have e3 : ((xs.length : Int) != (ys.length : Int)) = false := by simp [h3.1]
      have e4 : ((xs.length : Int) == 0) = false := by simp; exact fun h => h3.2 (by simp [h])
      have hK : tkC xs ys = if rtM nS 11 xs = rtM nS 11 ys then 0 else 8 := by unfold tkC; rw [if_pos h1x, if_pos h1y, if_pos h3]
      have RX : Hid (∀ u : World, Below w.heap.size w u → Calls Tryd.prog 20 #[.slice x xs.length cx] u fun r w' => r = .returned (.agg #[.int .i64 0, .int .i64 (rtM nS 11 xs)]) ∧ Below u.heap.size u w') := by
        intro u hu
        have := implRootOf_any x cx xs u (hT.below hu (Nat.le_refl _)) (hx.below hu (Nat.le_refl _)) (by omega) hcx hmx
        rw [h1x, show rtV xs = rtM nS 11 xs by unfold rtV; rw [if_pos h1x]] at this
        exact this
      have RY : Hid (∀ u : World, Below w.heap.size w u → Calls Tryd.prog 20 #[.slice y ys.length cy] u fun r w' => r = .returned (.agg #[.int .i64 0, .int .i64 (rtM nS 11 ys)]) ∧ Below u.heap.size u w') := by
        intro u hu
        have := implRootOf_any y cy ys u (hT.below hu (Nat.le_refl _)) (hy.below hu (Nat.le_refl _)) (by omega) hcy hmy
        rw [h1y, show rtV ys = rtM nS 11 ys by unfold rtV; rw [if_pos h1y]] at this
        exact this
      have TW : Hid (∀ (u : World) (pa pb : Nat), Below w.heap.size w u → u.cell? ⟨pa, 0, none⟩ = some (.slice x xs.length cx) → u.cell? ⟨pb, 0, none⟩ = some (.slice y ys.length cy) → pa < u.heap.size → pb < u.heap.size → Calls Tryd.prog 132 #[.pointer (some ⟨pa, 0, none⟩), .pointer (some ⟨pb, 0, none⟩)] u (WkE (trC xs ys) u)) := fun u pa pb hu c1 c2 l1 l2 => treeWalk1_any _ pa pb x y cx cy xs ys u (Nat.le_refl _) (by omega) h3.1 g1 a1 a2 (hT.below hu (Nat.le_refl _)) (hx.below hu (Nat.le_refl _)) (hy.below hu (Nat.le_refl _)) hcx hmx hcy hmy c1 c2 l1 l2
      have NE := neqR
      by_cases hv : rtM nS 11 xs = rtM nS 11 ys
      · have hK0 : tkC xs ys = 0 := by rw [hK, if_pos hv]
        have hX : tkX xs ys = trC xs ys := by unfold tkX; rw [if_pos hK0]
        have ev : (rtM nS 11 xs != rtM nS 11 ys) = false := by simpa using hv
        rw [hX, hK0]
        clear hK hK0 hX hv h1 h3
        generalize trC xs ys = X at *
        generalize rtM nS 11 xs = v1 at *
        generalize rtM nS 11 ys = v2 at *
        have HOR : Hid (_) := hor
        clear h1x h1y hor
        go_enter Tryd.func31, Tryd.ntmps31
        go_wp2_with fail
        refine (implLeavesFault_any x cx xs _ (hx.alloc _) lx).mono ?_
        rintro r u ⟨rfl, hu⟩; have hu2 := hu.symm; subst hu2; clear hu
        go_wp2_with fail
        refine (implLeavesFault_any y cy ys _ (hy.alloc _) ly).mono ?_
        rintro r u ⟨rfl, hu⟩; have hu2 := hu.symm; subst hu2; clear hu
        go_wp2_with fail
        refine (cmpOr_any (lvF xs) (lvF ys) (w.heap.size + 1) _ (by simp [go_sem]) (by simp [go_sem])).mono ?_
        rintro r u ⟨rfl, hu⟩; have hu2 := hu.symm; subst hu2; clear hu
        rw [HOR.out]
        go_wp2_with fail
        have BB : Below w.heap.size w ((w.alloc (.cells #[.int .i64 0, .bool false, .slice none 0 0, .slice none 0 0] 31)).alloc (.cells #[.int .i64 (lvF xs), .int .i64 (lvF ys)] 2)) := ((Below.refl _ _).alloc (Nat.le_refl _) _).alloc (by simp) _
        have RV : Hid (∀ u : World, Below ((w.alloc (.cells #[.int .i64 0, .bool false, .slice none 0 0, .slice none 0 0] 31)).alloc (.cells #[.int .i64 (lvF xs), .int .i64 (lvF ys)] 2)).heap.size ((w.alloc (.cells #[.int .i64 0, .bool false, .slice none 0 0, .slice none 0 0] 31)).alloc (.cells #[.int .i64 (lvF xs), .int .i64 (lvF ys)] 2)) u → (u.cell? ⟨w.heap.size, 0, none⟩ = some (.int .i64 0) ∧ u.cell? ⟨w.heap.size, 1, none⟩ = some (.bool false) ∧ u.cell? ⟨w.heap.size, 2, none⟩ = some (.slice none 0 0) ∧ u.cell? ⟨w.heap.size, 3, none⟩ = some (.slice none 0 0)) ∧ (u.frozen? ⟨w.heap.size, 0, none⟩ = false ∧ u.frozen? ⟨w.heap.size, 1, none⟩ = false ∧ u.frozen? ⟨w.heap.size, 2, none⟩ = false ∧ u.frozen? ⟨w.heap.size, 3, none⟩ = false)) := fun u h => var4 (ofA h)
        refine (RX.out _ BB).mono ?_
        rintro r u1 ⟨rfl, hb1⟩
        have B1 := BB.trans (hb1.mono BB.size)
        go_wp2_with fail
        refine (RY.out _ B1).mono ?_
        rintro r u2 ⟨rfl, hb2⟩
        have B2 := B1.trans (hb2.mono B1.size)
        have V2 := hb1.trans (hb2.mono hb1.size)
        obtain ⟨⟨k0, k1, k2, k3⟩, f0, f1, f2, f3⟩ := RV.out _ V2
        go_wp2_with fail
        refine (treeWalk_any _ _ _ _ _ _ _).mono ?_
        rintro r u3 ⟨rfl, rfl⟩
        have V3 : Below ((w.alloc (.cells #[.int .i64 0, .bool false, .slice none 0 0, .slice none 0 0] 31)).alloc (.cells #[.int .i64 (lvF xs), .int .i64 (lvF ys)] 2)).heap.size ((w.alloc (.cells #[.int .i64 0, .bool false, .slice none 0 0, .slice none 0 0] 31)).alloc (.cells #[.int .i64 (lvF xs), .int .i64 (lvF ys)] 2)) ((u2.alloc (.cells #[.slice x xs.length cx] 25)).alloc (.cells #[.slice y ys.length cy] 25)) := (V2.alloc V2.size _).alloc (by have := V2.size; simp at this ⊢; omega) _
        have B3 := BB.trans (V3.mono BB.size)
        have CO : Hid (_) := clashOn_any 132 #[.pointer (some ⟨u2.heap.size, 0, none⟩), .pointer (some ⟨u2.heap.size + 1, 0, none⟩)] X ((u2.alloc (.cells #[.slice x xs.length cx] 25)).alloc (.cells #[.slice y ys.length cy] 25)) (fun u hu => TW.out u _ _ (B3.trans (hu.mono B3.size)) ((hu.cell (p := ⟨u2.heap.size, 0, none⟩) (by simp; omega)).trans (by simp [go_sem])) ((hu.cell (p := ⟨u2.heap.size + 1, 0, none⟩) (by simp)).trans (by simp [go_sem])) (Nat.lt_of_lt_of_le (by simp; omega) hu.size) (Nat.lt_of_lt_of_le (by simp) hu.size)) (fun u => by simp [go_sem])
        clear k0 k1 k2 k3 f0 f1 f2 f3
        go_wp2_with fail
        refine Calls.mono (P := Tryd.prog) (f := 59) CO.out ?_
        rintro r u4 ⟨a1', c1', a2', c2', rfl, O4, hb4⟩
        have V4 := V3.trans (hb4.mono V3.size)
        have B4 := B3.trans (hb4.mono B3.size)
        obtain ⟨⟨k0, k1, k2, k3⟩, f0, f1, f2, f3⟩ := RV.out _ V4
        have zz := B2.size
        have z5 : w.heap.size < u2.heap.size + 1 + 1 := by omega
        have O4' : Hid (OwnC u4 (u2.heap.size + 1 + 1) a1' a2' c1' c2' (clA X) (clB X)) := by
          refine O4.mono ?_
          simp
        clear O4 CO TW RX RY
        go_wp2
        refine bodyPost_ret (v := .agg #[.int .i64 0, .bool X.isSome, .slice a1' (clA X).length c1', .slice a2' (clB X).length c2']) (by simp [results, Tryd.results31, go_sem, k0, k1, k2, k3]) rfl ⟨a1', c1', a2', c2', rfl, ?_, ?_⟩
        · exact ((((O4'.out.set _ _ z5).set _ _ z5).set _ _ z5).set _ _ z5).mono (Nat.le_of_lt z5)
        · exact (((B4.setCell (Nat.le_refl _) _).setCell (Nat.le_refl _) _).setCell (Nat.le_refl _) _).setCell (Nat.le_refl _) _
      · have hK0 : tkC xs ys = 8 := by rw [hK, if_neg hv]
        have hX : tkX xs ys = none := by unfold tkX; rw [if_neg (by omega)]
        have ev : (rtM nS 11 xs != rtM nS 11 ys) = true := by simpa using hv
        rw [hX, hK0]
        clear hK hK0 hX hv h1 h3
        generalize rtM nS 11 xs = v1 at *
        generalize rtM nS 11 ys = v2 at *
        have HOR : Hid (_) := hor
        clear h1x h1y hor
        go_enter Tryd.func31, Tryd.ntmps31
        go_wp2_with fail
        refine (implLeavesFault_any x cx xs _ (hx.alloc _) lx).mono ?_
        rintro r u ⟨rfl, hu⟩; have hu2 := hu.symm; subst hu2; clear hu
        go_wp2_with fail
        refine (implLeavesFault_any y cy ys _ (hy.alloc _) ly).mono ?_
        rintro r u ⟨rfl, hu⟩; have hu2 := hu.symm; subst hu2; clear hu
        go_wp2_with fail
        refine (cmpOr_any (lvF xs) (lvF ys) (w.heap.size + 1) _ (by simp [go_sem]) (by simp [go_sem])).mono ?_
        rintro r u ⟨rfl, hu⟩; have hu2 := hu.symm; subst hu2; clear hu
        rw [HOR.out]
        go_wp2_with fail
        have BB : Below w.heap.size w ((w.alloc (.cells #[.int .i64 0, .bool false, .slice none 0 0, .slice none 0 0] 31)).alloc (.cells #[.int .i64 (lvF xs), .int .i64 (lvF ys)] 2)) := ((Below.refl _ _).alloc (Nat.le_refl _) _).alloc (by simp) _
        have RV : Hid (∀ u : World, Below ((w.alloc (.cells #[.int .i64 0, .bool false, .slice none 0 0, .slice none 0 0] 31)).alloc (.cells #[.int .i64 (lvF xs), .int .i64 (lvF ys)] 2)).heap.size ((w.alloc (.cells #[.int .i64 0, .bool false, .slice none 0 0, .slice none 0 0] 31)).alloc (.cells #[.int .i64 (lvF xs), .int .i64 (lvF ys)] 2)) u → (u.cell? ⟨w.heap.size, 0, none⟩ = some (.int .i64 0) ∧ u.cell? ⟨w.heap.size, 1, none⟩ = some (.bool false) ∧ u.cell? ⟨w.heap.size, 2, none⟩ = some (.slice none 0 0) ∧ u.cell? ⟨w.heap.size, 3, none⟩ = some (.slice none 0 0)) ∧ (u.frozen? ⟨w.heap.size, 0, none⟩ = false ∧ u.frozen? ⟨w.heap.size, 1, none⟩ = false ∧ u.frozen? ⟨w.heap.size, 2, none⟩ = false ∧ u.frozen? ⟨w.heap.size, 3, none⟩ = false)) := fun u h => var4 (ofA h)
        refine (RX.out _ BB).mono ?_
        rintro r u1 ⟨rfl, hb1⟩
        have B1 := BB.trans (hb1.mono BB.size)
        go_wp2_with fail
        refine (RY.out _ B1).mono ?_
        rintro r u2 ⟨rfl, hb2⟩
        have B2 := B1.trans (hb2.mono B1.size)
        have V2 := hb1.trans (hb2.mono hb1.size)
        obtain ⟨⟨k0, k1, k2, k3⟩, f0, f1, f2, f3⟩ := RV.out _ V2
        go_wp2
        refine bodyPost_ret (v := .agg #[.int .i64 8, .bool false, .slice none 0 0, .slice none 0 0]) (by simp [results, Tryd.results31, go_sem, k0, k1, k2, k3]) rfl ⟨none, 0, none, 0, rfl, OwnC.nil _ _, ?_⟩
        exact (((B2.setCell (Nat.le_refl _) _).setCell (Nat.le_refl _) _).setCell (Nat.le_refl _) _).setCell (Nat.le_refl _) _
    · have hK : tkC xs ys = 1 := by unfold tkC; rw [if_pos h1x, if_pos h1y, if_neg h3]
      have hX : tkX xs ys = none := by unfold tkX; rw [if_neg (by omega)]
      rw [hX, hK]
      have HOR : Hid (_) := hor
      clear hK hX h1 h1x h1y hor
      by_cases h4 : xs.length = ys.length
      · have e3 : ((xs.length : Int) != (ys.length : Int)) = false := by simp [h4]
        have h5 : xs.length = 0 := by omega
        have e4 : ((xs.length : Int) == 0) = true := by simp [h5]
        clear h3 h4 h5
        go_enter Tryd.func31, Tryd.ntmps31
        go_wp2_with fail
        refine (implLeavesFault_any x cx xs _ (hx.alloc _) lx).mono ?_
        rintro r u ⟨rfl, hu⟩; have hu2 := hu.symm; subst hu2; clear hu
        go_wp2_with fail
        refine (implLeavesFault_any y cy ys _ (hy.alloc _) ly).mono ?_
        rintro r u ⟨rfl, hu⟩; have hu2 := hu.symm; subst hu2; clear hu
        go_wp2_with fail
        refine (cmpOr_any (lvF xs) (lvF ys) (w.heap.size + 1) _ (by simp [go_sem]) (by simp [go_sem])).mono ?_
        rintro r u ⟨rfl, hu⟩; have hu2 := hu.symm; subst hu2; clear hu
        rw [HOR.out]
        go_wp2
        refine bodyPost_ret (v := .agg #[.int .i64 1, .bool false, .slice none 0 0, .slice none 0 0]) (by simp [results, Tryd.results31, go_sem]) rfl ⟨none, 0, none, 0, rfl, OwnC.nil _ _, ?_⟩
        repeat (first | exact Below.refl _ _ | (refine Below.alloc ?_ (by (try simp) <;> omega) _) | (refine Below.setCell ?_ (by (try simp) <;> omega) _))
      · have e3 : ((xs.length : Int) != (ys.length : Int)) = true := by simp; omega
        clear h3 h4
        go_enter Tryd.func31, Tryd.ntmps31
        go_wp2_with fail
        refine (implLeavesFault_any x cx xs _ (hx.alloc _) lx).mono ?_
        rintro r u ⟨rfl, hu⟩; have hu2 := hu.symm; subst hu2; clear hu
        go_wp2_with fail
        refine (implLeavesFault_any y cy ys _ (hy.alloc _) ly).mono ?_
        rintro r u ⟨rfl, hu⟩; have hu2 := hu.symm; subst hu2; clear hu
        go_wp2_with fail
        refine (cmpOr_any (lvF xs) (lvF ys) (w.heap.size + 1) _ (by simp [go_sem]) (by simp [go_sem])).mono ?_
        rintro r u ⟨rfl, hu⟩; have hu2 := hu.symm; subst hu2; clear hu
        rw [HOR.out]
        go_wp2
        refine bodyPost_ret (v := .agg #[.int .i64 1, .bool false, .slice none 0 0, .slice none 0 0]) (by simp [results, Tryd.results31, go_sem]) rfl ⟨none, 0, none, 0, rfl, OwnC.nil _ _, ?_⟩
        repeat (first | exact Below.refl _ _ | (refine Below.alloc ?_ (by (try simp) <;> omega) _) | (refine Below.setCell ?_ (by (try simp) <;> omega) _))
  · have hK : tkC xs ys = orC (lvF xs) (lvF ys) := by
      unfold tkC orC at *
      by_cases hx0 : lvF xs = 0
      · rw [if_pos hx0] at h1 ⊢
        rw [if_neg h1, if_pos hx0]
      · rw [if_neg hx0, if_neg hx0]
    have hX : tkX xs ys = none := by unfold tkX; rw [if_neg (by rw [hK]; exact h1)]
    rw [hX, hK]
    have e0 : (orC (lvF xs) (lvF ys) != 0) = true := by simpa using h1
    clear hK hX h1
    obtain ⟨cc, hcc⟩ : ∃ cc, orC (lvF xs) (lvF ys) = cc := ⟨_, rfl⟩
    rw [hcc] at e0 ⊢
    have HOR : Hid (_) := hcc
    clear hcc
    go_enter Tryd.func31, Tryd.ntmps31
    go_wp2_with fail
    refine (implLeavesFault_any x cx xs _ (hx.alloc _) lx).mono ?_
    rintro r u ⟨rfl, hu⟩; have hu2 := hu.symm; subst hu2; clear hu
    go_wp2_with fail
    refine (implLeavesFault_any y cy ys _ (hy.alloc _) ly).mono ?_
    rintro r u ⟨rfl, hu⟩; have hu2 := hu.symm; subst hu2; clear hu
    go_wp2_with fail
    refine (cmpOr_any (lvF xs) (lvF ys) (w.heap.size + 1) _ (by simp [go_sem]) (by simp [go_sem])).mono ?_
    rintro r u ⟨rfl, hu⟩; have hu2 := hu.symm; subst hu2; clear hu
    rw [HOR.out]
    go_wp2
    refine bodyPost_ret (v := .agg #[.int .i64 cc, .bool false, .slice none 0 0, .slice none 0 0]) (by simp [results, Tryd.results31, go_sem]) rfl ⟨none, 0, none, 0, rfl, OwnC.nil _ _, ?_⟩
    repeat (first | exact Below.refl _ _ | (refine Below.alloc ?_ (by (try simp) <;> omega) _) | (refine Below.setCell ?_ (by (try simp) <;> omega) _))

end Go.Proofs.YtklhkhlmhddmcaaDoor
