/- Contracts: the program's walk on the way down to a leaf. -/
import Derived.Test.YtklhkhlmhddmcaaDoorIWk
import Derived.Test.YtklhkhlmhddmcaaDoorITreeC
import Derived.Test.YtklhkhlmhddmcaaDoorIRootP
import Derived.Deep.DeepCutAuto
namespace Go.Proofs.YtklhkhlmhddmcaaDoor
open Go.ChangeShapes Go.WideShapes Go.ChangeAt Go.RowKit
set_option linter.unusedVariables false
set_option linter.unusedSimpArgs false

theorem leafWalk_any (l a : Int) (p x : Option Addr) (np cp nx cx : Nat) (w : World) :
    Calls Tryd.prog 61 #[.int .i64 l, .int .i64 a, .slice p np cp, .slice x nx cx] w fun r w' => r = .returned (.func (.func 107) #[] #[.pointer (some ⟨w.heap.size + 3, 0, none⟩), .pointer (some ⟨w.heap.size + 2, 0, none⟩), .pointer (some ⟨w.heap.size + 1, 0, none⟩), .pointer (some ⟨w.heap.size, 0, none⟩)]) ∧ w' = ((((w.alloc (.cells #[.int .i64 l] 2)).alloc (.cells #[.int .i64 a] 2)).alloc (.cells #[.slice p np cp] 25)).alloc (.cells #[.slice x nx cx] 25)) := by
  have hmf : ∀ (fn : Fn) (first cap : Array Value) (w : World), (Instr.makeFunc fn first cap).run Tryd.prog w = .ok (.func fn first cap) w := fun _ _ _ _ => rfl
  go_enter Tryd.func61, Tryd.ntmps61
  go_wp2
  go_ret
  exact ⟨rfl, rfl⟩

set_option maxHeartbeats 8000000 in
set_option maxRecDepth 100000 in
theorem leafWalk1_lo (pl pp pa pf b o bp op N m q cx cp : Nat) (a l last own v1 v2 : Int) (X1 X2 : Cl) (w : World) (h2 : 2 ≤ N) (h24 : N ≤ 24) (hm : splN N = m) (ha0 : 0 ≤ a) (haN : a < N) (hcx : N ≤ cx) (hmx : cx ≤ maxLen) (hcp : q + 1 ≤ cp) (hmp : cp ≤ maxLen) (kl : w.cell? ⟨pl, 0, none⟩ = some (.slice (some ⟨b, o, none⟩) N cx)) (kp : w.cell? ⟨pp, 0, none⟩ = some (.slice (some ⟨bp, op, none⟩) (q + 1) cp)) (ka : w.cell? ⟨pa, 0, none⟩ = some (.int .i64 a)) (kf : w.cell? ⟨pf, 0, none⟩ = some (.int .i64 l)) (kv : w.cell? ⟨bp, op + q, none⟩ = some (.int .i64 last)) (ll : pl < w.heap.size) (lp : pp < w.heap.size) (la : pa < w.heap.size) (lf : pf < w.heap.size) (lb : bp < w.heap.size) (RA : ∀ u : World, Below w.heap.size w u → Calls Tryd.prog 111 #[.agg #[.slice (some ⟨b, o, none⟩) m cx, .slice (some ⟨b, o + m, none⟩) (N - m) (cx - m)]] u fun r w' => r = .returned (.agg #[.int .i64 v1, .int .i64 v2, .bool false]) ∧ Below u.heap.size u w') (ha : a < m) (CL : ∀ u : World, Below w.heap.size w u → Calls Tryd.prog 105 #[.int .i64 l, .int .i64 (a), .int .i64 (m), .slice (some ⟨bp, op, none⟩) q cp] u fun r w' => r = .returned (.agg #[.int .i64 0, .int .i64 own]) ∧ Below u.heap.size u w') (ND : ∀ u : World, Below w.heap.size w u → Calls Tryd.prog 110 #[.agg #[.int .i64 own, .int .i64 last, .bool false], .agg #[.int .i64 v1, .int .i64 v2, .bool false]] u (WkE X1 u)) (T : ∀ (u : World) (ql qp qa qf : Nat), Below w.heap.size w u → u.cell? ⟨ql, 0, none⟩ = some (.slice (some ⟨b, o, none⟩) (m) (cx)) → u.cell? ⟨qp, 0, none⟩ = some (.slice (some ⟨bp, op, none⟩) q cp) → u.cell? ⟨qa, 0, none⟩ = some (.int .i64 (a)) → u.cell? ⟨qf, 0, none⟩ = some (.int .i64 l) → ql < u.heap.size → qp < u.heap.size → qa < u.heap.size → qf < u.heap.size → Calls Tryd.prog 107 #[.pointer (some ⟨ql, 0, none⟩), .pointer (some ⟨qp, 0, none⟩), .pointer (some ⟨qa, 0, none⟩), .pointer (some ⟨qf, 0, none⟩)] u (WkE X2 u)) :
    Calls Tryd.prog 107 #[.pointer (some ⟨pl, 0, none⟩), .pointer (some ⟨pp, 0, none⟩), .pointer (some ⟨pa, 0, none⟩), .pointer (some ⟨pf, 0, none⟩)] w (WkE (X1 <|> X2) w) := by
  have e1 : ((N : Int) == 1) = false := by simp; omega
  have RAH : Hid (_) := RA
  have NDH : Hid (_) := ND
  have TH : Hid (_) := T
  have CLH : Hid (_) := CL
  have F1 := fldR1
  have CU1 : Hid (∀ u : World, Calls Tryd.prog 108 #[.slice (some ⟨b, o, none⟩) N cx] u fun r w' => r = .returned (.agg #[.slice (some ⟨b, o, none⟩) m cx, .slice (some ⟨b, o + m, none⟩) (N - m) (cx - m)]) ∧ Below u.heap.size u w') := fun u => cutOf_any b o N cx m u h2 h24 hm hcx hmx
  have OLD : Hid (∀ wx : World, Below w.heap.size w wx → wx.cell? ⟨pl, 0, none⟩ = some (.slice (some ⟨b, o, none⟩) N cx) ∧ wx.cell? ⟨pp, 0, none⟩ = some (.slice (some ⟨bp, op, none⟩) (q + 1) cp) ∧ wx.cell? ⟨pa, 0, none⟩ = some (.int .i64 a) ∧ wx.cell? ⟨pf, 0, none⟩ = some (.int .i64 l) ∧ wx.cell? ⟨bp, op + q, none⟩ = some (.int .i64 last)) := fun wx h => ⟨(h.cell (p := ⟨pl, 0, none⟩) ll).trans kl, (h.cell (p := ⟨pp, 0, none⟩) lp).trans kp, (h.cell (p := ⟨pa, 0, none⟩) la).trans ka, (h.cell (p := ⟨pf, 0, none⟩) lf).trans kf, (h.cell (p := ⟨bp, op + q, none⟩) lb).trans kv⟩
  have hmf : ∀ (fn : Fn) (first cap : Array Value) (w : World), (Instr.makeFunc fn first cap).run Tryd.prog w = .ok (.func fn first cap) w := fun _ _ _ _ => rfl
  have hmN : m < N := by have := splN_lt (n := (N : Int)) (by omega); omega
  have hmN' : (m : Int) < N := by omega
  have hm1 : (1 : Int) ≤ m := by have := splN_pos (N : Int); omega
  clear RA ND T CL hm h2 h24 hmx
  go_enter Tryd.func107, Tryd.ntmps107
  go_wp2_with fail
  refine (CU1.out _).mono ?_
  rintro r u1 ⟨rfl, hb1⟩
  have z1 := hb1.size
  obtain ⟨o1, o2, o3, o4, o5⟩ := OLD.out _ hb1
  have n1 : ¬ pp = u1.heap.size := by omega
  have n2 : pp < u1.heap.size := by omega
  have n3 : ¬ bp = u1.heap.size := by omega
  have n4 : ¬ u1.heap.size = pp := by omega
  go_wp2_with fail
  refine (lastOf_any bp op q cp last _ ((((Below.refl u1.heap.size u1).alloc (Nat.le_refl _) _).cell (p := ⟨bp, op + q, none⟩) (show bp < u1.heap.size by omega)).trans o5) hcp hmp).mono ?_
  rintro r u2 ⟨rfl, k, hu⟩
  have zu : u1.heap.size < u2.heap.size := by rw [hu]; exact Nat.lt_of_lt_of_le (by simp) (below_drewN (Below.refl 0 _) _).size
  have CE : ∀ wx : World, Below u2.heap.size u2 wx → wx.cell? ⟨u1.heap.size, 0, none⟩ = some (.slice (some ⟨b, o, none⟩) m cx) ∧ wx.cell? ⟨u1.heap.size, 1, none⟩ = some (.slice (some ⟨b, o + m, none⟩) (N - m) (cx - m)) := fun wx h => ⟨(h.cell (p := ⟨u1.heap.size, 0, none⟩) zu).trans (by rw [hu]; simp [go_sem]), (h.cell (p := ⟨u1.heap.size, 1, none⟩) zu).trans (by rw [hu]; simp [go_sem])⟩
  have W2 : Below w.heap.size w u2 := by rw [hu]; refine below_drewN ?_ _; repeat (first | exact hb1.alloc z1 _ | refine Below.setCell ?_ z1 _)
  have CEH : Hid (_) := CE
  clear CE hu n1 n2 n3 n4 o1 o2 o3 o4 o5 hb1 CU1 z1
  obtain ⟨o1, o2, o3, o4, o5⟩ := OLD.out _ W2
  obtain ⟨k1, k2⟩ := CEH.out _ (Below.refl _ _)
  have z2 := W2.size
  go_wp2_with fail
  go_quiet (fail)
  go_wp2_with fail
  refine (CLH.out _ (below_drewN W2 _)).mono ?_
  rintro r u3 ⟨rfl, hb3⟩
  have dq := below_drewN (Below.refl u2.heap.size u2) nq
  have C3 : Below u2.heap.size u2 u3 := dq.trans (hb3.mono dq.size)
  have W3 := W2.trans (C3.mono z2)
  clear hb3 k1 k2
  obtain ⟨k1, k2⟩ := CEH.out _ C3
  go_wp2_with fail
  refine (RAH.out _ W3).mono ?_
  rintro r u4 ⟨rfl, hb4⟩
  have C4 := C3.trans (hb4.mono C3.size)
  have W4 := W3.trans (hb4.mono W3.size)
  go_wp2_with fail
  refine (NDH.out _ W4).mono ?_
  rintro e u5 ⟨hb5, h⟩
  have C5 := C4.trans (hb5.mono C4.size)
  have W5 := W4.trans (hb5.mono W4.size)
  rcases h with ⟨hn, rfl⟩ | hp
  rotate_left
  · obtain ⟨y, a1, j1, a2, j2, hX, rfl, OC⟩ := hp
    have hh := WkP.out (X := X1) (Z := X2) ⟨y, a1, j1, a2, j2, hX, rfl, OC⟩ hb5 W4
    exact ⟨rfl, hh⟩
  subst hn
  clear hb4 hb5 C3 W3 C4 W4 k1 k2 RAH NDH CLH o1 o2 o3 o4 o5
  obtain ⟨k1, k2⟩ := CEH.out _ C5
  obtain ⟨o1, o2, o3, o4, o5⟩ := OLD.out _ W5
  have z5 := W5.size
  go_wp2_with fail
  refine (leafWalk_any _ _ _ _ _ _ _ _ _).mono ?_
  rintro r u6 ⟨rfl, hu⟩
  have W6 : Below w.heap.size w u6 := by rw [hu]; exact (((W5.alloc z5 _).alloc (by simp; omega) _).alloc (by simp; omega) _).alloc (by simp; omega) _
  have zq : u6.heap.size = u5.heap.size + 4 := by rw [hu]; simp
  have TT := TH.out u6 (u5.heap.size + 3) (u5.heap.size + 2) (u5.heap.size + 1) u5.heap.size W6 (by rw [hu]; simp [go_sem]) (by rw [hu]; simp [go_sem]) (by rw [hu]; simp [go_sem]) (by rw [hu]; simp [go_sem]) (by omega) (by omega) (by omega) (by omega)
  have TTH : Hid (_) := TT
  clear hu zq TT o1 o2 o3 o4 o5 k1 k2
  go_wp2_with fail
  refine Calls.mono (P := Tryd.prog) (f := 107) TTH.out ?_
  rintro e u7 ⟨hb7, h⟩
  rcases h with ⟨hn, rfl⟩ | hp
  rotate_left
  · obtain ⟨y, a1, j1, a2, j2, hX, rfl, OC⟩ := hp
    have hh := WkP.same (X := X2) ⟨y, a1, j1, a2, j2, hX, rfl, OC⟩ hb7 W6
    exact ⟨rfl, hh⟩
  subst hn
  go_wp2
  go_end0
  exact WkE.ret (W6.trans (hb7.mono W6.size))

set_option maxHeartbeats 8000000 in
set_option maxRecDepth 100000 in
theorem leafWalk1_hi (pl pp pa pf b o bp op N m q cx cp : Nat) (a l last own v1 v2 : Int) (X1 X2 : Cl) (w : World) (h2 : 2 ≤ N) (h24 : N ≤ 24) (hm : splN N = m) (ha0 : 0 ≤ a) (haN : a < N) (hcx : N ≤ cx) (hmx : cx ≤ maxLen) (hcp : q + 1 ≤ cp) (hmp : cp ≤ maxLen) (kl : w.cell? ⟨pl, 0, none⟩ = some (.slice (some ⟨b, o, none⟩) N cx)) (kp : w.cell? ⟨pp, 0, none⟩ = some (.slice (some ⟨bp, op, none⟩) (q + 1) cp)) (ka : w.cell? ⟨pa, 0, none⟩ = some (.int .i64 a)) (kf : w.cell? ⟨pf, 0, none⟩ = some (.int .i64 l)) (kv : w.cell? ⟨bp, op + q, none⟩ = some (.int .i64 last)) (ll : pl < w.heap.size) (lp : pp < w.heap.size) (la : pa < w.heap.size) (lf : pf < w.heap.size) (lb : bp < w.heap.size) (RA : ∀ u : World, Below w.heap.size w u → Calls Tryd.prog 111 #[.agg #[.slice (some ⟨b, o, none⟩) m cx, .slice (some ⟨b, o + m, none⟩) (N - m) (cx - m)]] u fun r w' => r = .returned (.agg #[.int .i64 v1, .int .i64 v2, .bool false]) ∧ Below u.heap.size u w') (ha : ¬ a < m) (CL : ∀ u : World, Below w.heap.size w u → Calls Tryd.prog 105 #[.int .i64 l, .int .i64 (a - m), .int .i64 (N - m), .slice (some ⟨bp, op, none⟩) q cp] u fun r w' => r = .returned (.agg #[.int .i64 0, .int .i64 own]) ∧ Below u.heap.size u w') (ND : ∀ u : World, Below w.heap.size w u → Calls Tryd.prog 110 #[.agg #[.int .i64 last, .int .i64 own, .bool false], .agg #[.int .i64 v1, .int .i64 v2, .bool false]] u (WkE X1 u)) (T : ∀ (u : World) (ql qp qa qf : Nat), Below w.heap.size w u → u.cell? ⟨ql, 0, none⟩ = some (.slice (some ⟨b, o + m, none⟩) (N - m) (cx - m)) → u.cell? ⟨qp, 0, none⟩ = some (.slice (some ⟨bp, op, none⟩) q cp) → u.cell? ⟨qa, 0, none⟩ = some (.int .i64 (a - m)) → u.cell? ⟨qf, 0, none⟩ = some (.int .i64 l) → ql < u.heap.size → qp < u.heap.size → qa < u.heap.size → qf < u.heap.size → Calls Tryd.prog 107 #[.pointer (some ⟨ql, 0, none⟩), .pointer (some ⟨qp, 0, none⟩), .pointer (some ⟨qa, 0, none⟩), .pointer (some ⟨qf, 0, none⟩)] u (WkE X2 u)) :
    Calls Tryd.prog 107 #[.pointer (some ⟨pl, 0, none⟩), .pointer (some ⟨pp, 0, none⟩), .pointer (some ⟨pa, 0, none⟩), .pointer (some ⟨pf, 0, none⟩)] w (WkE (X1 <|> X2) w) := by
  have hN24 : (N : Int) ≤ 24 := by omega
  have e1 : ((N : Int) == 1) = false := by simp; omega
  have RAH : Hid (_) := RA
  have NDH : Hid (_) := ND
  have TH : Hid (_) := T
  have CLH : Hid (_) := CL
  have F1 := fldR1
  have CU1 : Hid (∀ u : World, Calls Tryd.prog 108 #[.slice (some ⟨b, o, none⟩) N cx] u fun r w' => r = .returned (.agg #[.slice (some ⟨b, o, none⟩) m cx, .slice (some ⟨b, o + m, none⟩) (N - m) (cx - m)]) ∧ Below u.heap.size u w') := fun u => cutOf_any b o N cx m u h2 h24 hm hcx hmx
  have OLD : Hid (∀ wx : World, Below w.heap.size w wx → wx.cell? ⟨pl, 0, none⟩ = some (.slice (some ⟨b, o, none⟩) N cx) ∧ wx.cell? ⟨pp, 0, none⟩ = some (.slice (some ⟨bp, op, none⟩) (q + 1) cp) ∧ wx.cell? ⟨pa, 0, none⟩ = some (.int .i64 a) ∧ wx.cell? ⟨pf, 0, none⟩ = some (.int .i64 l) ∧ wx.cell? ⟨bp, op + q, none⟩ = some (.int .i64 last)) := fun wx h => ⟨(h.cell (p := ⟨pl, 0, none⟩) ll).trans kl, (h.cell (p := ⟨pp, 0, none⟩) lp).trans kp, (h.cell (p := ⟨pa, 0, none⟩) la).trans ka, (h.cell (p := ⟨pf, 0, none⟩) lf).trans kf, (h.cell (p := ⟨bp, op + q, none⟩) lb).trans kv⟩
  have hmf : ∀ (fn : Fn) (first cap : Array Value) (w : World), (Instr.makeFunc fn first cap).run Tryd.prog w = .ok (.func fn first cap) w := fun _ _ _ _ => rfl
  have hmN : m < N := by have := splN_lt (n := (N : Int)) (by omega); omega
  have hmN' : (m : Int) < N := by omega
  have hm1 : (1 : Int) ≤ m := by have := splN_pos (N : Int); omega
  clear RA ND T CL hm h2 h24 hmx
  go_enter Tryd.func107, Tryd.ntmps107
  go_wp2_with fail
  refine (CU1.out _).mono ?_
  rintro r u1 ⟨rfl, hb1⟩
  have z1 := hb1.size
  obtain ⟨o1, o2, o3, o4, o5⟩ := OLD.out _ hb1
  have n1 : ¬ pp = u1.heap.size := by omega
  have n2 : pp < u1.heap.size := by omega
  have n3 : ¬ bp = u1.heap.size := by omega
  have n4 : ¬ u1.heap.size = pp := by omega
  go_wp2_with fail
  refine (lastOf_any bp op q cp last _ ((((Below.refl u1.heap.size u1).alloc (Nat.le_refl _) _).cell (p := ⟨bp, op + q, none⟩) (show bp < u1.heap.size by omega)).trans o5) hcp hmp).mono ?_
  rintro r u2 ⟨rfl, k, hu⟩
  have zu : u1.heap.size < u2.heap.size := by rw [hu]; exact Nat.lt_of_lt_of_le (by simp) (below_drewN (Below.refl 0 _) _).size
  have CE : ∀ wx : World, Below u2.heap.size u2 wx → wx.cell? ⟨u1.heap.size, 0, none⟩ = some (.slice (some ⟨b, o, none⟩) m cx) ∧ wx.cell? ⟨u1.heap.size, 1, none⟩ = some (.slice (some ⟨b, o + m, none⟩) (N - m) (cx - m)) := fun wx h => ⟨(h.cell (p := ⟨u1.heap.size, 0, none⟩) zu).trans (by rw [hu]; simp [go_sem]), (h.cell (p := ⟨u1.heap.size, 1, none⟩) zu).trans (by rw [hu]; simp [go_sem])⟩
  have W2 : Below w.heap.size w u2 := by rw [hu]; refine below_drewN ?_ _; repeat (first | exact hb1.alloc z1 _ | refine Below.setCell ?_ z1 _)
  have CEH : Hid (_) := CE
  clear CE hu n1 n2 n3 n4 o1 o2 o3 o4 o5 hb1 CU1 z1
  obtain ⟨o1, o2, o3, o4, o5⟩ := OLD.out _ W2
  obtain ⟨k1, k2⟩ := CEH.out _ (Below.refl _ _)
  have z2 := W2.size
  go_wp2_with fail
  go_quiet (fail)
  go_wp2_with fail
  refine (CLH.out _ (below_drewN W2 _)).mono ?_
  rintro r u3 ⟨rfl, hb3⟩
  have dq := below_drewN (Below.refl u2.heap.size u2) nq
  have C3 : Below u2.heap.size u2 u3 := dq.trans (hb3.mono dq.size)
  have W3 := W2.trans (C3.mono z2)
  clear hb3 k1 k2
  obtain ⟨k1, k2⟩ := CEH.out _ C3
  go_wp2_with fail
  refine (RAH.out _ W3).mono ?_
  rintro r u4 ⟨rfl, hb4⟩
  have C4 := C3.trans (hb4.mono C3.size)
  have W4 := W3.trans (hb4.mono W3.size)
  go_wp2_with fail
  refine (NDH.out _ W4).mono ?_
  rintro e u5 ⟨hb5, h⟩
  have C5 := C4.trans (hb5.mono C4.size)
  have W5 := W4.trans (hb5.mono W4.size)
  rcases h with ⟨hn, rfl⟩ | hp
  rotate_left
  · obtain ⟨y, a1, j1, a2, j2, hX, rfl, OC⟩ := hp
    have hh := WkP.out (X := X1) (Z := X2) ⟨y, a1, j1, a2, j2, hX, rfl, OC⟩ hb5 W4
    exact ⟨rfl, hh⟩
  subst hn
  clear hb4 hb5 C3 W3 C4 W4 k1 k2 RAH NDH CLH o1 o2 o3 o4 o5
  obtain ⟨k1, k2⟩ := CEH.out _ C5
  obtain ⟨o1, o2, o3, o4, o5⟩ := OLD.out _ W5
  have z5 := W5.size
  go_wp2_with fail
  refine (leafWalk_any _ _ _ _ _ _ _ _ _).mono ?_
  rintro r u6 ⟨rfl, hu⟩
  have W6 : Below w.heap.size w u6 := by rw [hu]; exact (((W5.alloc z5 _).alloc (by simp; omega) _).alloc (by simp; omega) _).alloc (by simp; omega) _
  have zq : u6.heap.size = u5.heap.size + 4 := by rw [hu]; simp
  have TT := TH.out u6 (u5.heap.size + 3) (u5.heap.size + 2) (u5.heap.size + 1) u5.heap.size W6 (by rw [hu]; simp [go_sem]) (by rw [hu]; simp [go_sem]) (by rw [hu]; simp [go_sem]) (by rw [hu]; simp [go_sem]) (by omega) (by omega) (by omega) (by omega)
  have TTH : Hid (_) := TT
  clear hu zq TT o1 o2 o3 o4 o5 k1 k2
  go_wp2_with fail
  refine Calls.mono (P := Tryd.prog) (f := 107) TTH.out ?_
  rintro e u7 ⟨hb7, h⟩
  rcases h with ⟨hn, rfl⟩ | hp
  rotate_left
  · obtain ⟨y, a1, j1, a2, j2, hX, rfl, OC⟩ := hp
    have hh := WkP.same (X := X2) ⟨y, a1, j1, a2, j2, hX, rfl, OC⟩ hb7 W6
    exact ⟨rfl, hh⟩
  subst hn
  go_wp2
  go_end0
  exact WkE.ret (W6.trans (hb7.mono W6.size))

end Go.Proofs.YtklhkhlmhddmcaaDoor
