/- Contracts: the program's walk along a growth, its second closure. -/
import Derived.Test.YtklhkhlmhddmcaaDoorIGw1
namespace Go.Proofs.YtklhkhlmhddmcaaDoor
open Go.ChangeShapes Go.WideShapes Go.ChangeAt Go.RowKit
set_option linter.unusedVariables false
set_option linter.unusedSimpArgs false

set_option maxHeartbeats 16000000 in
set_option maxRecDepth 100000 in
theorem growWalk2_step (qb qw qx qg qq qt qr b1 o1 b2 o2 bp op M N m q cx cy cz : Nat) (s t s2 t2 r a bb last v1 v2 v3 v4 : Int) (wh wh2 : Bool) (X1 X2 X3 X4 : Cl) (w : World)
    (ha0 : 0 ≤ a) (ha1 : a ≤ 65520) (hb0 : 0 ≤ bb) (hb1 : bb ≤ 65520)
    (k0 : w.cell? ⟨qw, 0, none⟩ = some (.complex .f64 (floatOfInt .f64 (a)) (floatOfInt .f64 (bb)))) (k1 : w.cell? ⟨qb, 0, none⟩ = some (.int .i64 last)) (k2 : w.cell? ⟨qg, 0, none⟩ = some (.slice (some ⟨b2, o2, none⟩) m cy)) (k3 : w.cell? ⟨qg, 1, none⟩ = some (.slice (some ⟨b2, o2 + m, none⟩) (N - m) (cy - m))) (k4 : w.cell? ⟨qq, 0, none⟩ = some (.int .i64 s)) (k5 : w.cell? ⟨qq, 1, none⟩ = some (.int .i64 t)) (k6 : w.cell? ⟨qq, 2, none⟩ = some (.bool wh)) (k7 : w.cell? ⟨qt, 0, none⟩ = some (.int .i64 r)) (k8 : w.cell? ⟨qr, 0, none⟩ = some (.slice (some ⟨bp, op, none⟩) q cz)) (k9 : w.cell? ⟨qx, 0, none⟩ = some (.slice (some ⟨b1, o1, none⟩) m cx)) (k10 : w.cell? ⟨qx, 1, none⟩ = some (.slice (some ⟨b1, o1 + m, none⟩) (M - m) (cx - m)))
    (l0 : qw < w.heap.size) (l1 : qb < w.heap.size) (l2 : qg < w.heap.size) (l4 : qq < w.heap.size) (l7 : qt < w.heap.size) (l8 : qr < w.heap.size) (l9 : qx < w.heap.size)
    (RX : ∀ u : World, Below w.heap.size w u → Calls Tryd.prog 111 #[.agg #[.slice (some ⟨b1, o1, none⟩) m cx, .slice (some ⟨b1, o1 + m, none⟩) (M - m) (cx - m)]] u fun r w' => r = .returned (.agg #[.int .i64 v1, .int .i64 v2, .bool false]) ∧ Below u.heap.size u w')
    (RY : ∀ u : World, Below w.heap.size w u → Calls Tryd.prog 111 #[.agg #[.slice (some ⟨b2, o2, none⟩) m cy, .slice (some ⟨b2, o2 + m, none⟩) (N - m) (cy - m)]] u fun r w' => r = .returned (.agg #[.int .i64 v3, .int .i64 v4, .bool false]) ∧ Below u.heap.size u w')
    (N1 : ∀ u : World, Below w.heap.size w u → Calls Tryd.prog 110 #[.agg #[.int .i64 last, .int .i64 a, .bool false], .agg #[.int .i64 v1, .int .i64 v2, .bool false]] u (WkE X1 u))
    (N2 : ∀ u : World, Below w.heap.size w u → Calls Tryd.prog 110 #[.agg #[.int .i64 last, .int .i64 bb, .bool false], .agg #[.int .i64 v3, .int .i64 v4, .bool false]] u (WkE X2 u))
    (TW : ∀ (u : World) (pa pb : Nat), Below w.heap.size w u → u.cell? ⟨pa, 0, none⟩ = some (.slice (some ⟨b1, o1, none⟩) m cx) → u.cell? ⟨pb, 0, none⟩ = some (.slice (some ⟨b2, o2, none⟩) m cy) → pa < u.heap.size → pb < u.heap.size → Calls Tryd.prog 132 #[.pointer (some ⟨pa, 0, none⟩), .pointer (some ⟨pb, 0, none⟩)] u (WkE X3 u))
    (PA : ∀ u : World, Below w.heap.size w u → Calls Tryd.prog 122 #[.agg #[.int .i64 (s), .int .i64 (t), .bool wh]] u fun r w' => r = .returned (.agg #[.int .i64 (s2), .int .i64 (t2), .bool wh2]) ∧ Below u.heap.size u w')
    (GW : ∀ u : World, Below w.heap.size w u → Calls Tryd.prog 80 #[.agg #[.int .i64 (s2), .int .i64 (t2), .bool wh2], .int .i64 r, .slice (some ⟨bp, op, none⟩) q cz, .slice (some ⟨b1, o1 + m, none⟩) (M - m) (cx - m), .slice (some ⟨b2, o2 + m, none⟩) (N - m) (cy - m)] u fun e w' => ∃ k caps, e = .returned (.func (.func k) #[] caps) ∧ (∀ v : World, (callFunc k caps).run Tryd.prog v = .ok (.enter k caps) v) ∧ (∀ v : World, Below w'.heap.size w' v → Calls Tryd.prog k caps v (WkE X4 v)) ∧ Below u.heap.size u w') :
    Calls Tryd.prog 127 #[.pointer (some ⟨qb, 0, none⟩), .pointer (some ⟨qw, 0, none⟩), .pointer (some ⟨qx, 0, none⟩), .pointer (some ⟨qg, 0, none⟩), .pointer (some ⟨qq, 0, none⟩), .pointer (some ⟨qt, 0, none⟩), .pointer (some ⟨qr, 0, none⟩)] w (WkE (X1 <|> (X2 <|> (X3 <|> X4))) w) := by
  have GR : Hid (∀ u : World, Calls Tryd.prog 126 #[(.complex .f64 (floatOfInt .f64 (a)) (floatOfInt .f64 (bb)))] u fun r w' => r = .returned (.int .i64 bb) ∧ w' = u) := fun u => grown_any a bb u hb0 hb1
  have OL : Hid (∀ u : World, Calls Tryd.prog 128 #[(.complex .f64 (floatOfInt .f64 (a)) (floatOfInt .f64 (bb)))] u fun r w' => r = .returned (.int .i64 a) ∧ w' = u) := fun u => old_any a bb u ha0 ha1
  have RXH : Hid (_) := RX
  have RYH : Hid (_) := RY
  have N1H : Hid (_) := N1
  have N2H : Hid (_) := N2
  have TWH : Hid (_) := TW
  have PAH : Hid (_) := PA
  have GWH : Hid (_) := GW
  generalize floatOfInt .f64 a = fa at *
  generalize floatOfInt .f64 bb = fb at *
  have d0 : ∀ wx : World, Below w.heap.size w wx → wx.cell? ⟨qw, 0, none⟩ = some (.complex .f64 fa fb) := fun wx h => (h.cell (p := ⟨qw, 0, none⟩) l0).trans k0
  have d1 : ∀ wx : World, Below w.heap.size w wx → wx.cell? ⟨qb, 0, none⟩ = some (.int .i64 last) := fun wx h => (h.cell (p := ⟨qb, 0, none⟩) l1).trans k1
  have d2 : ∀ wx : World, Below w.heap.size w wx → wx.cell? ⟨qg, 0, none⟩ = some (.slice (some ⟨b2, o2, none⟩) m cy) := fun wx h => (h.cell (p := ⟨qg, 0, none⟩) l2).trans k2
  have d3 : ∀ wx : World, Below w.heap.size w wx → wx.cell? ⟨qg, 1, none⟩ = some (.slice (some ⟨b2, o2 + m, none⟩) (N - m) (cy - m)) := fun wx h => (h.cell (p := ⟨qg, 1, none⟩) l2).trans k3
  have d4 : ∀ wx : World, Below w.heap.size w wx → wx.cell? ⟨qq, 0, none⟩ = some (.int .i64 s) := fun wx h => (h.cell (p := ⟨qq, 0, none⟩) l4).trans k4
  have d5 : ∀ wx : World, Below w.heap.size w wx → wx.cell? ⟨qq, 1, none⟩ = some (.int .i64 t) := fun wx h => (h.cell (p := ⟨qq, 1, none⟩) l4).trans k5
  have d6 : ∀ wx : World, Below w.heap.size w wx → wx.cell? ⟨qq, 2, none⟩ = some (.bool wh) := fun wx h => (h.cell (p := ⟨qq, 2, none⟩) l4).trans k6
  have d7 : ∀ wx : World, Below w.heap.size w wx → wx.cell? ⟨qt, 0, none⟩ = some (.int .i64 r) := fun wx h => (h.cell (p := ⟨qt, 0, none⟩) l7).trans k7
  have d8 : ∀ wx : World, Below w.heap.size w wx → wx.cell? ⟨qr, 0, none⟩ = some (.slice (some ⟨bp, op, none⟩) q cz) := fun wx h => (h.cell (p := ⟨qr, 0, none⟩) l8).trans k8
  have d9 : ∀ wx : World, Below w.heap.size w wx → wx.cell? ⟨qx, 0, none⟩ = some (.slice (some ⟨b1, o1, none⟩) m cx) := fun wx h => (h.cell (p := ⟨qx, 0, none⟩) l9).trans k9
  have d10 : ∀ wx : World, Below w.heap.size w wx → wx.cell? ⟨qx, 1, none⟩ = some (.slice (some ⟨b1, o1 + m, none⟩) (M - m) (cx - m)) := fun wx h => (h.cell (p := ⟨qx, 1, none⟩) l9).trans k10
  have U0 : Below w.heap.size w w.drew := (Below.refl _ _).drew
  clear RX RY N1 N2 TW PA GW k0 k1 k2 k3 k4 k5 k6 k7 k8 k9 k10 l0 l1 l2 l4 l7 l8 l9 ha0 ha1 hb0 hb1
  go_enter Tryd.func127, Tryd.ntmps127
  go_wp2_with fail
  go_region_held2 (fun wx => Below w.heap.size w wx)
    ((first | exact U0 | exact U3 | exact U2 | exact U1))
    ((first | (go_at_call 128; refine (OL.out _).mono ?_; rintro _ ua ⟨rfl, rfl⟩; have U1 : Below w.heap.size w w.drew := U0) | (go_at_call 111; refine (RXH.out _ U0).mono ?_; rintro _ ub ⟨rfl, hbb⟩; have U2 : Below w.heap.size w ub := U0.trans (hbb.mono U0.size)) | (go_at_call 110; refine (N1H.out _ U2).mono ?_; rintro e uc ⟨hbc, h⟩; have U3 : Below w.heap.size w uc := U2.trans (hbc.mono U2.size); (rcases h with ⟨hn, rfl⟩ | hp); rotate_left; (obtain ⟨y, a1, k1, a2, k2, hX, rfl, OC⟩ := hp); exact ⟨rfl, WkP.out (X := X1) (Z := X2 <|> (X3 <|> X4)) ⟨y, a1, k1, a2, k2, hX, rfl, OC⟩ hbc U2⟩) | fail))
  subst hn
  have T0 : Below w.heap.size w uc.drew := U3.drew
  clear U0 U1 U2 hbb hbc
  go_wp2_with fail
  go_region_held2 (fun wx => Below w.heap.size w wx)
    ((first | exact T0 | exact T3 | exact T2 | exact T1 | exact U3))
    ((first | (go_at_call 126; refine (GR.out _).mono ?_; rintro _ ua' ⟨rfl, rfl⟩; have T1 : Below w.heap.size w uc.drew := T0) | (go_at_call 111; refine (RYH.out _ T0).mono ?_; rintro _ ub' ⟨rfl, hbb⟩; have T2 : Below w.heap.size w ub' := T0.trans (hbb.mono T0.size)) | (go_at_call 110; refine (N2H.out _ T2).mono ?_; rintro e uc' ⟨hbc, h⟩; have T3 : Below w.heap.size w uc' := T2.trans (hbc.mono T2.size); (rcases h with ⟨hn, rfl⟩ | hp); rotate_left; (obtain ⟨y, a1, k1, a2, k2, hX, rfl, OC⟩ := hp); exact ⟨rfl, WkP.out (X := X2) (Z := X3 <|> X4) ⟨y, a1, k1, a2, k2, hX, rfl, OC⟩ hbc T2⟩) | fail))
  subst hn
  clear T0 T1 T2 hbb hbc U3
  go_wp2_with fail
  refine (treeWalk_any _ _ _ _ _ _ _).mono ?_
  rintro r u4 ⟨rfl, hu⟩
  have z3 := T3.size
  have W4 : Below w.heap.size w u4 := by rw [hu]; exact (T3.alloc z3 _).alloc (by simp; omega) _
  have zq : u4.heap.size = uc'.heap.size + 2 := by rw [hu]; simp
  have TT := TWH.out u4 uc'.heap.size (uc'.heap.size + 1) W4 (by rw [hu]; simp [go_sem]) (by rw [hu]; simp [go_sem]) (by omega) (by omega)
  have TTH : Hid (_) := TT
  clear hu zq TT z3
  go_wp2_with fail
  refine Calls.mono (P := Tryd.prog) (f := 132) TTH.out ?_
  rintro e u5 ⟨hb5, h⟩
  rcases h with ⟨hn, rfl⟩ | hp
  rotate_left
  · obtain ⟨y, a1, j1, a2, j2, hX, rfl, OC⟩ := hp
    have hh := WkP.out (X := X3) (Z := X4) ⟨y, a1, j1, a2, j2, hX, rfl, OC⟩ hb5 W4
    exact ⟨rfl, hh⟩
  subst hn
  have W5 := W4.trans (hb5.mono W4.size)
  have V0 : Below w.heap.size w u5.drew := W5.drew
  clear hb5 W4 TTH T3
  go_wp2_with fail
  go_region_held2 (fun wx => Below w.heap.size w wx)
    ((first | exact V0 | exact V3 | exact V2 | exact V1 | exact W5))
    ((first | (go_at_call 122; refine (PAH.out _ V0).mono ?_; rintro _ ud ⟨rfl, hbd⟩; have V1 : Below w.heap.size w ud := V0.trans (hbd.mono V0.size)) | (go_at_call 80; refine (GWH.out _ V1).mono ?_; rintro e ue ⟨k, caps, rfl, hk, hc, hbe⟩; have V2 : Below w.heap.size w ue := V1.trans (hbe.mono V1.size); have hcH : Hid (∀ v : World, Below ue.heap.size ue v → Calls Tryd.prog k caps v (WkE X4 v)) := hc; clear hc) | (refine Calls.mono (P := Tryd.prog) (f := k) (hcH.out _ (Below.refl _ _)) ?_; rintro e uf ⟨hbf, h⟩; have V3 : Below w.heap.size w uf := V2.trans (hbf.mono V2.size); (rcases h with ⟨hn, rfl⟩ | hp); rotate_left; (obtain ⟨y, a1, k1, a2, k2, hX, rfl, OC⟩ := hp); exact ⟨rfl, WkP.same (X := X4) ⟨y, a1, k1, a2, k2, hX, rfl, OC⟩ hbf V2⟩) | fail))
  subst hn
  go_wp2
  go_end0
  exact WkE.ret V3

end Go.Proofs.YtklhkhlmhddmcaaDoor
