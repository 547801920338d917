/- Contracts: the program's walk along a growth, its closures. -/
import Derived.Test.YtklhkhlmhddmcaaDoorITreeC
import Derived.Test.YtklhkhlmhddmcaaDoorIGrwR
import Derived.Deep.DeepCutAuto
namespace Go.Proofs.YtklhkhlmhddmcaaDoor
open Go.ChangeShapes Go.WideShapes Go.ChangeAt Go.RowKit
set_option linter.unusedVariables false
set_option linter.unusedSimpArgs false

set_option maxHeartbeats 8000000 in
set_option maxRecDepth 100000 in
theorem growWalk1_step (qw qb qg qq qt qr qo b2 o2 bp op N m q cy cz nx cx : Nat) (x : Option Addr) (s t s2 t2 r a bb last v3 v4 : Int) (wh wh2 : Bool) (X1 X2 : Cl) (w : World)
    (hb0 : 0 ≤ bb) (hb1 : bb ≤ 65520)
    (k0 : w.cell? ⟨qw, 0, none⟩ = some (.complex .f64 (floatOfInt .f64 (a)) (floatOfInt .f64 (bb)))) (k1 : w.cell? ⟨qb, 0, none⟩ = some (.int .i64 last)) (k2 : w.cell? ⟨qg, 0, none⟩ = some (.slice (some ⟨b2, o2, none⟩) m cy)) (k3 : w.cell? ⟨qg, 1, none⟩ = some (.slice (some ⟨b2, o2 + m, none⟩) (N - m) (cy - m))) (k4 : w.cell? ⟨qq, 0, none⟩ = some (.int .i64 s)) (k5 : w.cell? ⟨qq, 1, none⟩ = some (.int .i64 t)) (k6 : w.cell? ⟨qq, 2, none⟩ = some (.bool wh)) (k7 : w.cell? ⟨qt, 0, none⟩ = some (.int .i64 r)) (k8 : w.cell? ⟨qr, 0, none⟩ = some (.slice (some ⟨bp, op, none⟩) q cz)) (k9 : w.cell? ⟨qo, 0, none⟩ = some (.slice x nx cx))
    (l0 : qw < w.heap.size) (l1 : qb < w.heap.size) (l2 : qg < w.heap.size) (l4 : qq < w.heap.size) (l7 : qt < w.heap.size) (l8 : qr < w.heap.size) (l9 : qo < w.heap.size)
    (RA : ∀ u : World, Below w.heap.size w u → Calls Tryd.prog 111 #[.agg #[.slice (some ⟨b2, o2, none⟩) m cy, .slice (some ⟨b2, o2 + m, none⟩) (N - m) (cy - m)]] u fun r w' => r = .returned (.agg #[.int .i64 v3, .int .i64 v4, .bool false]) ∧ Below u.heap.size u w')
    (ND : ∀ u : World, Below w.heap.size w u → Calls Tryd.prog 110 #[.agg #[.int .i64 bb, .int .i64 last, .bool false], .agg #[.int .i64 v3, .int .i64 v4, .bool false]] u (WkE X1 u))
    (PA : ∀ u : World, Below w.heap.size w u → Calls Tryd.prog 122 #[.agg #[.int .i64 (s), .int .i64 (t), .bool wh]] u fun r w' => r = .returned (.agg #[.int .i64 (s2), .int .i64 (t2), .bool wh2]) ∧ Below u.heap.size u w')
    (GW : ∀ u : World, Below w.heap.size w u → Calls Tryd.prog 80 #[.agg #[.int .i64 (s2), .int .i64 (t2), .bool wh2], .int .i64 r, .slice (some ⟨bp, op, none⟩) q cz, .slice x nx cx, .slice (some ⟨b2, o2, none⟩) m cy] u fun e w' => ∃ k caps, e = .returned (.func (.func k) #[] caps) ∧ (∀ v : World, (callFunc k caps).run Tryd.prog v = .ok (.enter k caps) v) ∧ (∀ v : World, Below w'.heap.size w' v → Calls Tryd.prog k caps v (WkE X2 v)) ∧ Below u.heap.size u w') :
    Calls Tryd.prog 125 #[.pointer (some ⟨qw, 0, none⟩), .pointer (some ⟨qb, 0, none⟩), .pointer (some ⟨qg, 0, none⟩), .pointer (some ⟨qq, 0, none⟩), .pointer (some ⟨qt, 0, none⟩), .pointer (some ⟨qr, 0, none⟩), .pointer (some ⟨qo, 0, none⟩)] w (WkE (X1 <|> X2) w) := by
  have GR : Hid (∀ u : World, Calls Tryd.prog 126 #[(.complex .f64 (floatOfInt .f64 (a)) (floatOfInt .f64 (bb)))] u fun r w' => r = .returned (.int .i64 bb) ∧ w' = u) := fun u => grown_any a bb u hb0 hb1
  have RAH : Hid (_) := RA
  have NDH : Hid (_) := ND
  have PAH : Hid (_) := PA
  have GWH : Hid (_) := GW
  generalize floatOfInt .f64 a = fa at *
  generalize floatOfInt .f64 bb = fb at *
  have d0 : ∀ wx : World, Below w.heap.size w wx → wx.cell? ⟨qw, 0, none⟩ = some (.complex .f64 fa fb) := fun wx h => (h.cell (p := ⟨qw, 0, none⟩) l0).trans k0
  have d1 : ∀ wx : World, Below w.heap.size w wx → wx.cell? ⟨qb, 0, none⟩ = some (.int .i64 last) := fun wx h => (h.cell (p := ⟨qb, 0, none⟩) l1).trans k1
  have d2 : ∀ wx : World, Below w.heap.size w wx → wx.cell? ⟨qg, 0, none⟩ = some (.slice (some ⟨b2, o2, none⟩) m cy) := fun wx h => (h.cell (p := ⟨qg, 0, none⟩) l2).trans k2
  have d3 : ∀ wx : World, Below w.heap.size w wx → wx.cell? ⟨qg, 1, none⟩ = some (.slice (some ⟨b2, o2 + m, none⟩) (N - m) (cy - m)) := fun wx h => (h.cell (p := ⟨qg, 1, none⟩) l2).trans k3
  have d4 : ∀ wx : World, Below w.heap.size w wx → wx.cell? ⟨qq, 0, none⟩ = some (.int .i64 s) := fun wx h => (h.cell (p := ⟨qq, 0, none⟩) l4).trans k4
  have d5 : ∀ wx : World, Below w.heap.size w wx → wx.cell? ⟨qq, 1, none⟩ = some (.int .i64 t) := fun wx h => (h.cell (p := ⟨qq, 1, none⟩) l4).trans k5
  have d6 : ∀ wx : World, Below w.heap.size w wx → wx.cell? ⟨qq, 2, none⟩ = some (.bool wh) := fun wx h => (h.cell (p := ⟨qq, 2, none⟩) l4).trans k6
  have d7 : ∀ wx : World, Below w.heap.size w wx → wx.cell? ⟨qt, 0, none⟩ = some (.int .i64 r) := fun wx h => (h.cell (p := ⟨qt, 0, none⟩) l7).trans k7
  have d8 : ∀ wx : World, Below w.heap.size w wx → wx.cell? ⟨qr, 0, none⟩ = some (.slice (some ⟨bp, op, none⟩) q cz) := fun wx h => (h.cell (p := ⟨qr, 0, none⟩) l8).trans k8
  have d9 : ∀ wx : World, Below w.heap.size w wx → wx.cell? ⟨qo, 0, none⟩ = some (.slice x nx cx) := fun wx h => (h.cell (p := ⟨qo, 0, none⟩) l9).trans k9
  have U0 : Below w.heap.size w w.drew := (Below.refl _ _).drew
  clear RA ND PA GW k0 k1 k2 k3 k4 k5 k6 k7 k8 k9 l0 l1 l2 l4 l7 l8 l9 hb0 hb1
  go_enter Tryd.func125, Tryd.ntmps125
  go_wp2_with fail
  go_region_held2 (fun wx => Below w.heap.size w wx)
    ((first | exact U0 | exact U3 | exact U2 | exact U1))
    ((first | (go_at_call 126; refine (GR.out _).mono ?_; rintro _ ua ⟨rfl, rfl⟩; have U1 : Below w.heap.size w w.drew := U0) | (go_at_call 111; refine (RAH.out _ U0).mono ?_; rintro _ ub ⟨rfl, hbb⟩; have U2 : Below w.heap.size w ub := U0.trans (hbb.mono U0.size)) | (go_at_call 110; refine (NDH.out _ U2).mono ?_; rintro e uc ⟨hbc, h⟩; have U3 : Below w.heap.size w uc := U2.trans (hbc.mono U2.size); (rcases h with ⟨hn, rfl⟩ | hp); rotate_left; (obtain ⟨y, a1, k1, a2, k2, hX, rfl, OC⟩ := hp); exact ⟨rfl, WkP.out (X := X1) (Z := X2) ⟨y, a1, k1, a2, k2, hX, rfl, OC⟩ hbc U2⟩) | fail))
  subst hn
  have V0 : Below w.heap.size w uc.drew := U3.drew
  clear U0 U1 U2 hbb hbc
  go_wp2_with fail
  go_region_held2 (fun wx => Below w.heap.size w wx)
    ((first | exact V0 | exact V3 | exact V2 | exact V1 | exact U3))
    ((first | (go_at_call 122; refine (PAH.out _ V0).mono ?_; rintro _ ud ⟨rfl, hbd⟩; have V1 : Below w.heap.size w ud := V0.trans (hbd.mono V0.size)) | (go_at_call 80; refine (GWH.out _ V1).mono ?_; rintro e ue ⟨k, caps, rfl, hk, hc, hbe⟩; have V2 : Below w.heap.size w ue := V1.trans (hbe.mono V1.size); have hcH : Hid (∀ v : World, Below ue.heap.size ue v → Calls Tryd.prog k caps v (WkE X2 v)) := hc; clear hc) | (refine Calls.mono (P := Tryd.prog) (f := k) (hcH.out _ (Below.refl _ _)) ?_; rintro e uf ⟨hbf, h⟩; have V3 : Below w.heap.size w uf := V2.trans (hbf.mono V2.size); (rcases h with ⟨hn, rfl⟩ | hp); rotate_left; (obtain ⟨y, a1, k1, a2, k2, hX, rfl, OC⟩ := hp); exact ⟨rfl, WkP.same (X := X2) ⟨y, a1, k1, a2, k2, hX, rfl, OC⟩ hbf V2⟩) | fail))
  subst hn
  go_wp2
  go_end0
  exact WkE.ret V3

end Go.Proofs.YtklhkhlmhddmcaaDoor
