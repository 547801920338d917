/- Contracts: the program's walk along a growth, its first closure. -/
import Derived.Test.YtklhkhlmhddmcaaDoorIGw0
import Derived.Deep.DeepCutAuto
namespace Go.Proofs.YtklhkhlmhddmcaaDoor
open Go.ChangeShapes Go.WideShapes Go.ChangeAt Go.RowKit
set_option linter.unusedVariables false
set_option linter.unusedSimpArgs false

set_option maxHeartbeats 8000000 in
set_option maxRecDepth 100000 in
theorem growWalk_lo (s t s2 t2 r a bb last : Int) (wh wh2 : Bool) (x : Option Addr) (nx cx b2 o2 N m cy bp op q cz : Nat) (w : World) (hst : s ≠ t) (hlo : s ≤ splN t) (ht2 : 2 ≤ t) (ht24 : t ≤ 24) (hN2 : 2 ≤ N) (hN24 : N ≤ 24) (hm : splN N = m) (hcy : N ≤ cy) (hmy : cy ≤ maxLen) (hcz : q + 1 ≤ cz) (hmz : cz ≤ maxLen) (kv : w.cell? ⟨bp, op + q, none⟩ = some (.int .i64 last)) (lb : bp < w.heap.size)
    (PA : ∀ u : World, Below w.heap.size w u → Calls Tryd.prog 122 #[.agg #[.int .i64 (s), .int .i64 (t), .bool wh]] u fun r w' => r = .returned (.agg #[.int .i64 (s2), .int .i64 (t2), .bool wh2]) ∧ Below u.heap.size u w')
    (RB : ∀ u : World, Below w.heap.size w u → Calls Tryd.prog 123 #[.agg #[.int .i64 (s2), .int .i64 (t2), .bool wh2], .int .i64 r, .slice (some ⟨bp, op, none⟩) q cz] u fun r w' => r = .returned ((.complex .f64 (floatOfInt .f64 (a)) (floatOfInt .f64 (bb)))) ∧ Below u.heap.size u w') :
    Calls Tryd.prog 80 #[.agg #[.int .i64 (s), .int .i64 (t), .bool wh], .int .i64 r, .slice (some ⟨bp, op, none⟩) (q + 1) cz, .slice x nx cx, .slice (some ⟨b2, o2, none⟩) N cy] w fun e w' => ∃ qw qb qg qr : Nat, e = .returned (.func (.func 125) #[] #[.pointer (some ⟨qw, 0, none⟩), .pointer (some ⟨qb, 0, none⟩), .pointer (some ⟨qg, 0, none⟩), .pointer (some ⟨w.heap.size, 0, none⟩), .pointer (some ⟨w.heap.size + 1, 0, none⟩), .pointer (some ⟨qr, 0, none⟩), .pointer (some ⟨w.heap.size + 2, 0, none⟩)]) ∧ (w'.cell? ⟨qw, 0, none⟩ = some (.complex .f64 (floatOfInt .f64 (a)) (floatOfInt .f64 (bb))) ∧ w'.cell? ⟨qb, 0, none⟩ = some (.int .i64 last) ∧ w'.cell? ⟨qg, 0, none⟩ = some (.slice (some ⟨b2, o2, none⟩) m cy) ∧ w'.cell? ⟨qg, 1, none⟩ = some (.slice (some ⟨b2, o2 + m, none⟩) (N - m) (cy - m)) ∧ w'.cell? ⟨w.heap.size, 0, none⟩ = some (.int .i64 s) ∧ w'.cell? ⟨w.heap.size, 1, none⟩ = some (.int .i64 t) ∧ w'.cell? ⟨w.heap.size, 2, none⟩ = some (.bool wh) ∧ w'.cell? ⟨w.heap.size + 1, 0, none⟩ = some (.int .i64 r) ∧ w'.cell? ⟨qr, 0, none⟩ = some (.slice (some ⟨bp, op, none⟩) q cz) ∧ w'.cell? ⟨w.heap.size + 2, 0, none⟩ = some (.slice x nx cx)) ∧ (qw < w'.heap.size ∧ qb < w'.heap.size ∧ qg < w'.heap.size ∧ w.heap.size < w'.heap.size ∧ w.heap.size + 1 < w'.heap.size ∧ qr < w'.heap.size ∧ w.heap.size + 2 < w'.heap.size) ∧ Below w.heap.size w w' := by
  have b : (s == t) = false := by simpa using hst
  have dl : decide (s ≤ splN t) = true := by simpa using hlo
  have PAH : Hid (_) := PA
  have RBH : Hid (_) := RB
  have KV : Hid (∀ wx : World, Below w.heap.size w wx → wx.cell? ⟨bp, op + q, none⟩ = some (.int .i64 last)) := fun wx h => (h.cell (p := ⟨bp, op + q, none⟩) lb).trans kv
  have CU1 : Hid (∀ u : World, Calls Tryd.prog 108 #[.slice (some ⟨b2, o2, none⟩) N cy] u fun r w' => r = .returned (.agg #[.slice (some ⟨b2, o2, none⟩) m cy, .slice (some ⟨b2, o2 + m, none⟩) (N - m) (cy - m)]) ∧ Below u.heap.size u w') := fun u => cutOf_any b2 o2 N cy m u hN2 hN24 hm hcy hmy
  have INF : Hid (∀ u : World, Calls Tryd.prog 124 #[.agg #[.int .i64 (s), .int .i64 (t), .bool wh]] u fun r w' => r = .returned (.bool true) ∧ Below u.heap.size u w') := by
    intro u
    have := inFirst_any s t wh u ht2 ht24
    rw [dl] at this
    exact this
  have hmf : ∀ (fn : Fn) (first cap : Array Value) (w : World), (Instr.makeFunc fn first cap).run Tryd.prog w = .ok (.func fn first cap) w := fun _ _ _ _ => rfl
  generalize floatOfInt .f64 a = fa at *
  generalize floatOfInt .f64 bb = fb at *
  have hsc : ∀ (p : Addr) (w : World), (store p (.complex .f64 fa fb)).run Tryd.prog w = stored Tryd.prog w p (.complex .f64 fa fb) .plain := fun p w => run_store _ _ _ _ _ rfl
  clear hst hlo ht2 ht24 hN2 hN24 hm hcy hmy kv PA RB dl
  have B0 : Below w.heap.size w ((((w.alloc (.cells #[.int .i64 s, .int .i64 t, .bool wh] 95)).alloc (.cells #[.int .i64 r] 2)).alloc (.cells #[.slice x nx cx] 25))) := (((Below.refl _ _).alloc (Nat.le_refl _) _).alloc (by simp) _).alloc (by simp; omega) _
  obtain ⟨E, hE⟩ : ∃ E, E = (((w.alloc (.cells #[.int .i64 s, .int .i64 t, .bool wh] 95)).alloc (.cells #[.int .i64 r] 2)).alloc (.cells #[.slice x nx cx] 25)) := ⟨_, rfl⟩
  have zE : E.heap.size = w.heap.size + 3 := by rw [hE]; simp
  rw [← hE] at B0
  have OB : Hid (∀ wx : World, Below E.heap.size E wx → (wx.cell? ⟨w.heap.size, 0, none⟩ = some (.int .i64 s) ∧ wx.cell? ⟨w.heap.size, 1, none⟩ = some (.int .i64 t) ∧ wx.cell? ⟨w.heap.size, 2, none⟩ = some (.bool wh) ∧ wx.cell? ⟨w.heap.size + 1, 0, none⟩ = some (.int .i64 r) ∧ wx.cell? ⟨w.heap.size + 2, 0, none⟩ = some (.slice x nx cx)) ∧ w.heap.size < wx.heap.size ∧ w.heap.size + 1 < wx.heap.size ∧ w.heap.size + 2 < wx.heap.size) := by
    intro wx h
    have hs := h.size
    refine ⟨⟨(h.cell (p := ⟨w.heap.size, 0, none⟩) (show w.heap.size < _ by omega)).trans ?_, (h.cell (p := ⟨w.heap.size, 1, none⟩) (show w.heap.size < _ by omega)).trans ?_, (h.cell (p := ⟨w.heap.size, 2, none⟩) (show w.heap.size < _ by omega)).trans ?_, (h.cell (p := ⟨w.heap.size + 1, 0, none⟩) (show w.heap.size + 1 < _ by omega)).trans ?_, (h.cell (p := ⟨w.heap.size + 2, 0, none⟩) (show w.heap.size + 2 < _ by omega)).trans ?_⟩, by omega, by omega, by omega⟩
    all_goals (rw [hE]; simp [go_sem])
  go_enter Tryd.func80, Tryd.ntmps80
  obtain ⟨⟨e0, e1, e2, e3, e4⟩, i0, i1, i2⟩ := OB.out E (Below.refl _ _)
  go_wp2_with fail
  simp only [← hE]
  clear hE zE
  refine (ofAll_any s t wh _).mono ?_
  rintro r' u1 ⟨rfl, hb1⟩
  rw [b]
  have B1 := B0.trans (hb1.mono B0.size)
  have kv1 := KV.out _ B1
  clear e0 e1 e2 e3 e4 i0 i1 i2
  go_wp2_with fail
  refine (lastOf_any bp op q cz last _ kv1 hcz hmz).mono ?_
  rintro r' u2 ⟨rfl, k, hu⟩
  have D2 : Below E.heap.size E u2 := by rw [hu]; exact below_drewN hb1 _
  have B2 := B0.trans (D2.mono B0.size)
  clear hu kv1 hb1 B1
  obtain ⟨⟨e0, e1, e2, e3, e4⟩, i0, i1, i2⟩ := OB.out u2 D2
  go_wp2_with fail
  obtain ⟨V, hV⟩ : ∃ V, V = (u2.alloc (.cells #[.int .i64 last] 2)).alloc (.cells #[.slice (some ⟨bp, op, none⟩) q cz] 25) := ⟨_, rfl⟩
  have DV : Below E.heap.size E V := by rw [hV]; exact (D2.alloc D2.size _).alloc (by have := D2.size; simp; omega) _
  have zV : u2.heap.size + 1 < V.heap.size := by rw [hV]; simp
  have VC : Hid (∀ wx : World, Below V.heap.size V wx → wx.cell? ⟨u2.heap.size, 0, none⟩ = some (.int .i64 last) ∧ wx.cell? ⟨u2.heap.size + 1, 0, none⟩ = some (.slice (some ⟨bp, op, none⟩) q cz) ∧ u2.heap.size < wx.heap.size ∧ u2.heap.size + 1 < wx.heap.size) := fun wx h => ⟨(h.cell (p := ⟨u2.heap.size, 0, none⟩) (show u2.heap.size < _ by omega)).trans (by rw [hV]; simp [go_sem]), (h.cell (p := ⟨u2.heap.size + 1, 0, none⟩) zV).trans (by rw [hV]; simp [go_sem]), by have := h.size; omega, by have := h.size; omega⟩
  simp only [← hV]
  clear e0 e1 e2 e3 e4 i0 i1 i2
  clear hV zV B2 D2 KV
  have WE : Hid (∀ wx : World, Below V.heap.size V wx → Below w.heap.size w wx) := fun wx h => B0.trans ((DV.trans (h.mono DV.size)).mono B0.size)
  have d0 : ∀ wx : World, Below V.heap.size V wx → wx.cell? ⟨w.heap.size, 0, none⟩ = some (.int .i64 s) := fun wx h => (OB.out _ (DV.trans (h.mono DV.size))).1.1
  have d1 : ∀ wx : World, Below V.heap.size V wx → wx.cell? ⟨w.heap.size, 1, none⟩ = some (.int .i64 t) := fun wx h => (OB.out _ (DV.trans (h.mono DV.size))).1.2.1
  have d2 : ∀ wx : World, Below V.heap.size V wx → wx.cell? ⟨w.heap.size, 2, none⟩ = some (.bool wh) := fun wx h => (OB.out _ (DV.trans (h.mono DV.size))).1.2.2.1
  have d3 : ∀ wx : World, Below V.heap.size V wx → wx.cell? ⟨w.heap.size + 1, 0, none⟩ = some (.int .i64 r) := fun wx h => (OB.out _ (DV.trans (h.mono DV.size))).1.2.2.2.1
  have d4 : ∀ wx : World, Below V.heap.size V wx → wx.cell? ⟨u2.heap.size + 1, 0, none⟩ = some (.slice (some ⟨bp, op, none⟩) q cz) := fun wx h => (VC.out _ h).2.1
  have U0 : Below V.heap.size V V.drew := (Below.refl _ _).drew
  go_cut [13] (fun s13 wx => ∃ qw : Nat, s13 = .pointer (some ⟨qw, 0, none⟩) ∧ wx.cell? ⟨qw, 0, none⟩ = some (.complex .f64 fa fb) ∧ qw < wx.heap.size ∧ V.heap.size ≤ qw ∧ Below V.heap.size V wx)
  case first =>
    go_region_held3 (fun wx => Below V.heap.size V wx)
      ((first | exact U0 | exact D1 | assumption | exact (U0.alloc (by first | omega | (simp; omega) | simp) _) | exact (D1.alloc D1.size _) | exact (D1.setCell (by first | omega | (simp; omega) | simp) _)))
      ((first | (go_at_call 122; refine (PAH.out _ (WE.out _ (by assumption))).mono ?_; rintro _ ua ⟨rfl, hba⟩; have D1 : Below V.heap.size V ua := Below.trans (by assumption) (hba.mono (Below.size (by assumption))); have zD := D1.size; (try (first | (have hvv := var1 hba) | (have hbb := var_drew hba; have hvv := var1 hbb) | (have hbb := var_on (A := World.alloc _ _) (by assumption) hba; have hvv := var1 hbb)); obtain ⟨q0, f0, q3⟩ := hvv; (try simp at q0); (try simp at f0); (try simp at q3))) | (go_at_call 123; refine (RBH.out _ (WE.out _ (by assumption))).mono ?_; rintro _ ua ⟨rfl, hba⟩; have D1 : Below V.heap.size V ua := Below.trans (by assumption) (hba.mono (Below.size (by assumption))); have zD := D1.size; (try (first | (have hvv := var1 hba) | (have hbb := var_drew hba; have hvv := var1 hbb) | (have hbb := var_on (A := World.alloc _ _) (by assumption) hba; have hvv := var1 hbb)); obtain ⟨q0, f0, q3⟩ := hvv; (try simp at q0); (try simp at f0); (try simp at q3))) | fail))
    all_goals go_wp2_with fail
    all_goals go_meet
    all_goals first
      | exact ⟨_, rfl, by simp [go_sem], by simp, D1.size, D1.alloc D1.size _⟩
      | exact ⟨_, rfl, World.cell?_setCell_same (h := q0) .., by simpa using q3, by first | omega | simp, D1.setCell (by first | omega | simp) _⟩
  case rest =>
    obtain ⟨qw, rfl, kq, lq, hq0, hcb⟩ := hcut
    generalize wc = Y at *
    have DY := DV.trans (hcb.mono DV.size)
    have BY := B0.trans (DY.mono B0.size)
    have QW : Hid (∀ wx : World, Below Y.heap.size Y wx → wx.cell? ⟨qw, 0, none⟩ = some (.complex .f64 fa fb) ∧ qw < wx.heap.size) := fun wx h => ⟨(h.cell (p := ⟨qw, 0, none⟩) lq).trans kq, Nat.lt_of_lt_of_le lq h.size⟩
    clear kq lq hq0 d0 d1 d2 d3 d4 U0 PAH RBH
    go_wp2_with fail
    refine (CU1.out _).mono ?_
    rintro r' u5 ⟨rfl, hb5⟩
    have DY5 := DY.trans (hb5.mono DY.size)
    obtain ⟨Z, hZ⟩ : ∃ Z, Z = u5.alloc (.cells #[.slice (some ⟨b2, o2, none⟩) m cy, .slice (some ⟨b2, o2 + m, none⟩) (N - m) (cy - m)] 115) := ⟨_, rfl⟩
    have zZ : u5.heap.size < Z.heap.size := by rw [hZ]; simp
    have DYZ : Below Y.heap.size Y Z := by rw [hZ]; exact hb5.alloc hb5.size _
    have DZ : Below E.heap.size E Z := DY.trans (DYZ.mono DY.size)
    have CZ : Hid (∀ wx : World, Below Z.heap.size Z wx → wx.cell? ⟨u5.heap.size, 0, none⟩ = some (.slice (some ⟨b2, o2, none⟩) m cy) ∧ wx.cell? ⟨u5.heap.size, 1, none⟩ = some (.slice (some ⟨b2, o2 + m, none⟩) (N - m) (cy - m)) ∧ u5.heap.size < wx.heap.size) := fun wx h => ⟨(h.cell (p := ⟨u5.heap.size, 0, none⟩) zZ).trans (by rw [hZ]; simp [go_sem]), (h.cell (p := ⟨u5.heap.size, 1, none⟩) zZ).trans (by rw [hZ]; simp [go_sem]), Nat.lt_of_lt_of_le zZ h.size⟩
    obtain ⟨⟨e0, e1, e2, e3, e4⟩, i0, i1, i2⟩ := OB.out u5 DY5
    go_wp2_with fail
    simp only [← hZ]
    clear hZ
    refine (INF.out _).mono ?_
    rintro r' u6 ⟨rfl, hb6⟩
    clear e0 e1 e2 e3 e4 i0 i1 i2
    have D6 := DZ.trans (hb6.mono DZ.size)
    have DY6 := DYZ.trans (hb6.mono DYZ.size)
    have DV6 := hcb.trans (DY6.mono hcb.size)
    have W6 := B0.trans (D6.mono B0.size)
    go_wp2
    go_ret
    obtain ⟨c1, c2, c3⟩ := CZ.out _ hb6
    obtain ⟨x1, x2, x3, x4⟩ := VC.out _ DV6
    obtain ⟨y1, y2⟩ := QW.out _ DY6
    obtain ⟨⟨e0, e1, e2, e3, e4⟩, i0, i1, i2⟩ := OB.out u6 D6
    exact ⟨qw, _, _, _, rfl, ⟨y1, x1, c1, c2, e0, e1, e2, e3, x2, e4⟩, ⟨y2, x3, c3, i0, i1, x4, i2⟩, W6⟩

end Go.Proofs.YtklhkhlmhddmcaaDoor
