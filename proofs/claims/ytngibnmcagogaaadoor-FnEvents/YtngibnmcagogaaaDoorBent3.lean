/- Contracts: the bent draws of the model's chapter 3. -/
import Derived.Test.YtngibnmcagogaaaDoorDraw3
import Derived.Test.YtngibnmcagogaaaDoorIPack
import Derived.Test.YtngibnmcagogaaaDoorMarkI
namespace Go.Proofs.YtngibnmcagogaaaDoor
open Go.ChangeShapes Go.WideShapes Go.ChangeAt Go.RowKit
set_option maxRecDepth 100000
set_option linter.unusedVariables false
set_option linter.unusedSimpArgs false

theorem own_setFar {w : World} {base e n g o c : Nat} {a : Option Addr} {xs : List Value} (h : w.ownsRow base e 1 (.slice a n c) n xs) (hg : ∀ ad, a = some ad → g ≠ ad.block) (u : Value) : (w.setCell ⟨g, o, none⟩ u).ownsRow base e 1 (.slice a n c) n xs := by
  refine ⟨h.1, h.2.imp id ?_⟩
  rintro ⟨g2, cap, cur, e1, e2, e3, e4⟩
  have ha : a = some ⟨g2, 0, none⟩ := by simp at e1; exact e1.1
  exact ⟨g2, cap, cur, e1, e2, (Below.heap_setCell w ⟨g, o, none⟩ u g2 (by show g2 ≠ g; have := hg _ ha; simp at this; omega)).trans e3, e4⟩

set_option maxHeartbeats 2000000 in
theorem l3Bent_any (w : World) (B s : Nat) (a : Option Addr) (len cap : Nat) (zs : List Int) (t : Nat) (h : SrcAt (w) B s a len cap zs (t)) (ht : t ≤ 100000) :
    Calls Tryd.prog 86 #[.pointer (some ⟨s, 0, none⟩)] w fun e w' => ∃ (es ev ek ex : Int) (a' : Option Addr) (c' : Nat) (ys : List Int), e = .returned (.agg #[.int .i64 es, .int .i64 ev, .int .i64 ek, .int .i64 ex, .slice a' ys.length c']) ∧ (-9223372036854775808 ≤ ex ∧ ex ≤ 9223372036854775807) ∧ ys.length ≤ 13 ∧ w'.ownsRow w.heap.size 5 1 (.slice a' ys.length c') ys.length (ys.map (.int .u8)) ∧ (∀ y ∈ ys, (Lit.int .u8 y).wf = true) ∧ Only s w w' := by
  have hs := h.lt
  have hsb := h.base
  obtain ⟨i0, hi, hz0, hz1, hz2⟩ := info_parts info8
  go_enter Tryd.func86, Tryd.ntmps86
  go_wp2_with fail
  refine (l3Draw_any _ B s a len cap zs t (h.alloc (.cells #[.int .i64 0, .int .i64 0, .int .i64 0, .int .i64 0, .slice none 0 0] 46)) ht).mono ?_
  rintro e u1 ⟨es, ev, ek, ex, a1, c1, ys, t', rfl, _, _, _, hxb, hyl, O1, yw, S1, ht', Y1⟩
  have z1 := Y1.size
  simp at z1
  have N1 : Only s w u1 := ((Only.refl s w).alloc _).trans Y1
  have G1 := (EvAt.new w 0 0 0 0 none 0 0 46).only Y1 (by omega)
  have H1 := (FrAt.new w (.int .i64 0) (.int .i64 0) (.int .i64 0) (.int .i64 0) (.slice none 0 0) 46).only Y1 (by omega) (by simp)
  have a1lt := own_lt O1
  have O1' : Hid (World.ownsRow u1 (w.heap.size + 1) 5 1 (.slice a1 ys.length c1) ys.length (ys.map (.int .u8))) := own_mono O1 (by simp)
  clear O1 Y1 h
  go_wp2_with fail
  refine (next_any _ B s a len cap zs t' 12 (S1.alloc _) (by omega) (by omega) (by omega)).mono ?_
  rintro e u2 ⟨c, rfl, c0, c1', S2, Y2⟩
  have z2 := Y2.size
  simp at z2
  have N2 := (N1.alloc _).trans Y2
  have E2 := (EvAt.new u1 es ev ek ex a1 ys.length c1 46).only Y2 (by omega)
  have F2 := (FrAt.new u1 (.int .i64 es) (.int .i64 ev) (.int .i64 ek) (.int .i64 ex) (.slice a1 ys.length c1) 46).only Y2 (by omega) (by simp)
  have G2 := (G1.old _).only Y2 (by omega)
  have H2 := (H1.old (by omega) _).only Y2 (by omega) (by simp; omega)
  have OO : Hid (World.ownsRow u2 (w.heap.size + 1) 5 1 (.slice a1 ys.length c1) ys.length (ys.map (.int .u8))) := own_only (O1'.out.alloc _) Y2 (by omega)
  have gz : u1.heap.size < u2.heap.size := by omega
  have gw : w.heap.size < u2.heap.size := by omega
  clear S1 N1 G1 H1 O1' Y2
  by_cases q0 : c = 0
  · have q0b : (c == 0) = true := by simpa using q0
    clear q0
    have S2a : Hid (SrcAt (u2.alloc (.cells #[.int .i64 (-1), .int .i64 64] 2)) B s a len cap zs (t' + 1)) := S2.alloc _
    have PH : Hid (_) := pick2 u2 (-1) 64 2
    go_wp2_with fail
    refine (pick_any _ B s a len cap zs (t' + 1) S2a.out (by omega) u2.heap.size [-1, 64] 2 rfl (by simp) (by omega) (by omega) (by omega) 2 PH.out).mono ?_
    rintro e u3 ⟨y, rfl, hp, S3, Y3⟩
    have hp' : y = -1 ∨ y = 64 := by simpa using hp
    have hB3 : Only s u2 u3 := ((Only.refl s u2).alloc _).trans Y3
    have N3 := N2.trans hB3
    have z3 := hB3.size
    have E3 := E2.only hB3 (by omega)
    have F3 := F2.only hB3 (by omega) E2.lt
    have G3 := G2.only hB3 (by omega)
    have H3 := H2.only hB3 (by omega) G2.lt
    have O3 : Hid (World.ownsRow u3 (w.heap.size + 1) 5 1 (.slice a1 ys.length c1) ys.length (ys.map (.int .u8))) := own_only OO.out hB3 (by omega)
    clear S2a PH hp Y3 S3 E2 F2 G2 H2 hB3 OO
    obtain ⟨e0, e1, e2, e3, e4, el⟩ := E3
    obtain ⟨g0, g1, g2, g3, g4, gl⟩ := G3
    obtain ⟨f0, f1, f2, f3, f4⟩ := H3
    obtain ⟨i0', i1', i2', i3', i4'⟩ := F3
    have gz3 : ¬ u1.heap.size = w.heap.size := by omega
    have gz4 : ¬ w.heap.size = u1.heap.size := by omega
    go_wp2
    refine bodyPost_ret (v := .agg #[.int .i64 y, .int .i64 ev, .int .i64 ek, .int .i64 ex, .slice a1 ys.length c1]) (by simp [results, Tryd.results86, go_sem, g0, g1, g2, g3, g4, gz3, gz4]) rfl ⟨_, _, _, _, _, _, ys, rfl, hxb, by omega, ?_, yw, ?_⟩
    · refine own_mono (base := w.heap.size + 1) ?_ (by omega)
      iterate 5 (refine own_set ?_ (by omega) _)
      exact own_setFar O3.out (fun ad had => by have := a1lt ad had; omega) _
    · iterate 6 (refine Only.storeNew ?_ (by omega) _)
      exact N3
  · have q0b : (c == 0) = false := by simpa using q0
    by_cases q1 : c = 1
    · have q1b : (c == 1) = true := by simpa using q1
      clear q0 q1
      have E3 := E2
      have F3 := F2
      have G3 := G2
      have H3 := H2
      clear E2 F2 G2 H2
      obtain ⟨e0, e1, e2, e3, e4, el⟩ := E3
      obtain ⟨g0, g1, g2, g3, g4, gl⟩ := G3
      obtain ⟨f0, f1, f2, f3, f4⟩ := H3
      obtain ⟨i0', i1', i2', i3', i4'⟩ := F3
      have gz3 : ¬ u1.heap.size = w.heap.size := by omega
      have gz4 : ¬ w.heap.size = u1.heap.size := by omega
      go_wp2
      refine bodyPost_ret (v := .agg #[.int .i64 es, .int .i64 ev, .int .i64 ek, .int .i64 9218868437227405313, .slice a1 ys.length c1]) (by simp [results, Tryd.results86, go_sem, g0, g1, g2, g3, g4, gz3, gz4]) rfl ⟨_, _, _, _, _, _, ys, rfl, ⟨by omega, by omega⟩, by omega, ?_, yw, ?_⟩
      · refine own_mono (base := w.heap.size + 1) ?_ (by omega)
        iterate 5 (refine own_set ?_ (by omega) _)
        exact own_setFar OO.out (fun ad had => by have := a1lt ad had; omega) _
      · iterate 6 (refine Only.storeNew ?_ (by omega) _)
        exact N2
    · have q1b : (c == 1) = false := by simpa using q1
      by_cases q2 : c = 2
      · have q2b : (c == 2) = true := by simpa using q2
        clear q0 q1 q2
        have S2a : Hid (SrcAt (u2.alloc (.cells #[.int .i64 (12), .int .i64 13] 2)) B s a len cap zs (t' + 1)) := S2.alloc _
        have PH : Hid (_) := pick2 u2 (12) 13 2
        go_wp2_with fail
        refine (pick_any _ B s a len cap zs (t' + 1) S2a.out (by omega) u2.heap.size [12, 13] 2 rfl (by simp) (by omega) (by omega) (by omega) 2 PH.out).mono ?_
        rintro e u3 ⟨y, rfl, hp, S3, Y3⟩
        have hp' : y = 12 ∨ y = 13 := by simpa using hp
        have hB3 : Only s u2 u3 := ((Only.refl s u2).alloc _).trans Y3
        have N3 := N2.trans hB3
        have z3 := hB3.size
        have E3 := E2.only hB3 (by omega)
        have F3 := F2.only hB3 (by omega) E2.lt
        have G3 := G2.only hB3 (by omega)
        have H3 := H2.only hB3 (by omega) G2.lt
        have O3 : Hid (World.ownsRow u3 (w.heap.size + 1) 5 1 (.slice a1 ys.length c1) ys.length (ys.map (.int .u8))) := own_only OO.out hB3 (by omega)
        clear S2a PH hp Y3 S3 E2 F2 G2 H2 hB3 OO
        obtain ⟨m, hm⟩ : ∃ m : Nat, y = (m : Int) := ⟨y.toNat, by omega⟩
        subst hm
        have hm13 : m ≤ 13 := by omega
        have hm0 : (0 : Int) ≤ (m : Int) := by omega
        clear hp'
        have PZ : Hid (_) := made_fill m
        have zw : Hid (∀ y ∈ fillP [] m, (Lit.int .u8 y).wf = true) := by
          intro y hy
          simp [fillP] at hy
          rw [hy.2]
          exact wf_u8 (by omega) (by omega)
        have zl : (fillP [] m).length = m := by simp [fillP]
        go_wp2_with (at_make; refine wpList_make_full _ rfl _ _ 22 rfl u3.heap.size 5 i0 (.int .u8 0) 1 Tryd.underlying22 hi hz0 hz1 _ _ _ _ m rfl rfl rfl rfl (by rw [hz2]; omega) (by unfold maxLen; omega) (Nat.le_refl _) ?_; intro u4 hown hgrow; rw [PZ.out] at hown; have B4 : Below u3.heap.size u3 u4 := (Below.refl _ _).grown hgrow (Nat.le_refl _) (by intro k hk; cases hk); have z4 := B4.size; have E4 := E3.below B4; have F4 := F3.only (p := u3.heap.size) (Only.of_below B4) (by omega) E3.lt; have G4 := G3.below B4; have H4 := H3.only (p := u3.heap.size) (Only.of_below B4) (by omega) G3.lt; have N4 := N3.trans (Only.of_below B4); obtain ⟨e0, e1, e2, e3, e4, el⟩ := E4; obtain ⟨g0, g1, g2, g3, g4, gl⟩ := G4; obtain ⟨f0, f1, f2, f3, f4⟩ := H4; obtain ⟨i0', i1', i2', i3', i4'⟩ := F4; have gz3 : ¬ u1.heap.size = w.heap.size := (by omega); have gz4 : ¬ w.heap.size = u1.heap.size := (by omega); have O4 : Hid (World.ownsRow u4 u3.heap.size 5 1 (.slice (some ⟨u3.heap.size, 0, none⟩) m m) m ((fillP [] m).map (.int .u8))) := hown; clear hgrow hown)
        refine bodyPost_ret (v := .agg #[.int .i64 es, .int .i64 ev, .int .i64 ek, .int .i64 ex, .slice (some ⟨u3.heap.size, 0, none⟩) m m]) (by simp [results, Tryd.results86, go_sem, g0, g1, g2, g3, g4, gz3, gz4]) rfl ⟨_, _, _, _, _, _, fillP [] m, by rw [zl], hxb, by omega, ?_, zw.out, ?_⟩
        · rw [zl]
          refine own_mono (base := u3.heap.size) ?_ (by omega)
          iterate 6 (refine own_set ?_ (by omega) _)
          exact O4.out
        · iterate 6 (refine Only.storeNew ?_ (by omega) _)
          exact N4
      · have q2b : (c == 2) = false := by simpa using q2
        by_cases q3 : c = 3
        · have q3b : (c == 3) = true := by simpa using q3
          clear q0 q1 q2 q3
          have S2a : Hid (SrcAt (u2.alloc (.cells #[.int .i64 (999), .int .i64 1000] 2)) B s a len cap zs (t' + 1)) := S2.alloc _
          have PH : Hid (_) := pick2 u2 (999) 1000 2
          go_wp2_with fail
          refine (pick_any _ B s a len cap zs (t' + 1) S2a.out (by omega) u2.heap.size [999, 1000] 2 rfl (by simp) (by omega) (by omega) (by omega) 2 PH.out).mono ?_
          rintro e u3 ⟨y, rfl, hp, S3, Y3⟩
          have hp' : y = 999 ∨ y = 1000 := by simpa using hp
          have hB3 : Only s u2 u3 := ((Only.refl s u2).alloc _).trans Y3
          have N3 := N2.trans hB3
          have z3 := hB3.size
          have E3 := E2.only hB3 (by omega)
          have F3 := F2.only hB3 (by omega) E2.lt
          have G3 := G2.only hB3 (by omega)
          have H3 := H2.only hB3 (by omega) G2.lt
          have O3 : Hid (World.ownsRow u3 (w.heap.size + 1) 5 1 (.slice a1 ys.length c1) ys.length (ys.map (.int .u8))) := own_only OO.out hB3 (by omega)
          clear S2a PH hp Y3 S3 E2 F2 G2 H2 hB3 OO
          obtain ⟨e0, e1, e2, e3, e4, el⟩ := E3
          obtain ⟨g0, g1, g2, g3, g4, gl⟩ := G3
          obtain ⟨f0, f1, f2, f3, f4⟩ := H3
          obtain ⟨i0', i1', i2', i3', i4'⟩ := F3
          have gz3 : ¬ u1.heap.size = w.heap.size := by omega
          have gz4 : ¬ w.heap.size = u1.heap.size := by omega
          go_wp2
          refine bodyPost_ret (v := .agg #[.int .i64 es, .int .i64 y, .int .i64 ek, .int .i64 ex, .slice a1 ys.length c1]) (by simp [results, Tryd.results86, go_sem, g0, g1, g2, g3, g4, gz3, gz4]) rfl ⟨_, _, _, _, _, _, ys, rfl, hxb, by omega, ?_, yw, ?_⟩
          · refine own_mono (base := w.heap.size + 1) ?_ (by omega)
            iterate 5 (refine own_set ?_ (by omega) _)
            exact own_setFar O3.out (fun ad had => by have := a1lt ad had; omega) _
          · iterate 6 (refine Only.storeNew ?_ (by omega) _)
            exact N3
        · have q3b : (c == 3) = false := by simpa using q3
          obtain ⟨e0, e1, e2, e3, e4, el⟩ := E2
          obtain ⟨g0, g1, g2, g3, g4, gl⟩ := G2
          obtain ⟨f0, f1, f2, f3, f4⟩ := H2
          clear F2 q0 q1 q2 q3
          go_wp2
          refine bodyPost_ret (v := .agg #[.int .i64 es, .int .i64 ev, .int .i64 ek, .int .i64 ex, .slice a1 ys.length c1]) (by simp [results, Tryd.results86, go_sem, g0, g1, g2, g3, g4]) rfl ⟨es, ev, ek, ex, a1, c1, ys, rfl, hxb, by omega, ?_, yw, ?_⟩
          · refine own_mono (base := w.heap.size + 1) ?_ (by omega)
            iterate 5 (refine own_set ?_ (by omega) _)
            exact OO.out
          · iterate 5 (refine Only.storeNew ?_ (by omega) _)
            exact N2

end Go.Proofs.YtngibnmcagogaaaDoor
