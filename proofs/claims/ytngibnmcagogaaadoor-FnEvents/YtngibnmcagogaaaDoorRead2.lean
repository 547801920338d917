/- Contracts of the model's chapter 3: an event read from bytes. -/
import Derived.Test.YtngibnmcagogaaaDoorRead
namespace Go.Proofs.YtngibnmcagogaaaDoor
open Go.ChangeShapes Go.WideShapes Go.ChangeAt Go.RowKit
set_option maxRecDepth 100000
set_option linter.unusedVariables false
set_option linter.unusedSimpArgs false

set_option maxHeartbeats 4000000 in
theorem l3Read_13 (a : Option Addr) (cap : Nat) (zs : List Int) (w : World) (hz : Has w .u8 a zs.length zs) (hl : zs.length ≤ 1048576) (hcap : zs.length ≤ cap) (hcm : cap ≤ maxLen) (h : rdLong zs) (hc13 : cap = 13) :
    Calls Tryd.prog 82 #[.slice a zs.length cap] w fun r w' => ∃ a' c', r = .returned (.tuple #[.agg #[.int .i64 (zAt zs 0), .int .i64 (rdV zs), .int .i64 (zAt zs 3), .int .i64 (rdX zs), .slice a' (rdZ zs).length c'], .int .i64 (13 + (rdM zs : Int)), .bool (decide (evF (zAt zs 0) (rdV zs) (zAt zs 3) (rdX zs) (rdM zs) = 0))]) ∧ w'.ownsRow w.heap.size 5 1 (.slice a' (rdZ zs).length c') (rdZ zs).length ((rdZ zs).map (.int .u8)) ∧ Below w.heap.size w w' := by
  unfold maxLen at hcm
  have hlen := rdZ_len h
  have b0 := zAt_bd hz.2.1 0
  have b1 := zAt_bd hz.2.1 1
  have b2 := zAt_bd hz.2.1 2
  have b3 := zAt_bd hz.2.1 3
  have hmb := zAt_bd hz.2.1 12
  have hm := rdM_eq hz.2.1
  have hXb := rdX_bd zs
  obtain ⟨h13, hn⟩ := h
  have hZ := hz
  obtain ⟨_, hwf, hc⟩ := hz
  rcases hc with h0 | ⟨b, off, rfl, hbl, hcell⟩
  · omega
  · have x0 : w.cell? ⟨b, off, none⟩ = some (.int .u8 (zAt zs 0)) := hcell 0 (by omega)
    have x1 : w.cell? ⟨b, off + 1, none⟩ = some (.int .u8 (zAt zs 1)) := hcell 1 (by omega)
    have x2 : w.cell? ⟨b, off + 2, none⟩ = some (.int .u8 (zAt zs 2)) := hcell 2 (by omega)
    have x3 : w.cell? ⟨b, off + 3, none⟩ = some (.int .u8 (zAt zs 3)) := hcell 3 (by omega)
    have x12 : w.cell? ⟨b, off + 12, none⟩ = some (.int .u8 (rdM zs)) := by rw [hm]; exact hcell 12 (by omega)
    have HG : Hid (∀ wx : World, Below w.heap.size w wx → Calls Tryd.prog 85 #[.slice (some ⟨b, off + 4, none⟩) (zs.length - 4) (cap - 4)] wx fun r w' => r = .returned (.int .i64 (rdX zs)) ∧ w' = wx) := fun wx hb => by
      have hd := Has.drop hZ 4 (zs.length - 4) (by omega)
      have e : (zs.drop 4).take (zs.length - 4) = zs.drop 4 := List.take_of_length_le (by simp)
      rw [e] at hd
      have hd' := hd.below hb (Nat.le_refl _)
      have hl' : (zs.drop 4).length = zs.length - 4 := by simp
      rcases hd'.2.2 with c | ⟨b', off', e', _, hc'⟩
      · omega
      · simp at e'
        obtain ⟨rfl, rfl⟩ := e'
        rw [hl'] at hc'
        exact l3Get_any b (off + 4) (zs.length - 4) (cap - 4) (zs.drop 4) wx (by omega) hl' hd'.2.1 hc'
    have hM : rdM zs ≤ 255 := by omega
    obtain ⟨N, hN⟩ : ∃ N, N = 13 + rdM zs := ⟨_, rfl⟩
    have HC : Hid (∀ (wx : World) (ad : Option Addr) (c : Nat), Below w.heap.size w wx → (ad = some ⟨b, off + 13, none⟩ ∨ rdM zs = 0) → Calls Tryd.prog 58 #[.slice ad (rdM zs) c] wx fun r w' => ∃ v, r = .returned v ∧ w'.ownsRow wx.heap.size 5 1 v (rdM zs) ((rdZ zs).map (.int .u8)) ∧ Below wx.heap.size wx w') := fun wx ad c hb hor => by
      have hH : Has wx .u8 ad (rdZ zs).length (rdZ zs) := by
        rcases hor with rfl | h0
        · exact (Has.drop hZ 13 (rdM zs) (by omega)).below hb (Nat.le_refl _)
        · have e : rdZ zs = [] := List.eq_nil_of_length_eq_zero (by omega)
          rw [e]
          exact Has.nil
      have := copy_any ad c (rdZ zs) wx hH (by omega)
      rw [hlen] at this
      exact this
    have HV : Hid (rdV zs = 256 * zAt zs 1 + zAt zs 2) := rfl
    generalize zAt zs 0 = y0 at b0 x0 ⊢
    generalize zAt zs 1 = y1 at b1 x1 HV
    generalize zAt zs 2 = y2 at b2 x2 HV
    generalize zAt zs 3 = y3 at b3 x3 ⊢
    obtain ⟨vv, hvv⟩ : ∃ vv, vv = rdV zs := ⟨_, rfl⟩
    rw [← hvv] at HV ⊢
    clear hvv
    generalize rdX zs = xx at HG hXb ⊢
    rw [hlen]
    generalize rdZ zs = zz at hlen HC ⊢
    generalize rdM zs = mm at *
    have HL : Hid (zz.length = mm) := hlen
    clear hlen hcell hwf hZ hm hmb
    generalize zs.length = L at *
    have l0 : (0 : Int) < (L : Int) := by omega
    have l1 : (1 : Int) < (L : Int) := by omega
    have l2 : (2 : Int) < (L : Int) := by omega
    have l3 : (3 : Int) < (L : Int) := by omega
    have l4 : (4 : Int) ≤ (L : Int) := by omega
    have l12 : (12 : Int) < (L : Int) := by omega
    have l13 : (13 : Int) ≤ (L : Int) := by omega
    have lc : (L : Int) ≤ (cap : Int) := by omega
    have lm : (13 : Int) + (mm : Int) ≤ (L : Int) := by omega
    have lmc : (13 : Int) + (mm : Int) ≤ (cap : Int) := by omega
    have e4 : ¬ cap = 4 := by omega
    have hNI : (13 : Int) + (mm : Int) = (N : Int) := by omega
    have hNm : N - 13 = mm := by omega
    have wy0 : IntKind.i64.wrap y0 = y0 := wrap_i64' (by omega) (by omega)
    have wy1 : IntKind.i64.wrap y1 = y1 := wrap_i64' (by omega) (by omega)
    have wy2 : IntKind.i64.wrap y2 = y2 := wrap_i64' (by omega) (by omega)
    have wy3 : IntKind.i64.wrap y3 = y3 := wrap_i64' (by omega) (by omega)
    have wym : IntKind.i64.wrap (256 * y1) = 256 * y1 := wrap_i64' (by omega) (by omega)
    have wyv : IntKind.i64.wrap (256 * y1 + y2) = vv := by rw [HV.out]; exact wrap_i64' (by omega) (by omega)
    have vb : 0 ≤ vv ∧ vv ≤ 65535 := by rw [HV.out]; omega
    have n13 : (13 : Int) ≤ (N : Int) := by omega
    have nL : (N : Int) ≤ (L : Int) := by omega
    have nc : (N : Int) ≤ (cap : Int) := by omega
    have L0 : 0 < L := by omega
    have L0' : ¬ L = 0 := by omega
    have HN13 : Hid (N = 13 + mm) := hN
    clear hN lm lmc
    subst hc13
    obtain rfl : L = 13 := by omega
    obtain rfl : N = 13 := by omega
    obtain rfl : mm = 0 := by omega
    clear hNm hNI
    have hNI : (13 : Int) + ((0 : Nat) : Int) = ((13 : Nat) : Int) := rfl
    have HNI : Hid ((13 : Int) + ((0 : Nat) : Int) = ((13 : Nat) : Int)) := rfl
    clear hNI
    · go_enter Tryd.func82, Tryd.ntmps82
      go_wp2_with fail
      have w1e : ∃ w1, w1 = w.alloc (.cells #[.int .i64 0, .int .i64 0, .int .i64 0, .int .i64 0, .slice none 0 0] 46) := ⟨_, rfl⟩
      obtain ⟨w1, hw1⟩ := w1e
      have B1 : Below w.heap.size w w1 := by rw [hw1]; exact (Below.refl _ _).alloc (Nat.le_refl _) _
      have z1 : w1.heap.size = w.heap.size + 1 := by rw [hw1]; simp
      have RS : Hid (∀ wx : World, Below w1.heap.size w1 wx → wx.cell? ⟨w.heap.size, 0, none⟩ = some (.int .i64 0) ∧ wx.cell? ⟨w.heap.size, 1, none⟩ = some (.int .i64 0) ∧ wx.cell? ⟨w.heap.size, 2, none⟩ = some (.int .i64 0) ∧ wx.cell? ⟨w.heap.size, 3, none⟩ = some (.int .i64 0) ∧ wx.cell? ⟨w.heap.size, 4, none⟩ = some (.slice none 0 0) ∧ wx.frozen? ⟨w.heap.size, 0, none⟩ = false ∧ wx.frozen? ⟨w.heap.size, 1, none⟩ = false ∧ wx.frozen? ⟨w.heap.size, 2, none⟩ = false ∧ wx.frozen? ⟨w.heap.size, 3, none⟩ = false ∧ wx.frozen? ⟨w.heap.size, 4, none⟩ = false) := fun wx hb => by
        refine ⟨?_, ?_, ?_, ?_, ?_, ?_, ?_, ?_, ?_, ?_⟩
        all_goals (first | (refine (hb.cell (by show w.heap.size < _; omega)).trans ?_; rw [hw1]; simp [go_sem]; done) | (refine (hb.frozen (by show w.heap.size < _; omega)).trans ?_; rw [hw1]; simp [go_sem]))
      have KS : Hid (∀ wx : World, Below w1.heap.size w1 wx → wx.cell? ⟨b, off, none⟩ = some (.int .u8 y0) ∧ wx.cell? ⟨b, off + 1, none⟩ = some (.int .u8 y1) ∧ wx.cell? ⟨b, off + 2, none⟩ = some (.int .u8 y2) ∧ wx.cell? ⟨b, off + 3, none⟩ = some (.int .u8 y3) ∧ Below w1.heap.size w1 wx) := fun wx hb => by
        have hb' := B1.trans (hb.mono (by omega))
        exact ⟨(hb'.cell (p := ⟨b, off, none⟩) hbl).trans x0, (hb'.cell (p := ⟨b, off + 1, none⟩) hbl).trans x1, (hb'.cell (p := ⟨b, off + 2, none⟩) hbl).trans x2, (hb'.cell (p := ⟨b, off + 3, none⟩) hbl).trans x3, hb⟩
      rw [← hw1]
      clear hw1
      have D0 : Below w1.heap.size w1 w1.drew := (Below.refl _ _).drew
      have F0 : Below w.heap.size w w1.drew := B1.drew
      obtain ⟨k0, k1, k2, k3, _⟩ := KS.out _ (Below.refl _ _)
      go_region_held3 (fun wx => wx.cell? ⟨b, off, none⟩ = some (.int .u8 y0) ∧ wx.cell? ⟨b, off + 1, none⟩ = some (.int .u8 y1) ∧ wx.cell? ⟨b, off + 2, none⟩ = some (.int .u8 y2) ∧ wx.cell? ⟨b, off + 3, none⟩ = some (.int .u8 y3) ∧ Below w1.heap.size w1 wx)
        ((refine KS.out _ ?_; (repeat (first | assumption | (refine Below.alloc ?_ (by (try simp) <;> omega) _) | (refine Below.setCell ?_ (by (try simp) <;> omega) _) | (refine Below.drew ?_) | exact Below.refl _ _))))
        (first | ((go_at_call 85; refine (HG.out _ (by first | exact F0 | exact F0.alloc F0.size _)).mono ?_; rintro r u ⟨rfl, rfl⟩)) | ((go_at_call 58; refine (HC.out _ _ _ (by first | exact F0 | exact F0.alloc F0.size _) (by first | exact .inr rfl | exact .inr trivial)).mono ?_; rintro r u2 ⟨v2, rfl, O2, hb2⟩; have D2 : Below w1.heap.size w1 u2 := (by first | exact D0.trans (hb2.mono D0.size) | exact (D0.alloc D0.size _).trans (hb2.mono (D0.alloc D0.size _).size)); have z2 := D2.size; have z2' := hb2.size; obtain ⟨hc2, hf2⟩ := bcell hb2; obtain ⟨a2, c2, rfl⟩ := own_row_shape O2)))
      · go_wp2_with fail
        have B3 : Below w1.heap.size w1 (u2.alloc (.cells #[.int .i64 y0, .int .i64 vv, .int .i64 y3, .int .i64 xx, .slice a2 0 c2] 46)) := D2.alloc z2 _
        have e3 : EvAt (u2.alloc (.cells #[.int .i64 y0, .int .i64 vv, .int .i64 y3, .int .i64 xx, .slice a2 0 c2] 46)) u2.heap.size y0 vv y3 xx a2 0 c2 := EvAt.new _ _ _ _ _ _ _ _ _
        have O3 : Hid (World.ownsRow (u2.alloc (.cells #[.int .i64 y0, .int .i64 vv, .int .i64 y3, .int .i64 xx, .slice a2 0 c2] 46)) (w.heap.size + 1) 5 1 (.slice a2 0 c2) 0 (zz.map (.int .u8))) := (own_mono O2 (show w.heap.size + 1 ≤ w1.heap.size by omega)).alloc _
        have e3lo : w1.heap.size ≤ u2.heap.size := z2
        generalize u2.heap.size = e6 at e3 e3lo ⊢
        generalize u2.alloc (.cells #[.int .i64 y0, .int .i64 vv, .int .i64 y3, .int .i64 xx, .slice a2 0 c2] 46) = u3 at B3 e3 O3 ⊢
        have z3 := B3.size
        have hne6 : e6 ≠ w.heap.size := by omega
        have RS3 : Hid (_) := RS.out
        have W3 : Below w.heap.size w u3 := B1.trans (B3.mono (by omega))
        have ES : Hid (∀ wx : World, EvAt wx e6 y0 vv y3 xx a2 0 c2 → Below w.heap.size w wx → wx.cell? ⟨e6, 0, none⟩ = some (.int .i64 y0) ∧ wx.cell? ⟨e6, 1, none⟩ = some (.int .i64 vv) ∧ wx.cell? ⟨e6, 2, none⟩ = some (.int .i64 y3) ∧ wx.cell? ⟨e6, 3, none⟩ = some (.int .i64 xx) ∧ wx.cell? ⟨e6, 4, none⟩ = some (.slice a2 0 c2) ∧ Below w.heap.size w wx) := fun wx e hb => ⟨e.c0, e.c1, e.c2, e.c3, e.c4, hb⟩
        have EA : Hid (EvAt u3.drew e6 y0 vv y3 xx a2 0 c2) := e3.below ((Below.refl _ _).drew)
        have D5 : Below u3.heap.size u3 u3.drew := (Below.refl _ _).drew
        have W5 : Below w.heap.size w u3.drew := W3.drew
        obtain ⟨i0, i1, i2, i3, i4, _⟩ := ES.out _ e3 W3
        clear hc2 hf2 hb2 D2 O2 x0 x1 x2 x3 x12 k0 k1 k2 k3 HG HC KS
        go_region_held3 (fun wx => wx.cell? ⟨e6, 0, none⟩ = some (.int .i64 y0) ∧ wx.cell? ⟨e6, 1, none⟩ = some (.int .i64 vv) ∧ wx.cell? ⟨e6, 2, none⟩ = some (.int .i64 y3) ∧ wx.cell? ⟨e6, 3, none⟩ = some (.int .i64 xx) ∧ wx.cell? ⟨e6, 4, none⟩ = some (.slice a2 0 c2) ∧ Below w.heap.size w wx)
          ((first | exact ES.out _ EA.out W5 | exact ES.out _ E6 W6 | exact ES.out _ (EvAt.set (EvAt.set (EvAt.set (EvAt.set (EvAt.set E6 hne6 _) hne6 _) hne6 _) hne6 _) hne6 _) (Below.setCell (Below.setCell (Below.setCell (Below.setCell (Below.setCell W6 (Nat.le_refl _) _) (Nat.le_refl _) _) (Nat.le_refl _) _) (Nat.le_refl _) _) (Nat.le_refl _) _)))
          (first | ((go_at_call 87; refine (l3Fault_any e6 y0 vv y3 xx a2 0 c2 _ EA.out hXb.1 hXb.2 (by omega)).mono ?_; rintro r u4 ⟨rfl, hb4⟩; have D6 := D5.trans (hb4.mono D5.size); have z4 := D6.size; have W6 := W3.trans (D6.mono W3.size); have E6 := e3.below D6; have OO4 : Hid (World.ownsRow u4 (w.heap.size + 1) 5 1 (.slice a2 0 c2) 0 (zz.map (.int .u8))) := own_below O3.out D6; obtain ⟨r0, r1, r2, r3, r4, f0, f1, f2, f3, f4⟩ := RS.out _ (B3.trans (D6.mono z3)))))
        go_wp2
        refine bodyPost_ret (v := .tuple #[.agg #[.int .i64 y0, .int .i64 vv, .int .i64 y3, .int .i64 xx, .slice a2 0 c2], .int .i64 13, .bool (evF y0 vv y3 xx 0 == 0)]) (by simp [results, Tryd.results82, go_sem, r0, r1, r2, r3, r4]) rfl ⟨a2, c2, by rfl, ?_, ?_⟩
        · refine own_mono (base := w.heap.size + 1) ?_ (by omega)
          iterate 5 (refine own_set ?_ (by omega) _)
          exact OO4.out
        · iterate 5 (refine Below.setCell ?_ (by (try simp) <;> omega) _)
          exact W6
      · go_wp2_with fail
        have o2 : Hid (World.ownsRow u2 (w.heap.size + 1 + 1) 5 1 (.slice a2 0 c2) 0 (zz.map (.int .u8))) := by have := O2; simp [z1] at this; exact this
        have hq : w.heap.size + 1 < u2.heap.size := by simp at z2'; omega
        have k0' : u2.cell? ⟨w.heap.size + 1, 0, none⟩ = some (.int .i64 0) := by simp [hc2, z1, go_sem]
        have k1' : u2.cell? ⟨w.heap.size + 1, 1, none⟩ = some (.int .i64 0) := by simp [hc2, z1, go_sem]
        have k2' : u2.cell? ⟨w.heap.size + 1, 2, none⟩ = some (.int .i64 0) := by simp [hc2, z1, go_sem]
        have k3' : u2.cell? ⟨w.heap.size + 1, 3, none⟩ = some (.int .i64 0) := by simp [hc2, z1, go_sem]
        have k4' : u2.cell? ⟨w.heap.size + 1, 4, none⟩ = some (.slice none 0 0) := by simp [hc2, z1, go_sem]
        have B3 : Below w1.heap.size w1 (((((u2.setCell ⟨w.heap.size + 1, 0, none⟩ (.int .i64 y0)).setCell ⟨w.heap.size + 1, 1, none⟩ (.int .i64 vv)).setCell ⟨w.heap.size + 1, 2, none⟩ (.int .i64 y3)).setCell ⟨w.heap.size + 1, 3, none⟩ (.int .i64 xx)).setCell ⟨w.heap.size + 1, 4, none⟩ (.slice a2 0 c2)) := (((((D2.setCell (by show w1.heap.size ≤ w.heap.size + 1; omega) _).setCell (by show w1.heap.size ≤ w.heap.size + 1; omega) _).setCell (by show w1.heap.size ≤ w.heap.size + 1; omega) _).setCell (by show w1.heap.size ≤ w.heap.size + 1; omega) _).setCell (by show w1.heap.size ≤ w.heap.size + 1; omega) _)
        have e3 : EvAt (((((u2.setCell ⟨w.heap.size + 1, 0, none⟩ (.int .i64 y0)).setCell ⟨w.heap.size + 1, 1, none⟩ (.int .i64 vv)).setCell ⟨w.heap.size + 1, 2, none⟩ (.int .i64 y3)).setCell ⟨w.heap.size + 1, 3, none⟩ (.int .i64 xx)).setCell ⟨w.heap.size + 1, 4, none⟩ (.slice a2 0 c2)) (w.heap.size + 1) y0 vv y3 xx a2 0 c2 := by constructor <;> simp [go_sem, k0', k1', k2', k3', k4', hq]
        have O3 : Hid (World.ownsRow (((((u2.setCell ⟨w.heap.size + 1, 0, none⟩ (.int .i64 y0)).setCell ⟨w.heap.size + 1, 1, none⟩ (.int .i64 vv)).setCell ⟨w.heap.size + 1, 2, none⟩ (.int .i64 y3)).setCell ⟨w.heap.size + 1, 3, none⟩ (.int .i64 xx)).setCell ⟨w.heap.size + 1, 4, none⟩ (.slice a2 0 c2)) (w.heap.size + 1) 5 1 (.slice a2 0 c2) 0 (zz.map (.int .u8))) := by
          show World.ownsRow _ _ _ _ _ _ _
          refine own_mono (base := w.heap.size + 1 + 1) ?_ (by omega)
          iterate 5 (refine own_set ?_ (by omega) _)
          exact o2.out
        have e3lo : w1.heap.size ≤ w.heap.size + 1 := by omega
        generalize ((((u2.setCell ⟨w.heap.size + 1, 0, none⟩ (.int .i64 y0)).setCell ⟨w.heap.size + 1, 1, none⟩ (.int .i64 vv)).setCell ⟨w.heap.size + 1, 2, none⟩ (.int .i64 y3)).setCell ⟨w.heap.size + 1, 3, none⟩ (.int .i64 xx)).setCell ⟨w.heap.size + 1, 4, none⟩ (.slice a2 0 c2) = u3 at B3 e3 O3 ⊢
        generalize w.heap.size + 1 = e6 at e3 e3lo ⊢
        have z3 := B3.size
        have hne6 : e6 ≠ w.heap.size := by omega
        have RS3 : Hid (_) := RS.out
        have W3 : Below w.heap.size w u3 := B1.trans (B3.mono (by omega))
        have ES : Hid (∀ wx : World, EvAt wx e6 y0 vv y3 xx a2 0 c2 → Below w.heap.size w wx → wx.cell? ⟨e6, 0, none⟩ = some (.int .i64 y0) ∧ wx.cell? ⟨e6, 1, none⟩ = some (.int .i64 vv) ∧ wx.cell? ⟨e6, 2, none⟩ = some (.int .i64 y3) ∧ wx.cell? ⟨e6, 3, none⟩ = some (.int .i64 xx) ∧ wx.cell? ⟨e6, 4, none⟩ = some (.slice a2 0 c2) ∧ Below w.heap.size w wx) := fun wx e hb => ⟨e.c0, e.c1, e.c2, e.c3, e.c4, hb⟩
        have EA : Hid (EvAt u3.drew e6 y0 vv y3 xx a2 0 c2) := e3.below ((Below.refl _ _).drew)
        have D5 : Below u3.heap.size u3 u3.drew := (Below.refl _ _).drew
        have W5 : Below w.heap.size w u3.drew := W3.drew
        obtain ⟨i0, i1, i2, i3, i4, _⟩ := ES.out _ e3 W3
        clear hc2 hf2 hb2 D2 O2 x0 x1 x2 x3 x12 k0 k1 k2 k3 HG HC KS
        go_region_held3 (fun wx => wx.cell? ⟨e6, 0, none⟩ = some (.int .i64 y0) ∧ wx.cell? ⟨e6, 1, none⟩ = some (.int .i64 vv) ∧ wx.cell? ⟨e6, 2, none⟩ = some (.int .i64 y3) ∧ wx.cell? ⟨e6, 3, none⟩ = some (.int .i64 xx) ∧ wx.cell? ⟨e6, 4, none⟩ = some (.slice a2 0 c2) ∧ Below w.heap.size w wx)
          ((first | exact ES.out _ EA.out W5 | exact ES.out _ E6 W6 | exact ES.out _ (EvAt.set (EvAt.set (EvAt.set (EvAt.set (EvAt.set E6 hne6 _) hne6 _) hne6 _) hne6 _) hne6 _) (Below.setCell (Below.setCell (Below.setCell (Below.setCell (Below.setCell W6 (Nat.le_refl _) _) (Nat.le_refl _) _) (Nat.le_refl _) _) (Nat.le_refl _) _) (Nat.le_refl _) _)))
          (first | ((go_at_call 87; refine (l3Fault_any e6 y0 vv y3 xx a2 0 c2 _ EA.out hXb.1 hXb.2 (by omega)).mono ?_; rintro r u4 ⟨rfl, hb4⟩; have D6 := D5.trans (hb4.mono D5.size); have z4 := D6.size; have W6 := W3.trans (D6.mono W3.size); have E6 := e3.below D6; have OO4 : Hid (World.ownsRow u4 (w.heap.size + 1) 5 1 (.slice a2 0 c2) 0 (zz.map (.int .u8))) := own_below O3.out D6; obtain ⟨r0, r1, r2, r3, r4, f0, f1, f2, f3, f4⟩ := RS.out _ (B3.trans (D6.mono z3)))))
        go_wp2
        refine bodyPost_ret (v := .tuple #[.agg #[.int .i64 y0, .int .i64 vv, .int .i64 y3, .int .i64 xx, .slice a2 0 c2], .int .i64 13, .bool (evF y0 vv y3 xx 0 == 0)]) (by simp [results, Tryd.results82, go_sem, r0, r1, r2, r3, r4]) rfl ⟨a2, c2, by rfl, ?_, ?_⟩
        · refine own_mono (base := w.heap.size + 1) ?_ (by omega)
          iterate 5 (refine own_set ?_ (by omega) _)
          exact OO4.out
        · iterate 5 (refine Below.setCell ?_ (by (try simp) <;> omega) _)
          exact W6
      · go_wp2_with fail
        have o2 : Hid (World.ownsRow u2 (w.heap.size + 1 + 1) 5 1 (.slice a2 0 c2) 0 (zz.map (.int .u8))) := by have := O2; simp [z1] at this; exact this
        have hq : w.heap.size + 1 < u2.heap.size := by simp at z2'; omega
        have k0' : u2.cell? ⟨w.heap.size + 1, 0, none⟩ = some (.int .i64 0) := by simp [hc2, z1, go_sem]
        have k1' : u2.cell? ⟨w.heap.size + 1, 1, none⟩ = some (.int .i64 0) := by simp [hc2, z1, go_sem]
        have k2' : u2.cell? ⟨w.heap.size + 1, 2, none⟩ = some (.int .i64 0) := by simp [hc2, z1, go_sem]
        have k3' : u2.cell? ⟨w.heap.size + 1, 3, none⟩ = some (.int .i64 0) := by simp [hc2, z1, go_sem]
        have k4' : u2.cell? ⟨w.heap.size + 1, 4, none⟩ = some (.slice none 0 0) := by simp [hc2, z1, go_sem]
        have B3 : Below w1.heap.size w1 (((((u2.setCell ⟨w.heap.size + 1, 0, none⟩ (.int .i64 y0)).setCell ⟨w.heap.size + 1, 1, none⟩ (.int .i64 vv)).setCell ⟨w.heap.size + 1, 2, none⟩ (.int .i64 y3)).setCell ⟨w.heap.size + 1, 3, none⟩ (.int .i64 xx)).setCell ⟨w.heap.size + 1, 4, none⟩ (.slice a2 0 c2)) := (((((D2.setCell (by show w1.heap.size ≤ w.heap.size + 1; omega) _).setCell (by show w1.heap.size ≤ w.heap.size + 1; omega) _).setCell (by show w1.heap.size ≤ w.heap.size + 1; omega) _).setCell (by show w1.heap.size ≤ w.heap.size + 1; omega) _).setCell (by show w1.heap.size ≤ w.heap.size + 1; omega) _)
        have e3 : EvAt (((((u2.setCell ⟨w.heap.size + 1, 0, none⟩ (.int .i64 y0)).setCell ⟨w.heap.size + 1, 1, none⟩ (.int .i64 vv)).setCell ⟨w.heap.size + 1, 2, none⟩ (.int .i64 y3)).setCell ⟨w.heap.size + 1, 3, none⟩ (.int .i64 xx)).setCell ⟨w.heap.size + 1, 4, none⟩ (.slice a2 0 c2)) (w.heap.size + 1) y0 vv y3 xx a2 0 c2 := by constructor <;> simp [go_sem, k0', k1', k2', k3', k4', hq]
        have O3 : Hid (World.ownsRow (((((u2.setCell ⟨w.heap.size + 1, 0, none⟩ (.int .i64 y0)).setCell ⟨w.heap.size + 1, 1, none⟩ (.int .i64 vv)).setCell ⟨w.heap.size + 1, 2, none⟩ (.int .i64 y3)).setCell ⟨w.heap.size + 1, 3, none⟩ (.int .i64 xx)).setCell ⟨w.heap.size + 1, 4, none⟩ (.slice a2 0 c2)) (w.heap.size + 1) 5 1 (.slice a2 0 c2) 0 (zz.map (.int .u8))) := by
          show World.ownsRow _ _ _ _ _ _ _
          refine own_mono (base := w.heap.size + 1 + 1) ?_ (by omega)
          iterate 5 (refine own_set ?_ (by omega) _)
          exact o2.out
        have e3lo : w1.heap.size ≤ w.heap.size + 1 := by omega
        generalize ((((u2.setCell ⟨w.heap.size + 1, 0, none⟩ (.int .i64 y0)).setCell ⟨w.heap.size + 1, 1, none⟩ (.int .i64 vv)).setCell ⟨w.heap.size + 1, 2, none⟩ (.int .i64 y3)).setCell ⟨w.heap.size + 1, 3, none⟩ (.int .i64 xx)).setCell ⟨w.heap.size + 1, 4, none⟩ (.slice a2 0 c2) = u3 at B3 e3 O3 ⊢
        generalize w.heap.size + 1 = e6 at e3 e3lo ⊢
        have z3 := B3.size
        have hne6 : e6 ≠ w.heap.size := by omega
        have RS3 : Hid (_) := RS.out
        have W3 : Below w.heap.size w u3 := B1.trans (B3.mono (by omega))
        have ES : Hid (∀ wx : World, EvAt wx e6 y0 vv y3 xx a2 0 c2 → Below w.heap.size w wx → wx.cell? ⟨e6, 0, none⟩ = some (.int .i64 y0) ∧ wx.cell? ⟨e6, 1, none⟩ = some (.int .i64 vv) ∧ wx.cell? ⟨e6, 2, none⟩ = some (.int .i64 y3) ∧ wx.cell? ⟨e6, 3, none⟩ = some (.int .i64 xx) ∧ wx.cell? ⟨e6, 4, none⟩ = some (.slice a2 0 c2) ∧ Below w.heap.size w wx) := fun wx e hb => ⟨e.c0, e.c1, e.c2, e.c3, e.c4, hb⟩
        have EA : Hid (EvAt u3.drew e6 y0 vv y3 xx a2 0 c2) := e3.below ((Below.refl _ _).drew)
        have D5 : Below u3.heap.size u3 u3.drew := (Below.refl _ _).drew
        have W5 : Below w.heap.size w u3.drew := W3.drew
        obtain ⟨i0, i1, i2, i3, i4, _⟩ := ES.out _ e3 W3
        clear hc2 hf2 hb2 D2 O2 x0 x1 x2 x3 x12 k0 k1 k2 k3 HG HC KS
        go_region_held3 (fun wx => wx.cell? ⟨e6, 0, none⟩ = some (.int .i64 y0) ∧ wx.cell? ⟨e6, 1, none⟩ = some (.int .i64 vv) ∧ wx.cell? ⟨e6, 2, none⟩ = some (.int .i64 y3) ∧ wx.cell? ⟨e6, 3, none⟩ = some (.int .i64 xx) ∧ wx.cell? ⟨e6, 4, none⟩ = some (.slice a2 0 c2) ∧ Below w.heap.size w wx)
          ((first | exact ES.out _ EA.out W5 | exact ES.out _ E6 W6 | exact ES.out _ (EvAt.set (EvAt.set (EvAt.set (EvAt.set (EvAt.set E6 hne6 _) hne6 _) hne6 _) hne6 _) hne6 _) (Below.setCell (Below.setCell (Below.setCell (Below.setCell (Below.setCell W6 (Nat.le_refl _) _) (Nat.le_refl _) _) (Nat.le_refl _) _) (Nat.le_refl _) _) (Nat.le_refl _) _)))
          (first | ((go_at_call 87; refine (l3Fault_any e6 y0 vv y3 xx a2 0 c2 _ EA.out hXb.1 hXb.2 (by omega)).mono ?_; rintro r u4 ⟨rfl, hb4⟩; have D6 := D5.trans (hb4.mono D5.size); have z4 := D6.size; have W6 := W3.trans (D6.mono W3.size); have E6 := e3.below D6; have OO4 : Hid (World.ownsRow u4 (w.heap.size + 1) 5 1 (.slice a2 0 c2) 0 (zz.map (.int .u8))) := own_below O3.out D6; obtain ⟨r0, r1, r2, r3, r4, f0, f1, f2, f3, f4⟩ := RS.out _ (B3.trans (D6.mono z3)))))
        go_wp2
        refine bodyPost_ret (v := .tuple #[.agg #[.int .i64 y0, .int .i64 vv, .int .i64 y3, .int .i64 xx, .slice a2 0 c2], .int .i64 13, .bool (evF y0 vv y3 xx 0 == 0)]) (by simp [results, Tryd.results82, go_sem, r0, r1, r2, r3, r4]) rfl ⟨a2, c2, by rfl, ?_, ?_⟩
        · refine own_mono (base := w.heap.size + 1) ?_ (by omega)
          iterate 5 (refine own_set ?_ (by omega) _)
          exact OO4.out
        · iterate 5 (refine Below.setCell ?_ (by (try simp) <;> omega) _)
          exact W6

end Go.Proofs.YtngibnmcagogaaaDoor
