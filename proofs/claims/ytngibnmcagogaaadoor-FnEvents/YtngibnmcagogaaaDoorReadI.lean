/- Contracts of the program's chapter 3: ReadEvent. -/
import Derived.Test.YtngibnmcagogaaaDoorReadD
namespace Go.Proofs.YtngibnmcagogaaaDoor
open Go.ChangeShapes Go.WideShapes Go.ChangeAt Go.RowKit
set_option maxRecDepth 100000
set_option linter.unusedVariables false
set_option linter.unusedSimpArgs false

/-- An EventResult that was not written yet, at block b. -/
def Er0 (w : World) (b : Nat) : Prop := w.cell? ⟨b, 0, none⟩ = some (.int .i64 0) ∧ w.cell? ⟨b, 1, none⟩ = some (.int .i64 0) ∧ w.cell? ⟨b, 2, none⟩ = some (.int .i64 0) ∧ w.cell? ⟨b, 3, none⟩ = some (.int .i64 0) ∧ w.cell? ⟨b, 4, none⟩ = some (.int .i64 0) ∧ w.cell? ⟨b, 5, none⟩ = some (.slice none 0 0) ∧ w.cell? ⟨b, 6, none⟩ = some (.int .i64 0) ∧ w.frozen? ⟨b, 0, none⟩ = false ∧ w.frozen? ⟨b, 1, none⟩ = false ∧ w.frozen? ⟨b, 2, none⟩ = false ∧ w.frozen? ⟨b, 3, none⟩ = false ∧ w.frozen? ⟨b, 4, none⟩ = false ∧ w.frozen? ⟨b, 5, none⟩ = false ∧ w.frozen? ⟨b, 6, none⟩ = false
theorem Er0.only {w w' : World} {b p : Nat} (h : Er0 w b) (hy : Only p w w') (hb : b ≠ p) (hlt : b < w.heap.size) : Er0 w' b := by
  obtain ⟨h0, h1, h2, h3, h4, h5, h6, f0, f1, f2, f3, f4, f5, f6⟩ := h
  exact ⟨(hy.cell hlt hb).trans h0, (hy.cell hlt hb).trans h1, (hy.cell hlt hb).trans h2, (hy.cell hlt hb).trans h3, (hy.cell hlt hb).trans h4, (hy.cell hlt hb).trans h5, (hy.cell hlt hb).trans h6, (hy.frozen hlt hb).trans f0, (hy.frozen hlt hb).trans f1, (hy.frozen hlt hb).trans f2, (hy.frozen hlt hb).trans f3, (hy.frozen hlt hb).trans f4, (hy.frozen hlt hb).trans f5, (hy.frozen hlt hb).trans f6⟩
theorem Er0.new (w : World) : Er0 (w.alloc (.cells #[.int .i64 0, .int .i64 0, .int .i64 0, .int .i64 0, .int .i64 0, .slice none 0 0, .int .i64 0] 48)) w.heap.size := by
  refine ⟨?_, ?_, ?_, ?_, ?_, ?_, ?_, ?_, ?_, ?_, ?_, ?_, ?_, ?_⟩ <;> simp [go_sem]
theorem Er0.below {w w' : World} {b : Nat} (h : Er0 w b) (hb : Below w.heap.size w w') (hlt : b < w.heap.size) : Er0 w' b := h.only (p := b + 1) (Only.of_below hb) (by omega) hlt
theorem rd_new (w : World) (b off cap : Nat) (zs : List Int) (hcap : zs.length ≤ cap) (hcm : cap ≤ maxLen) (hz : Has w .u8 (some ⟨b, off, none⟩) zs.length zs) : RdAt ((w.alloc (.cells #[.int .i64 0, .int .i64 0, .int .i64 0, .int .i64 0, .int .i64 0, .slice none 0 0, .int .i64 0] 48)).alloc (.cells #[.slice (some ⟨b, off, none⟩) zs.length cap, .int .i64 0, .bool false] 82)) w.heap.size (w.heap.size + 1) zs 0 false := by
  refine ⟨⟨b, off, cap, by simp [go_sem], hcap, hcm, ?_⟩, by simp [go_sem], by simp [go_sem], by simp [go_sem], by simp [go_sem], by simp [go_sem], by omega, by simp⟩
  exact (HasIn.of hz).below (((Below.refl _ _).alloc (Nat.le_refl _) _).alloc (by simp) _)

set_option maxHeartbeats 1000000 in
theorem implReadEvent_any (b off cap : Nat) (zs : List Int) (w : World) (hz : Has w .u8 (some ⟨b, off, none⟩) zs.length zs) (hl : zs.length ≤ 1048576) (hcap : zs.length ≤ cap) (hcm : cap ≤ maxLen) :
    Calls Tryd.prog 38 #[.slice (some ⟨b, off, none⟩) zs.length cap] w fun r w' => ∃ a' c', r = .returned (.agg #[.int .i64 (rdC zs), .int .i64 (rS zs), .int .i64 (rV zs), .int .i64 (rK zs), .int .i64 (rX zs), .slice a' (rZ zs).length c', .int .i64 (rU zs)]) ∧ w'.ownsRow w.heap.size 5 1 (.slice a' (rZ zs).length c') (rZ zs).length ((rZ zs).map (.int .u8)) ∧ Below w.heap.size w w' := by
  have hwf := hz.2.1
  have R0 := rd_new w b off cap zs hcap hcm hz
  obtain ⟨hmm, hm'⟩ := wayM_eq hwf
  have TE : Hid (∀ x : World, RdAt x w.heap.size (w.heap.size + 1) zs 0 false → Calls Tryd.prog 80 #[.pointer (some ⟨w.heap.size + 1, 0, none⟩)] x fun r w' => ∃ a' c', r = .returned (.agg #[.int .i64 ((wayD0 zs).num 1), .int .i64 ((wayD1 zs).num 2), .int .i64 ((wayD2 zs).num 1), .int .i64 ((wayD3 zs).num 8), .slice a' ((wayD5 zs).note (wayM zs)).length c']) ∧ w'.ownsRow x.heap.size 5 1 (.slice a' ((wayD5 zs).note (wayM zs)).length c') ((wayD5 zs).note (wayM zs)).length (((wayD5 zs).note (wayM zs)).map (.int .u8)) ∧ RdAt w' w.heap.size (w.heap.size + 1) (wayD6 zs).rs (wayD6 zs).u (wayD6 zs).k ∧ Only (w.heap.size + 1) x w') := fun x hx => takeEvent_any w.heap.size (w.heap.size + 1) (wayD0 zs) (wayD1 zs) (wayD2 zs) (wayD3 zs) (wayD4 zs) (wayD5 zs) (wayD6 zs) (wayM zs) rfl rfl rfl rfl rfl hmm hm' rfl x hx hl rfl
  have Q0 : Hid (Er0 ((w.alloc (.cells #[.int .i64 0, .int .i64 0, .int .i64 0, .int .i64 0, .int .i64 0, .slice none 0 0, .int .i64 0] 48)).alloc (.cells #[.slice (some ⟨b, off, none⟩) zs.length cap, .int .i64 0, .bool false] 82)) w.heap.size) := (Er0.new w).below ((Below.refl _ _).alloc (Nat.le_refl _) _) (by simp)
  have N0 : Below w.heap.size w ((w.alloc (.cells #[.int .i64 0, .int .i64 0, .int .i64 0, .int .i64 0, .int .i64 0, .slice none 0 0, .int .i64 0] 48)).alloc (.cells #[.slice (some ⟨b, off, none⟩) zs.length cap, .int .i64 0, .bool false] 82)) := ((Below.refl _ _).alloc (Nat.le_refl _) _).alloc (by simp) _
  have hnl : ((wayD5 zs).note (wayM zs)).length ≤ 255 := by unfold Rd.note; split <;> simp; omega
  have bx : -9223372036854775808 ≤ (wayD3 zs).num 8 ∧ (wayD3 zs).num 8 ≤ 9223372036854775807 := by
    unfold Rd.num
    split
    · omega
    · unfold wrap64; omega
  by_cases hlong : rdLong zs
  · obtain ⟨w0, w1, w2, w3, w4, w5, w6, w7⟩ := way_long hwf hlong
    rw [w0, w1, w2, w3, w5, w6, w7] at TE
    rw [w3] at bx
    have hZl := rdZ_len hlong
    rw [w5, hZl] at hnl
    have ZW : Hid ((rdZ zs).length = rdM zs) := hZl
    clear w0 w1 w2 w3 w4 w5 w6 w7 hZl hmm hm'
    by_cases hf : evF (zAt zs 0) (rdV zs) (zAt zs 3) (rdX zs) (rdM zs) = 0
    · obtain ⟨e0, e1, e2, e3, e4, e5, e6⟩ := r_ok ⟨hlong, hf⟩
      rw [e0, e1, e2, e3, e4, e5, e6]
      have HF : Hid (evF (zAt zs 0) (rdV zs) (zAt zs 3) (rdX zs) (rdZ zs).length = 0) := by show evF _ _ _ _ _ = 0; rw [ZW.out]; exact hf
      clear e0 e1 e2 e3 e4 e5 e6 hf hlong
      have hl2 : (rdZ zs).length ≤ 255 := by rw [ZW.out]; exact hnl
      clear hnl
      generalize zAt zs 0 = y0 at *
      generalize rdV zs = y1 at *
      generalize zAt zs 3 = y2 at *
      generalize rdX zs = y3 at *
      generalize rdZ zs = zz at *
      generalize (13 : Int) + (rdM zs : Int) = nn at *
      generalize (wayD6 zs).rs = rr at *
      go_enter Tryd.func38, Tryd.ntmps38
      go_wp2_with fail
      refine (TE.out _ R0).mono ?_
      rintro r u1 ⟨a1, c1, rfl, O1, R1, Y1⟩
      have z1 := Y1.size
      simp at z1
      have Q1 := Q0.out.only Y1 (by omega) (by simp; omega)
      have N1 := N0.trans (Y1.below (B := w.heap.size) (by omega) (by simp; omega))
      have i1 := R1.c1
      have i2 := R1.c2
      have iq : w.heap.size + 1 < u1.heap.size := by omega
      have O1' : Hid (World.ownsRow u1 (w.heap.size + 1) 5 1 (.slice a1 zz.length c1) zz.length (zz.map (.int .u8))) := own_mono O1 (by simp)
      have Q1' : Hid (Er0 u1 w.heap.size) := Q1
      clear Q0 N0 R0 O1 Y1 Q1
      go_wp2_with fail
      refine (implEventFault_any y0 y1 y2 y3 a1 zz.length c1 _ bx.1 bx.2 (by omega)).mono ?_
      rintro r u2 ⟨rfl, hb2⟩
      rw [HF.out]
      have z2 := hb2.size
      simp at z2
      have hB : Below u1.heap.size u1 u2 := ((Below.refl _ _).alloc (Nat.le_refl _) _).trans (hb2.mono (by simp))
      have Q2 := Q1'.out.below hB (by omega)
      have N2 := N1.trans (hB.mono (by omega))
      have E2 := (EvAt.new u1 y0 y1 y2 y3 a1 zz.length c1 46).below hb2
      have j1 := (hB.cell (p := ⟨w.heap.size + 1, 1, none⟩) iq).trans i1
      have O2 : Hid (World.ownsRow u2 (w.heap.size + 1) 5 1 (.slice a1 zz.length c1) zz.length (zz.map (.int .u8))) := own_below O1'.out hB
      obtain ⟨g0, g1, g2, g3, g4, g5, g6, f0, f1, f2, f3, f4, f5, f6⟩ := Q2
      obtain ⟨k0, k1, k2, k3, k4, kl⟩ := E2
      clear hb2 hB i1 i2 R1 Q1' O1'
      go_wp2
      refine bodyPost_ret (v := .agg #[.int .i64 0, .int .i64 y0, .int .i64 y1, .int .i64 y2, .int .i64 y3, .slice a1 zz.length c1, .int .i64 nn]) (by simp [results, Tryd.results38, go_sem, g0, g1, g2, g3, g4, g5, g6]) rfl ⟨a1, c1, rfl, ?_, ?_⟩
      · refine own_mono (base := w.heap.size + 1) ?_ (by omega)
        iterate 7 (refine own_set ?_ (by omega) _)
        exact O2.out
      · iterate 7 (refine Below.setCell ?_ (by (try simp) <;> omega) _)
        exact N2
    · obtain ⟨e0, e1, e2, e3, e4, e5, e6⟩ := r_bad (fun q : rdOk zs => hf q.2)
      rw [e0, e1, e2, e3, e4, e5, e6]
      have HF : (evF (zAt zs 0) (rdV zs) (zAt zs 3) (rdX zs) (rdZ zs).length != 0) = true := by rw [ZW.out]; simpa using hf
      clear e0 e1 e2 e3 e4 e5 e6 hf hlong
      have hl2 : (rdZ zs).length ≤ 255 := by rw [ZW.out]; exact hnl
      clear hnl
      generalize zAt zs 0 = y0 at *
      generalize rdV zs = y1 at *
      generalize zAt zs 3 = y2 at *
      generalize rdX zs = y3 at *
      generalize rdZ zs = zz at *
      generalize (13 : Int) + (rdM zs : Int) = nn at *
      generalize (wayD6 zs).rs = rr at *
      go_enter Tryd.func38, Tryd.ntmps38
      go_wp2_with fail
      refine (TE.out _ R0).mono ?_
      rintro r u1 ⟨a1, c1, rfl, O1, R1, Y1⟩
      have z1 := Y1.size
      simp at z1
      have Q1 := Q0.out.only Y1 (by omega) (by simp; omega)
      have N1 := N0.trans (Y1.below (B := w.heap.size) (by omega) (by simp; omega))
      have i2 := R1.c2
      have iq : w.heap.size + 1 < u1.heap.size := by omega
      have Q1' : Hid (Er0 u1 w.heap.size) := Q1
      clear Q0 N0 R0 O1 Y1 Q1
      go_wp2_with fail
      refine (implEventFault_any y0 y1 y2 y3 a1 zz.length c1 _ bx.1 bx.2 (by omega)).mono ?_
      rintro r u2 ⟨rfl, hb2⟩
      have z2 := hb2.size
      simp at z2
      have hB : Below u1.heap.size u1 u2 := ((Below.refl _ _).alloc (Nat.le_refl _) _).trans (hb2.mono (by simp))
      have Q2 := Q1'.out.below hB (by omega)
      have N2 := N1.trans (hB.mono (by omega))
      obtain ⟨g0, g1, g2, g3, g4, g5, g6, f0, f1, f2, f3, f4, f5, f6⟩ := Q2
      clear hb2 hB i2 R1 Q1'
      go_wp2
      refine bodyPost_ret (v := .agg #[.int .i64 5, .int .i64 0, .int .i64 0, .int .i64 0, .int .i64 0, .slice none 0 0, .int .i64 0]) (by simp [results, Tryd.results38, go_sem, g0, g1, g2, g3, g4, g5, g6]) rfl ⟨none, 0, rfl, nil_own _ _ _, ?_⟩
      iterate 7 (refine Below.setCell ?_ (by (try simp) <;> omega) _)
      exact N2
  · obtain ⟨e0, e1, e2, e3, e4, e5, e6⟩ := r_bad (fun q : rdOk zs => hlong q.1)
    rw [e0, e1, e2, e3, e4, e5, e6]
    have ck := way_cut hwf hlong
    rw [ck] at TE
    clear e0 e1 e2 e3 e4 e5 e6 hlong ck hmm hm'
    generalize (wayD0 zs).num 1 = y0 at *
    generalize (wayD1 zs).num 2 = y1 at *
    generalize (wayD2 zs).num 1 = y2 at *
    generalize (wayD3 zs).num 8 = y3 at *
    generalize (wayD5 zs).note (wayM zs) = zz at *
    generalize (wayD6 zs).u = nn at *
    generalize (wayD6 zs).rs = rr at *
    go_enter Tryd.func38, Tryd.ntmps38
    go_wp2_with fail
    refine (TE.out _ R0).mono ?_
    rintro r u1 ⟨a1, c1, rfl, O1, R1, Y1⟩
    have z1 := Y1.size
    simp at z1
    have Q1 := Q0.out.only Y1 (by omega) (by simp; omega)
    have N1 := N0.trans (Y1.below (B := w.heap.size) (by omega) (by simp; omega))
    have i2 := R1.c2
    have iq : w.heap.size + 1 < u1.heap.size := by omega
    have ir : w.heap.size < u1.heap.size := by omega
    obtain ⟨g0, g1, g2, g3, g4, g5, g6, f0, f1, f2, f3, f4, f5, f6⟩ := Q1
    clear Q0 N0 R0 O1 Y1 R1
    go_wp2
    refine bodyPost_ret (v := .agg #[.int .i64 5, .int .i64 0, .int .i64 0, .int .i64 0, .int .i64 0, .slice none 0 0, .int .i64 0]) (by simp [results, Tryd.results38, go_sem, g0, g1, g2, g3, g4, g5, g6, ir]) rfl ⟨none, 0, rfl, nil_own _ _ _, ?_⟩
    refine Below.alloc ?_ (by (try simp) <;> omega) _
    iterate 7 (refine Below.setCell ?_ (by (try simp) <;> omega) _)
    exact N1

end Go.Proofs.YtngibnmcagogaaaDoor
