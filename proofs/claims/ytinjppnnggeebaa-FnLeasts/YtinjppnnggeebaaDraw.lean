/- Contracts: the model's draws of chapter 1. -/
import Derived.Test.YtinjppnnggeebaaSrc
import Derived.Test.YtinjppnnggeebaaParts
namespace Go.Proofs.Ytinjppnnggeebaa
open Go.ChangeShapes Go.WideShapes Go.ChangeAt Go.RowKit
set_option linter.unusedVariables false

theorem source_any (w : World) (a : Option Addr) (len cap : Nat) (zs : List Int) (h : Has w .u8 a len zs) (hl : len ≤ 1048576) :
    Calls Try.prog 28 #[.slice a len cap] w fun e w' => e = .returned (.pointer (some ⟨w.heap.size, 0, none⟩)) ∧ SrcAt w' w.heap.size w.heap.size a len cap zs 0 ∧ Below w.heap.size w w' ∧ w.heap.size < w'.heap.size := by
  obtain ⟨h1, h2, h3⟩ := h
  go_enter Try.func28, Try.ntmps28
  go_wp2
  go_ret
  have hb : Below w.heap.size w (w.alloc (.cells #[.slice a len cap, .int .i64 0] 58)) := (Below.refl _ _).alloc (Nat.le_refl _) _
  refine ⟨rfl, ⟨by simp [go_sem], by simp [go_sem], by simp [go_sem], Nat.le_refl _, by simp, h1, hl, h2, h3.imp id fun ⟨b, off, ha, hlt, hc⟩ => ⟨b, off, ha, hlt, fun i hi => (hb.cell (p := ⟨b, off + i, none⟩) hlt).trans (hc i hi)⟩⟩, hb, by simp⟩

/-- What a source leaves behind, seen from ahead of it. -/
theorem after_source {w w1 w2 : World} (hb : Below w.heap.size w w1) (ho : Only w.heap.size w1 w2) : Below w.heap.size w w2 := hb.trans (ho.below (Nat.le_refl _) hb.size)

theorem drawPartsOf_any (w : World) (a : Option Addr) (len cap : Nat) (zs : List Int) (h : Has w .u8 a len zs) (hl : len ≤ 1048576) :
    Calls Try.prog 7 #[.slice a len cap] w fun e w' => ∃ x, e = .returned (.int .i64 x) ∧ -9223372036854775808 ≤ x ∧ x ≤ 9223372036854775807 ∧ Below w.heap.size w w' := by
  go_enter Try.func7, Try.ntmps7
  go_wp2_with (first | (go_at_call 28; refine (source_any _ a len cap zs h hl).mono ?_; rintro e w1 ⟨rfl, hs1, hb1, hz1⟩) | (go_at_call 27; refine (draw_any _ _ _ a len cap zs 0 hs1 (by omega)).mono ?_; rintro e w2 ⟨x, rfl, hx0, hx1, hs2, ho2⟩))
  go_ret
  exact ⟨_, rfl, hx0, hx1, after_source hb1 ho2⟩

theorem drawCanonOf_any (w : World) (a : Option Addr) (len cap : Nat) (zs : List Int) (h : Has w .u8 a len zs) (hl : len ≤ 1048576) :
    Calls Try.prog 18 #[.slice a len cap] w fun e w' => ∃ x, e = .returned (.int .i64 x) ∧ -9223372036854775808 ≤ x ∧ x ≤ 9223372036854775807 ∧ Below w.heap.size w w' := by
  go_enter Try.func18, Try.ntmps18
  go_wp2_with (first | (go_at_call 28; refine (source_any _ a len cap zs h hl).mono ?_; rintro e w1 ⟨rfl, hs1, hb1, hz1⟩) | (go_at_call 27; refine (draw_any _ _ _ a len cap zs 0 hs1 (by omega)).mono ?_; rintro e w2 ⟨x, rfl, hx0, hx1, hs2, ho2⟩))
  go_ret
  exact ⟨_, rfl, hx0, hx1, after_source hb1 ho2⟩

set_option maxHeartbeats 1000000 in
theorem two_any (w : World) (a : Option Addr) (len cap : Nat) (zs : List Int) (h : Has w .u8 a len zs) (hl : len ≤ 1048576) :
    Calls Try.prog 36 #[.slice a len cap] w fun e w' => ∃ x y, e = .returned (.tuple #[.int .i64 x, .int .i64 y]) ∧ -9223372036854775808 ≤ x ∧ x ≤ 9223372036854775807 ∧ -9223372036854775808 ≤ y ∧ y ≤ 9223372036854775807 ∧ Below w.heap.size w w' := by
  have tok1 : True := trivial
  go_enter Try.func36, Try.ntmps36
  go_wp2_with (first | (go_at_call 28; refine (source_any _ a len cap zs h hl).mono ?_; rintro e w1 ⟨rfl, hs1, hb1, hz1⟩) | (go_at_call 27; have _t := tok1; refine (draw_any _ _ _ a len cap zs 0 hs1 (by omega)).mono ?_; rintro e w2 ⟨x, rfl, hx0, hx1, hs2, ho2⟩; clear tok1 _t) | (go_at_call 45; refine (chance_any _ _ _ a len cap zs _ _ hs2 (by omega) (by omega) (by omega)).mono ?_; rintro e w3 ⟨c, rfl, hs3, ho3⟩) | (go_at_call 27; refine (draw_any _ _ _ a len cap zs _ hs3 (by omega)).mono ?_; rintro e w4 ⟨y, rfl, hy0, hy1, hs4, ho4⟩))
  · go_ret2
    exact ⟨_, _, rfl, hx0, hx1, hx0, hx1, after_source hb1 (ho2.trans ho3)⟩
  · go_ret2
    exact ⟨_, _, rfl, hx0, hx1, hy0, hy1, after_source hb1 ((ho2.trans ho3).trans ho4)⟩

theorem drawIsAhead_any (w : World) (a : Option Addr) (len cap : Nat) (zs : List Int) (h : Has w .u8 a len zs) (hl : len ≤ 1048576) :
    Calls Try.prog 17 #[.slice a len cap] w fun e w' => ∃ x y, e = .returned (.tuple #[.int .i64 x, .int .i64 y]) ∧ -9223372036854775808 ≤ x ∧ x ≤ 9223372036854775807 ∧ -9223372036854775808 ≤ y ∧ y ≤ 9223372036854775807 ∧ Below w.heap.size w w' := by
  go_enter Try.func17, Try.ntmps17
  go_wp2_with (go_at_call 36; refine (two_any _ a len cap zs h hl).mono ?_; rintro e w1 ⟨x, y, rfl, hx0, hx1, hy0, hy1, hb1⟩)
  go_ret2
  exact ⟨_, _, rfl, hx0, hx1, hy0, hy1, hb1⟩

set_option maxHeartbeats 4000000 in
theorem bent_any (w : World) (B s : Nat) (a : Option Addr) (len cap : Nat) (zs : List Int) (t : Nat) (h : SrcAt w B s a len cap zs t) (ht : t ≤ 900000) :
    Calls Try.prog 30 #[.pointer (some ⟨s, 0, none⟩)] w fun r w' => ∃ k m e t', r = .returned (.agg #[.int .i64 k, .bool m, .int .i64 e, .int .i64 t']) ∧ (-9223372036854775808 ≤ k ∧ k ≤ 9223372036854775807) ∧ Only s w w' := by
  have hlt := h.lt
  have hne0 : w.heap.size ≠ s := by omega
  go_enter Try.func30, Try.ntmps30
  go_wp2_with (first | (go_at_call 27; refine (draw_any _ B s a len cap zs t (h.alloc _) ht).mono ?_; rintro e w1 ⟨x, rfl, hx0, hx1, hs1, ho1⟩; have hz1 := ho1.size; (try simp at hz1); obtain ⟨hc1, hf1⟩ := ocell ho1; have r0 := (ho1.cell (o := 0) (by simp) hne0).trans (cells4 w).1; have r1 := (ho1.cell (o := 1) (by simp) hne0).trans (cells4 w).2.1; have r2 := (ho1.cell (o := 2) (by simp) hne0).trans (cells4 w).2.2.1; have r3 := (ho1.cell (o := 3) (by simp) hne0).trans (cells4 w).2.2.2) | (go_at_call 35; refine (parts_spec x _ hx0 hx1).mono ?_; rintro e w2 ⟨rfl, hb2⟩; have hs2 := hs1.below hb2; obtain ⟨hc2, hf2⟩ := bcell hb2; have hz2 := hb2.size; have hlt2 := hs2.lt; have hne2 : w2.heap.size ≠ s := (by omega); have hy2 : w.heap.size < w2.heap.size := (by omega); have hy1 : w.heap.size < w1.heap.size := (by omega); replace r0 := (hb2.cell (p := ⟨w.heap.size, 0, none⟩) hy1).trans r0; replace r1 := (hb2.cell (p := ⟨w.heap.size, 1, none⟩) hy1).trans r1; replace r2 := (hb2.cell (p := ⟨w.heap.size, 2, none⟩) hy1).trans r2; replace r3 := (hb2.cell (p := ⟨w.heap.size, 3, none⟩) hy1).trans r3) | (go_at_call 44; refine (next_any _ B s a len cap zs _ _ (hs2.alloc _) (by omega) (by omega) (by omega)).mono ?_; rintro e w3 ⟨v, rfl, hv0, hv1, hs3, ho3⟩; have hz3 := ho3.size; (try simp at hz3); obtain ⟨hc3, hf3⟩ := ocell ho3; have hy3 : w.heap.size < w3.heap.size := (by omega); have hy32 : w2.heap.size < w3.heap.size := (by omega); have hlt3 := hs3.lt; replace r0 := (ho3.cell_alloc (o := 0) hy2 hne0).trans r0; replace r1 := (ho3.cell_alloc (o := 1) hy2 hne0).trans r1; replace r2 := (ho3.cell_alloc (o := 2) hy2 hne0).trans r2; replace r3 := (ho3.cell_alloc (o := 3) hy2 hne0).trans r3; have q0 := (ho3.cell (o := 0) (by simp) hne2).trans (cells4 w2).1; have q1 := (ho3.cell (o := 1) (by simp) hne2).trans (cells4 w2).2.1; have q2 := (ho3.cell (o := 2) (by simp) hne2).trans (cells4 w2).2.2.1; have q3 := (ho3.cell (o := 3) (by simp) hne2).trans (cells4 w2).2.2.2) | (go_at_call 43; have _hv : (v == 0) = true := (by assumption); refine (pick_any _ B s a len cap zs _ (hs3.alloc _) (by omega) w3.heap.size [-1, 0, 1, 3, 4] 5 rfl (by simp) (by omega) (by omega) (by omega) _ (cells_lit w3 _ _ _ rfl)).mono ?_; rintro e w4 ⟨z, rfl, hzm, hs4, ho4⟩; have hz4 := ho4.size; (try simp at hz4); obtain ⟨hc4, hf4⟩ := ocell ho4; have hzb : -9223372036854775808 ≤ z ∧ z ≤ 9223372036854775807 := (by simp at hzm; omega); clear hzm; replace r0 := (ho4.cell_alloc (o := 0) hy3 hne0).trans r0; replace r1 := (ho4.cell_alloc (o := 1) hy3 hne0).trans r1; replace r2 := (ho4.cell_alloc (o := 2) hy3 hne0).trans r2; replace r3 := (ho4.cell_alloc (o := 3) hy3 hne0).trans r3; have p0 := (ho4.cell_alloc (o := 0) hy32 hne2).trans q0; have p1 := (ho4.cell_alloc (o := 1) hy32 hne2).trans q1; have p2 := (ho4.cell_alloc (o := 2) hy32 hne2).trans q2; have p3 := (ho4.cell_alloc (o := 3) hy32 hne2).trans q3) | (go_at_call 43; have _hv : (v == 1) = true := (by assumption); refine (pick_any _ B s a len cap zs _ (hs3.alloc _) (by omega) w3.heap.size [-1074, -1075, 971, 972, 0] 5 rfl (by simp) (by omega) (by omega) (by omega) _ (cells_lit w3 _ _ _ rfl)).mono ?_; rintro e w4 ⟨z, rfl, hzm, hs4, ho4⟩; have hz4 := ho4.size; (try simp at hz4); obtain ⟨hc4, hf4⟩ := ocell ho4; have hzb : -9223372036854775808 ≤ z ∧ z ≤ 9223372036854775807 := (by simp at hzm; omega); clear hzm; replace r0 := (ho4.cell_alloc (o := 0) hy3 hne0).trans r0; replace r1 := (ho4.cell_alloc (o := 1) hy3 hne0).trans r1; replace r2 := (ho4.cell_alloc (o := 2) hy3 hne0).trans r2; replace r3 := (ho4.cell_alloc (o := 3) hy3 hne0).trans r3; have p0 := (ho4.cell_alloc (o := 0) hy32 hne2).trans q0; have p1 := (ho4.cell_alloc (o := 1) hy32 hne2).trans q1; have p2 := (ho4.cell_alloc (o := 2) hy32 hne2).trans q2; have p3 := (ho4.cell_alloc (o := 3) hy32 hne2).trans q3) | (go_at_call 43; have _hv : (v == 2) = true := (by assumption); refine (pick_any _ B s a len cap zs _ (hs3.alloc _) (by omega) w3.heap.size [0, 1, 4503599627370496, 4503599627370495, 9007199254740992] 5 rfl (by simp) (by omega) (by omega) (by omega) _ (cells_lit w3 _ _ _ rfl)).mono ?_; rintro e w4 ⟨z, rfl, hzm, hs4, ho4⟩; have hz4 := ho4.size; (try simp at hz4); obtain ⟨hc4, hf4⟩ := ocell ho4; have hzb : -9223372036854775808 ≤ z ∧ z ≤ 9223372036854775807 := (by simp at hzm; omega); clear hzm; replace r0 := (ho4.cell_alloc (o := 0) hy3 hne0).trans r0; replace r1 := (ho4.cell_alloc (o := 1) hy3 hne0).trans r1; replace r2 := (ho4.cell_alloc (o := 2) hy3 hne0).trans r2; replace r3 := (ho4.cell_alloc (o := 3) hy3 hne0).trans r3; have p0 := (ho4.cell_alloc (o := 0) hy32 hne2).trans q0; have p1 := (ho4.cell_alloc (o := 1) hy32 hne2).trans q1; have p2 := (ho4.cell_alloc (o := 2) hy32 hne2).trans q2; have p3 := (ho4.cell_alloc (o := 3) hy32 hne2).trans q3))
  all_goals have hkb := kd_bd x
  · refine bodyPost_ret (v := .agg #[.int .i64 z, .bool (mn x), .int .i64 (ex x), .int .i64 (mt x)]) (by simp [results, Try.results30, go_sem, r0, r1, r2, r3]) rfl ⟨_, _, _, _, rfl, by omega, ?_⟩
    repeat (first | exact Only.refl _ _ | (refine Only.storeNew ?_ (by omega) _) | (refine Only.alloc ?_ _) | (refine Only.trans ?_ ho4) | (refine Only.trans ?_ ho3) | (refine Only.trans ?_ (Only.of_below hb2)) | (refine Only.trans ?_ ho1))
  · refine bodyPost_ret (v := .agg #[.int .i64 (kd x), .bool (mn x), .int .i64 z, .int .i64 (mt x)]) (by simp [results, Try.results30, go_sem, r0, r1, r2, r3]) rfl ⟨_, _, _, _, rfl, by omega, ?_⟩
    repeat (first | exact Only.refl _ _ | (refine Only.storeNew ?_ (by omega) _) | (refine Only.alloc ?_ _) | (refine Only.trans ?_ ho4) | (refine Only.trans ?_ ho3) | (refine Only.trans ?_ (Only.of_below hb2)) | (refine Only.trans ?_ ho1))
  · refine bodyPost_ret (v := .agg #[.int .i64 (kd x), .bool (mn x), .int .i64 (ex x), .int .i64 z]) (by simp [results, Try.results30, go_sem, r0, r1, r2, r3]) rfl ⟨_, _, _, _, rfl, by omega, ?_⟩
    repeat (first | exact Only.refl _ _ | (refine Only.storeNew ?_ (by omega) _) | (refine Only.alloc ?_ _) | (refine Only.trans ?_ ho4) | (refine Only.trans ?_ ho3) | (refine Only.trans ?_ (Only.of_below hb2)) | (refine Only.trans ?_ ho1))
  · refine bodyPost_ret (v := .agg #[.int .i64 (kd x), .bool (mn x), .int .i64 (ex x), .int .i64 (mt x)]) (by simp [results, Try.results30, go_sem, r0, r1, r2, r3]) rfl ⟨_, _, _, _, rfl, by omega, ?_⟩
    repeat (first | exact Only.refl _ _ | (refine Only.storeNew ?_ (by omega) _) | (refine Only.alloc ?_ _) | (refine Only.trans ?_ ho3) | (refine Only.trans ?_ (Only.of_below hb2)) | (refine Only.trans ?_ ho1))

set_option maxHeartbeats 1000000 in
theorem drawBitsOf_any (w : World) (a : Option Addr) (len cap : Nat) (zs : List Int) (h : Has w .u8 a len zs) (hl : len ≤ 1048576) :
    Calls Try.prog 10 #[.slice a len cap] w fun r w' => ∃ k m e t', r = .returned (.agg #[.int .i64 k, .bool m, .int .i64 e, .int .i64 t']) ∧ Below w.heap.size w w' := by
  go_enter Try.func10, Try.ntmps10
  go_wp2_with (first | (go_at_call 28; refine (source_any _ a len cap zs (h.alloc _) hl).mono ?_; rintro e w1 ⟨rfl, hs1, hb1, hz1⟩; (try simp at hs1); (try simp at hz1); obtain ⟨hc1, hf1⟩ := bcell hb1; have hy1 : w.heap.size < w1.heap.size := (by omega)) | (go_at_call 30; refine (bent_any _ _ _ a len cap zs 0 hs1 (by omega)).mono ?_; rintro e w2 ⟨k, m, e', t', rfl, hk, ho2⟩; obtain ⟨hc2, hf2⟩ := ocell ho2; have hz2 := ho2.size))
  have r0 := (ho2.cell (b := w.heap.size) (o := 0) hy1 (by omega)).trans ((hb1.cell (p := ⟨w.heap.size, 0, none⟩) (by simp)).trans (cells4 w).1)
  have r1 := (ho2.cell (b := w.heap.size) (o := 1) hy1 (by omega)).trans ((hb1.cell (p := ⟨w.heap.size, 1, none⟩) (by simp)).trans (cells4 w).2.1)
  have r2 := (ho2.cell (b := w.heap.size) (o := 2) hy1 (by omega)).trans ((hb1.cell (p := ⟨w.heap.size, 2, none⟩) (by simp)).trans (cells4 w).2.2.1)
  have r3 := (ho2.cell (b := w.heap.size) (o := 3) hy1 (by omega)).trans ((hb1.cell (p := ⟨w.heap.size, 3, none⟩) (by simp)).trans (cells4 w).2.2.2)
  refine bodyPost_ret (v := .agg #[.int .i64 k, .bool m, .int .i64 e', .int .i64 t']) (by simp [results, Try.results10, go_sem, r0, r1, r2, r3]) rfl ⟨_, _, _, _, rfl, ?_⟩
  repeat (first | exact Below.refl _ _ | (refine Below.alloc ?_ (by simp) _) | (refine Below.setCell ?_ (by simp) _) | (refine Below.trans ?_ (ho2.below (by omega) (by omega))) | (refine Below.trans ?_ (hb1.mono (by simp))))

end Go.Proofs.Ytinjppnnggeebaa
