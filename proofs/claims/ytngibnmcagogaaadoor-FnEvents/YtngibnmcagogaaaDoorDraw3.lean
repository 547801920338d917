/- Contracts: the draws of the model's chapter 3, as far as the laws lean on them: they return, within bounds, and touch nothing but their own source. -/
import Derived.Test.YtngibnmcagogaaaDoorTakeV
import Derived.Test.YtngibnmcagogaaaDoorSome
import Derived.Test.YtngibnmcagogaaaDoorEvt
import Derived.Test.YtngibnmcagogaaaDoorPack
namespace Go.Proofs.YtngibnmcagogaaaDoor
open Go.ChangeShapes Go.WideShapes Go.ChangeAt Go.RowKit
set_option maxRecDepth 100000
set_option linter.unusedVariables false
set_option linter.unusedSimpArgs false

theorem pick4 (w : World) (x0 x1 x2 x3 : Int) (T : Nat) : ∀ i, i < [x0, x1, x2, x3].length → (w.alloc (.cells #[.int .i64 x0, .int .i64 x1, .int .i64 x2, .int .i64 x3] T)).cell? ⟨w.heap.size, i, none⟩ = some (.int .i64 ([x0, x1, x2, x3].getD i 0)) := by
  intro i hi
  match i, hi with
  | 0, _ => simp [go_sem]
  | 1, _ => simp [go_sem]
  | 2, _ => simp [go_sem]
  | 3, _ => simp [go_sem]
theorem pick3 (w : World) (x0 x1 x2 : Int) (T : Nat) : ∀ i, i < [x0, x1, x2].length → (w.alloc (.cells #[.int .i64 x0, .int .i64 x1, .int .i64 x2] T)).cell? ⟨w.heap.size, i, none⟩ = some (.int .i64 ([x0, x1, x2].getD i 0)) := by
  intro i hi
  match i, hi with
  | 0, _ => simp [go_sem]
  | 1, _ => simp [go_sem]
  | 2, _ => simp [go_sem]
theorem pick2 (w : World) (x0 x1 : Int) (T : Nat) : ∀ i, i < [x0, x1].length → (w.alloc (.cells #[.int .i64 x0, .int .i64 x1] T)).cell? ⟨w.heap.size, i, none⟩ = some (.int .i64 ([x0, x1].getD i 0)) := by
  intro i hi
  match i, hi with
  | 0, _ => simp [go_sem]
  | 1, _ => simp [go_sem]

set_option maxHeartbeats 2000000 in
theorem l3Draw_any (w : World) (B s : Nat) (a : Option Addr) (len cap : Nat) (zs : List Int) (t : Nat) (h : SrcAt (w) B s a len cap zs (t)) (ht : t ≤ 100000) :
    Calls Tryd.prog 78 #[.pointer (some ⟨s, 0, none⟩)] w fun e w' => ∃ (es ev ek ex : Int) (a' : Option Addr) (c' : Nat) (ys : List Int) (t' : Nat), e = .returned (.agg #[.int .i64 es, .int .i64 ev, .int .i64 ek, .int .i64 ex, .slice a' ys.length c']) ∧ (0 ≤ es ∧ es ≤ 63) ∧ (0 ≤ ev ∧ ev ≤ 3) ∧ (0 ≤ ek ∧ ek ≤ 2) ∧ (-9223372036854775808 ≤ ex ∧ ex ≤ 9223372036854775807) ∧ ys.length ≤ 3 ∧ w'.ownsRow w.heap.size 5 1 (.slice a' ys.length c') ys.length (ys.map (.int .u8)) ∧ (∀ y ∈ ys, (Lit.int .u8 y).wf = true) ∧ SrcAt (w') B s a len cap zs (t') ∧ t' ≤ t + 20 ∧ Only s w w' := by
  have hs := h.lt
  have hsb := h.base
  have S0 : Hid (SrcAt ((w.alloc (.cells #[.int .i64 0, .int .i64 0, .int .i64 0, .int .i64 0, .slice none 0 0] 46)).alloc (.cells #[.int .i64 0, .int .i64 1, .int .i64 2, .int .i64 63] 2)) B s a len cap zs (t)) := (h.alloc _).alloc _
  have N0 : Only s (w.alloc (.cells #[.int .i64 0, .int .i64 0, .int .i64 0, .int .i64 0, .slice none 0 0] 46)) ((w.alloc (.cells #[.int .i64 0, .int .i64 0, .int .i64 0, .int .i64 0, .slice none 0 0] 46)).alloc (.cells #[.int .i64 0, .int .i64 1, .int .i64 2, .int .i64 63] 2)) := (Only.refl _ _).alloc _
  have PC := pick4 (w.alloc (.cells #[.int .i64 0, .int .i64 0, .int .i64 0, .int .i64 0, .slice none 0 0] 46)) 0 1 2 63 2
  have PH : Hid (_) := PC
  clear PC
  have tok1 : True := trivial
  go_enter Tryd.func78, Tryd.ntmps78
  go_wp2_with fail
  refine (pick_any _ B s a len cap zs t S0.out (by omega) (w.heap.size + 1) [0, 1, 2, 63] 4 rfl (by simp) (by omega) (by omega) (by omega) 4 (by simpa using PH.out)).mono ?_
  rintro e u1 ⟨es, rfl, hes, S1, Y1⟩
  have N1 := N0.trans Y1
  have hes' : 0 ≤ es ∧ es ≤ 63 := by simp at hes; omega
  clear S0 N0 hes
  go_wp2_with fail
  refine (next_any _ B s a len cap zs (t + 1) 4 S1 (by omega) (by omega) (by omega)).mono ?_
  rintro e u2 ⟨ev, rfl, v0, v1, S2, Y2⟩
  have N2 := N1.trans Y2
  clear S1 N1
  go_wp2_with fail
  refine (next_any _ B s a len cap zs (t + 1 + 1) 3 S2 (by omega) (by omega) (by omega)).mono ?_
  rintro e u3 ⟨ek, rfl, k0, k1, S3, Y3⟩
  have N3 := N2.trans Y3
  clear S2 N2
  go_wp2_with fail
  refine (draw_any _ B s a len cap zs (t + 1 + 1 + 1) S3 (by omega)).mono ?_
  rintro e u4 ⟨x, rfl, x0, x1, S4, Y4⟩
  have N4 := N3.trans Y4
  clear S3 N3
  go_wp2_with fail
  refine (canon_spec1 x _ x0 x1).mono ?_
  rintro e u5 ⟨rfl, hb5⟩
  have S5 := S4.below hb5
  have N5 := N4.trans (Only.of_below hb5)
  have hcb : -9223372036854775808 ≤ canon x ∧ canon x ≤ 9223372036854775807 := canon_bd x0 x1
  generalize canon x = ex at hcb ⊢
  clear S4 N4 hb5
  go_wp2_with fail
  refine (next_any _ B s a len cap zs (t + 1 + 1 + 1 + 4) 4 S5 (by omega) (by omega) (by omega)).mono ?_
  rintro e u6 ⟨en, rfl, n0, n1, S6, Y6⟩
  have N6 := N5.trans Y6
  clear S5 N5
  obtain ⟨m, rfl⟩ : ∃ m : Nat, en = (m : Int) := ⟨en.toNat, by omega⟩
  go_wp2_with fail
  refine (some_any _ B s a len cap zs _ m S6 (by omega) (by omega)).mono ?_
  rintro e u7 ⟨a7, c7, ys, rfl, hyl, O7, yw, S7, Y7⟩
  have N7 := N6.trans Y7
  subst hyl
  have z6 := N6.size
  have z7 := N7.size
  simp at z6 z7
  have G7 := (EvAt.new w 0 0 0 0 none 0 0 46).only N7 (by omega)
  have F7 := (FrAt.new w (.int .i64 0) (.int .i64 0) (.int .i64 0) (.int .i64 0) (.slice none 0 0) 46).only N7 (by omega) (by simp)
  obtain ⟨g0, g1, g2, g3, g4, gl⟩ := G7
  obtain ⟨f0, f1, f2, f3, f4⟩ := F7
  have OO : Hid (World.ownsRow u7 (w.heap.size + 1) 5 1 (.slice a7 ys.length c7) ys.length (ys.map (.int .u8))) := own_mono O7 (by omega)
  clear S6 N6 O7
  go_wp2
  refine bodyPost_ret (v := .agg #[.int .i64 es, .int .i64 ev, .int .i64 ek, .int .i64 ex, .slice a7 ys.length c7]) (by simp [results, Tryd.results78, go_sem, g0, g1, g2, g3, g4]) rfl ⟨es, ev, ek, ex, a7, c7, ys, t + 1 + 1 + 1 + 4 + 1 + ys.length, rfl, hes', ⟨v0, by omega⟩, ⟨k0, by omega⟩, hcb, by omega, ?_, yw, ?_, by omega, ?_⟩
  · refine own_mono (base := w.heap.size + 1) ?_ (by omega)
    iterate 5 (refine own_set ?_ (by omega) _)
    exact OO.out
  · refine S7.below' (N := w.heap.size) ?_ (by omega)
    iterate 5 (refine Below.setCell ?_ (by (try simp) <;> omega) _)
    exact Below.refl _ _
  · iterate 5 (refine Only.storeNew ?_ (by omega) _)
    exact ((Only.refl s w).alloc _).trans N7

end Go.Proofs.YtngibnmcagogaaaDoor
