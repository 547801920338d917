/- Contracts of the model's chapter 3: an event as bytes. -/
import Derived.Test.YtngibnmcagogaaaDoorApp
import Derived.Test.YtngibnmcagogaaaDoorPut
import Derived.Test.YtngibnmcagogaaaDoorEvt
import Derived.Test.YtngibnmcagogaaaDoorISums
import Derived.Test.YtngibnmcagogaaaDoorMarkI
namespace Go.Proofs.YtngibnmcagogaaaDoor
open Go.ChangeShapes Go.WideShapes Go.ChangeAt Go.RowKit
set_option maxRecDepth 100000
set_option linter.unusedVariables false
set_option linter.unusedSimpArgs false

/-- The bytes of an event. -/
def packL (s v k x : Int) (zs : List Int) : List Int := [s, v / 256, v % 256] ++ [k] ++ putL x 8 ++ [(zs.length : Int)] ++ zs
theorem packL_len (s v k x : Int) (zs : List Int) : (packL s v k x zs).length = 13 + zs.length := by simp [packL, putL_len]; omega

theorem wrap_u8 {y : Int} (h0 : 0 ≤ y) (h1 : y ≤ 255) : IntKind.u8.wrap y = y := by simp [IntKind.wrap, IntKind.bits, IntKind.signed]; omega
theorem one_has (w : World) (y : Int) (T : Nat) (h : 0 ≤ y ∧ y ≤ 255) : Has (w.alloc (.cells #[.int .u8 y] T)) .u8 (some ⟨w.heap.size, 0, none⟩) [y].length [y] := has_one w T h

set_option maxHeartbeats 4000000 in
theorem l3Pack_any (b : Nat) (s v k x : Int) (a : Option Addr) (c : Nat) (zs : List Int) (w : World) (h : EvAt w b s v k x a zs.length c) (hz : Has w .u8 a zs.length zs) (s0 : 0 ≤ s) (s1 : s ≤ 63) (v0 : 0 ≤ v) (v1 : v ≤ 999) (k0 : 0 ≤ k) (k1 : k ≤ 9) (x0 : -9223372036854775808 ≤ x) (x1 : x ≤ 9223372036854775807) (hn : zs.length ≤ 12) :
    Calls Tryd.prog 79 #[.pointer (some ⟨b, 0, none⟩)] w fun r w' => ∃ a' c', r = .returned (.slice a' (13 + zs.length) c') ∧ w'.ownsRow w.heap.size 5 1 (.slice a' (13 + zs.length) c') (13 + zs.length) ((packL s v k x zs).map (.int .u8)) ∧ Below w.heap.size w w' := by
  obtain ⟨i0, hi, hz0, hz1, hz2⟩ := info_parts info8
  have KS : Hid (∀ wx : World, Below w.heap.size w wx → wx.cell? ⟨b, 0, none⟩ = some (.int .i64 s) ∧ wx.cell? ⟨b, 1, none⟩ = some (.int .i64 v) ∧ wx.cell? ⟨b, 2, none⟩ = some (.int .i64 k) ∧ wx.cell? ⟨b, 3, none⟩ = some (.int .i64 x) ∧ wx.cell? ⟨b, 4, none⟩ = some (.slice a zs.length c) ∧ Below w.heap.size w wx) := fun wx hb => ⟨(hb.cell (p := ⟨b, 0, none⟩) h.lt).trans h.c0, (hb.cell (p := ⟨b, 1, none⟩) h.lt).trans h.c1, (hb.cell (p := ⟨b, 2, none⟩) h.lt).trans h.c2, (hb.cell (p := ⟨b, 3, none⟩) h.lt).trans h.c3, (hb.cell (p := ⟨b, 4, none⟩) h.lt).trans h.c4, hb⟩
  obtain ⟨c0, c1, c2, c3, c4, hlt⟩ := h
  have RA : Hid ((w.drew.alloc (.cells #[.int .u8 s] 5)).ownsRow w.heap.size 5 1 (.slice (some ⟨w.heap.size, 0, none⟩) 1 1) 1 [.int .u8 s]) := World.ownsRow_lit w.drew #[.int .u8 s] 1 (Nat.le_refl _) (by unfold maxLen; omega) rfl
  have RB : Hid (((w.drew.alloc (.cells #[.int .u8 (v / 256), .int .u8 (v % 256)] 5)).alloc (.cells #[.int .u8 s] 5)).ownsRow w.heap.size 5 1 (.slice (some ⟨w.heap.size + 1, 0, none⟩) 1 1) 1 [.int .u8 s]) := by show World.ownsRow _ _ _ _ _ _ _; simpa using World.ownsRow_lit (base := w.heap.size) (e := 5) (size := 1) (w.drew.alloc (.cells #[.int .u8 (v / 256), .int .u8 (v % 256)] 5)) #[.int .u8 s] 1 (by simp) (by unfold maxLen; omega) rfl
  have TA : Hid (Has ((w.drew.alloc (.cells #[.int .u8 s] 5)).alloc (.cells #[.int .u8 (v / 256), .int .u8 (v % 256)] 5)) .u8 (some ⟨w.heap.size + 1, 0, none⟩) [v / 256, v % 256].length [v / 256, v % 256]) := by show Has _ _ _ _ _; simpa using has_two (w.drew.alloc (.cells #[.int .u8 s] 5)) 5 (x := v / 256) (y := v % 256) ⟨by omega, by omega⟩ ⟨by omega, by omega⟩
  have TB : Hid (Has ((w.drew.alloc (.cells #[.int .u8 (v / 256), .int .u8 (v % 256)] 5)).alloc (.cells #[.int .u8 s] 5)) .u8 (some ⟨w.heap.size, 0, none⟩) [v / 256, v % 256].length [v / 256, v % 256]) := (has_two w.drew 5 (x := v / 256) (y := v % 256) ⟨by omega, by omega⟩ ⟨by omega, by omega⟩).alloc _
  have BA : Hid (_) := ((Below.refl w.heap.size w).drew.alloc (Nat.le_refl _) (.cells #[.int .u8 s] 5)).alloc (by simp) (.cells #[.int .u8 (v / 256), .int .u8 (v % 256)] 5)
  have BB : Hid (_) := ((Below.refl w.heap.size w).drew.alloc (Nat.le_refl _) (.cells #[.int .u8 (v / 256), .int .u8 (v % 256)] 5)).alloc (by simp) (.cells #[.int .u8 s] 5)
  clear c2 c3 c4
  have ws : IntKind.u8.wrap s = s := wrap_u8 s0 (by omega)
  have wk : IntKind.u8.wrap k = k := wrap_u8 k0 (by omega)
  have wz : IntKind.u8.wrap (zs.length : Int) = (zs.length : Int) := wrap_u8 (by omega) (by omega)
  go_enter Tryd.func79, Tryd.ntmps79
  go_wp2_with fail
  go_region_held3 (fun wx => wx.cell? ⟨b, 0, none⟩ = some (.int .i64 s) ∧ wx.cell? ⟨b, 1, none⟩ = some (.int .i64 v) ∧ wx.cell? ⟨b, 2, none⟩ = some (.int .i64 k) ∧ wx.cell? ⟨b, 3, none⟩ = some (.int .i64 x) ∧ wx.cell? ⟨b, 4, none⟩ = some (.slice a zs.length c) ∧ Below w.heap.size w wx)
    ((refine KS.out _ ?_; (repeat (first | assumption | (refine Below.alloc ?_ (by (try simp) <;> omega) _) | (refine Below.drew ?_) | exact Below.refl _ _))))
    (first | ((go_at_call 91; refine (l2Two_any v _ v0 (by omega)).mono ?_; rintro r u1 ⟨rfl, rfl⟩)) | ((refine step_app (by rfl) _ _ _ (by rfl) w.heap.size 5 i0 Tryd.underlying22 hi hz0 hz1 hz2 w.heap.size 1 1 [.int .u8 s] (by rfl) (RA.out.alloc _) _ _ [v / 256, v % 256] (by rfl) TA.out (by omega) (by simp) BA.out.size ?_; intro g1 cp1 u2 hown2 hgrow2 hat2 hlt2; have D2 : Below w.heap.size w u2 := BA.out.grown hgrow2 BA.out.size (by intro q hq; cases hq; omega))) | ((refine step_app (by rfl) _ _ _ (by rfl) w.heap.size 5 i0 Tryd.underlying22 hi hz0 hz1 hz2 (w.heap.size + 1) 1 1 [.int .u8 s] (by rfl) RB.out _ _ [v / 256, v % 256] (by rfl) TB.out (by omega) (by simp) BB.out.size ?_; intro g1 cp1 u2 hown2 hgrow2 hat2 hlt2; have D2 : Below w.heap.size w u2 := BB.out.grown hgrow2 BB.out.size (by intro q hq; cases hq; omega))))
  all_goals
    have O2 : Hid (u2.ownsRow w.heap.size 5 1 (.slice (some ⟨g1, 0, none⟩) 3 cp1) 3 (([s, v / 256, v % 256] : List Int).map (.int .u8))) := by show World.ownsRow _ _ _ _ _ _ _; simpa using hown2
    have z2 := D2.size
    have hg1 : w.heap.size ≤ g1 := (O2.out.lt g1 rfl).1
    clear hown2 hgrow2 hat2 RA RB TA TB BA BB
    have D2a : Hid (Below w.heap.size w (u2.drew.alloc (.cells #[.int .u8 k] 5))) := D2.drew.alloc (show w.heap.size ≤ u2.heap.size by omega) _
    obtain ⟨_, _, c2, c3, c4, _⟩ := KS.out _ D2
    clear c4 c0 c1
    go_wp2_with fail
    go_region_held3 (fun wx => wx.cell? ⟨b, 0, none⟩ = some (.int .i64 s) ∧ wx.cell? ⟨b, 1, none⟩ = some (.int .i64 v) ∧ wx.cell? ⟨b, 2, none⟩ = some (.int .i64 k) ∧ wx.cell? ⟨b, 3, none⟩ = some (.int .i64 x) ∧ wx.cell? ⟨b, 4, none⟩ = some (.slice a zs.length c) ∧ Below w.heap.size w wx)
      ((refine KS.out _ ?_; (repeat (first | assumption | (refine Below.alloc ?_ (by (try simp) <;> omega) _) | (refine Below.drew ?_) | exact Below.refl _ _))))
      (first | ((go_at_call 93; refine (l3Put_any x _ x0 x1).mono ?_; rintro r u4 ⟨a4, c4, rfl, O4, hb4⟩; have z4 := hb4.size; have D4 : Below w.heap.size w u4 := D3.trans (hb4.mono D3.size); have P4 := has_of_own O4 (putL_wf x 8); have O34 := own_below hown3' hb4)) | ((refine step_app (by rfl) (.tmp 16) (.tmp 22) _ (by rfl) w.heap.size 5 i0 Tryd.underlying22 hi hz0 hz1 hz2 g1 3 cp1 _ (by rfl) (O2.out.drew.alloc _) _ _ [k] (by rfl) (one_has u2.drew k _ ⟨k0, by omega⟩) (by omega) (by simp) D2a.out.size ?_; intro g3 cp3 u3 hown3 hgrow3 hat3 hlt3; have z3 := hgrow3.size; simp at z3; have hown3' : u3.ownsRow w.heap.size 5 1 (.slice (some ⟨g3, 0, none⟩) 4 cp3) 4 (([s, v / 256, v % 256] ++ [k] : List Int).map (.int .u8)) := (by simpa using hown3); have D3 : Below w.heap.size w u3 := D2a.out.grown hgrow3 D2a.out.size (by intro q hq; cases hq; omega))) | ((refine step_app (by rfl) (.tmp 23) (.tmp 28) _ (by rfl) w.heap.size 5 i0 Tryd.underlying22 hi hz0 hz1 hz2 g3 4 cp3 _ (by rfl) O34 _ _ (putL x 8) (by rw [putL_len]; rfl) P4 (by omega) (by rw [putL_len]; omega) D4.size ?_; intro g5 cp5 u5 hown5 hgrow5 hat5 hlt5; have z5 := hgrow5.size; have D5 : Below w.heap.size w u5 := D4.grown hgrow5 D4.size (by intro q hq; have := (hown3'.lt g3 rfl).1; cases hq; omega))))
    have hpl := putL_len x 8
    have O5 : Hid (u5.ownsRow w.heap.size 5 1 (.slice (some ⟨g5, 0, none⟩) 12 cp5) 12 (([s, v / 256, v % 256] ++ [k] ++ putL x 8 : List Int).map (.int .u8))) := by
      show World.ownsRow _ _ _ _ _ _ _
      rw [hpl] at hown5
      rw [List.map_append]
      exact hown5
    have D5a : Hid (Below w.heap.size w (u5.drew.alloc (.cells #[.int .u8 zs.length] 5))) := D5.drew.alloc (show w.heap.size ≤ u5.heap.size by omega) _
    have hg5 : w.heap.size ≤ g5 := (O5.out.lt g5 rfl).1
    have Z5 : Hid (Has (u5.drew.alloc (.cells #[.int .u8 zs.length] 5)) .u8 a zs.length zs) := (hz.below (D5.drew) (Nat.le_refl _)).alloc _
    have HZ : Hid (Has w .u8 a zs.length zs) := hz
    clear hown5 hgrow5 hat5 P4 O4 O34 hown3 hown3' hgrow3 hat3 D2a O2 D3 D4 hb4 c2 c3 hz D2
    have tok9 : True := trivial
    obtain ⟨_, _, _, _, c4, _⟩ := KS.out _ D5
    go_wp2_with fail
    go_region_held3 (fun wx => wx.cell? ⟨b, 0, none⟩ = some (.int .i64 s) ∧ wx.cell? ⟨b, 1, none⟩ = some (.int .i64 v) ∧ wx.cell? ⟨b, 2, none⟩ = some (.int .i64 k) ∧ wx.cell? ⟨b, 3, none⟩ = some (.int .i64 x) ∧ wx.cell? ⟨b, 4, none⟩ = some (.slice a zs.length c) ∧ Below w.heap.size w wx)
      ((refine KS.out _ ?_; (repeat (first | assumption | (refine Below.alloc ?_ (by (try simp) <;> omega) _) | (refine Below.drew ?_) | exact Below.refl _ _))))
      (first | ((refine step_app (by rfl) (.tmp 30) (.tmp 37) _ (by rfl) w.heap.size 5 i0 Tryd.underlying22 hi hz0 hz1 hz2 g5 12 cp5 _ (by rfl) (O5.out.drew.alloc _) _ _ [(zs.length : Int)] (by rfl) (one_has u5.drew zs.length _ ⟨by omega, by omega⟩) (by omega) (by simp) D5a.out.size ?_; intro g6 cp6 u6 hown6 hgrow6 hat6 hlt6; have z6 := hgrow6.size; simp at z6; have hown6' : u6.ownsRow w.heap.size 5 1 (.slice (some ⟨g6, 0, none⟩) 13 cp6) 13 (([s, v / 256, v % 256] ++ [k] ++ putL x 8 ++ [(zs.length : Int)] : List Int).map (.int .u8)) := (by rw [List.map_append]; exact hown6); have D6 : Below w.heap.size w u6 := D5a.out.grown hgrow6 D5a.out.size (by intro q hq; cases hq; omega); have Z6 := HZ.out.below D6 (Nat.le_refl _); have hg6 := (hown6'.lt g6 rfl).1)) | ((refine step_app (by rfl) (.tmp 38) (.tmp 42) _ (by rfl) w.heap.size 5 i0 Tryd.underlying22 hi hz0 hz1 hz2 g6 13 cp6 _ (by rfl) hown6' a c zs (by rfl) Z6 (by omega) (by omega) D6.size ?_; intro g7 cp7 u7 hown7 hgrow7 hat7 hlt7; have D7 : Below w.heap.size w u7 := D6.grown hgrow7 D6.size (by intro q hq; cases hq; omega))))
    go_wp2
    go_ret
    refine ⟨_, _, rfl, ?_, D7⟩
    unfold packL
    rw [List.map_append]
    exact hown7

end Go.Proofs.YtngibnmcagogaaaDoor
