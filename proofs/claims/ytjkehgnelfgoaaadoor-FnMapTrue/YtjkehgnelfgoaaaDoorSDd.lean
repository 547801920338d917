/- Contracts: the model's draws of chapter 7. -/
import Derived.Test.YtjkehgnelfgoaaaDoorSDw
import Derived.Test.YtjkehgnelfgoaaaDoorSlC
namespace Go.Proofs.YtjkehgnelfgoaaaDoor
open Go.ChangeShapes Go.WideShapes Go.ChangeAt Go.RowKit
set_option maxRecDepth 100000
set_option linter.unusedVariables false
set_option linter.unusedSimpArgs false

set_option maxHeartbeats 2000000 in
theorem drawMapPath_any (w : World) (a : Option Addr) (len cap : Nat) (zs : List Int) (h : Has w .u8 a len zs) (hl : len ≤ 1048576) :
    Calls Tryd.prog 7 #[.slice a len cap] w fun e w' => ∃ (a1 : Option Addr) (c1 : Nat) (l : List Sl) (k : Int), e = .returned (.tuple #[.slice a1 l.length c1, .int .i64 k]) ∧ l.length ≤ 13 ∧ (-1 ≤ k ∧ k ≤ 64) ∧ HasS w' a1 l ∧ Below w.heap.size w w' := by
  go_enter Tryd.func7, Tryd.ntmps7
  go_wp2_with fail
  refine (source_any _ a len cap zs h hl).mono ?_
  rintro e u1 ⟨rfl, S1, hb1, hs1⟩
  obtain ⟨u0, hu0⟩ : ∃ u0, u0 = w.heap.size := ⟨_, rfl⟩
  have AS : ∀ {w2 : World}, Only u0 u1 w2 → Below w.heap.size w w2 := fun {w2} ho => after_source hb1 (by rw [← hu0]; exact ho)
  rw [← hu0] at S1 hs1 ⊢
  clear hu0
  go_wp2_with fail
  refine (l7Bent_any _ _ _ a len cap zs 0 S1 (by omega)).mono ?_
  rintro e u2 ⟨a1, c1, l, t1, rfl, l13, wf, P2, S2, ht1, N2⟩
  have WF : Hid (WfS l) := wf
  clear wf S1
  have PH : Hid (∀ i, i < ([0, 1, 5, 63, 64, -1, 33] : List Int).length → (u2.alloc (.cells #[.int .i64 0, .int .i64 1, .int .i64 5, .int .i64 63, .int .i64 64, .int .i64 (-1), .int .i64 33] 2)).cell? ⟨u2.heap.size, i, none⟩ = some (.int .i64 (([0, 1, 5, 63, 64, -1, 33] : List Int).getD i 0))) := cells_lit u2 [0, 1, 5, 63, 64, -1, 33] 2 _ rfl
  go_wp2_with fail
  refine (pick_any _ _ _ a len cap zs t1 (S2.alloc _) (by omega) u2.heap.size [0, 1, 5, 63, 64, -1, 33] 7 rfl (by simp) (by have := S2.lt; omega) (by omega) (by omega) 7 PH.out).mono ?_
  rintro e u3 ⟨k, rfl, hp3, S3, Y3⟩
  clear PH
  have kb : -1 ≤ k ∧ k ≤ 64 := by simp at hp3; omega
  have P3 : OwnS u3 u1.heap.size (.slice a1 l.length c1) l := own_only (own2_below P2 ((Below.refl _ _).alloc (Nat.le_refl _) _)) Y3 hs1
  have N3 := (N2.alloc (.cells #[.int .i64 0, .int .i64 1, .int .i64 5, .int .i64 63, .int .i64 64, .int .i64 (-1), .int .i64 33] 2)).trans Y3
  have H3 := OwnS.has P3 WF.out
  have W3 := AS N3
  clear P2 S2 N2 Y3 hp3 P3 N3 S3
  go_wp2
  refine bodyPost_ret (v := .tuple #[.slice a1 l.length c1, .int .i64 k]) (by simp [results, Tryd.results7, go_sem]) rfl ⟨a1, c1, l, k, rfl, l13, kb, H3, W3⟩

set_option maxHeartbeats 2000000 in
theorem drawClimbSlot_any (w : World) (a : Option Addr) (len cap : Nat) (zs : List Int) (h : Has w .u8 a len zs) (hl : len ≤ 1048576) :
    Calls Tryd.prog 9 #[.slice a len cap] w fun e w' => ∃ (k : Int) (tt : Bool) (v : Int) (a2 : Option Addr) (c2 : Nat) (p : List Int), e = .returned (.tuple #[.int .i64 k, .bool tt, .int .i64 v, .slice a2 p.length c2]) ∧ p.length ≤ 6 ∧ Has w' .i64 a2 p.length p ∧ Below w.heap.size w w' := by
  go_enter Tryd.func9, Tryd.ntmps9
  go_wp2_with fail
  refine (source_any _ a len cap zs h hl).mono ?_
  rintro e u1 ⟨rfl, S1, hb1, hs1⟩
  obtain ⟨u0, hu0⟩ : ∃ u0, u0 = w.heap.size := ⟨_, rfl⟩
  have AS : ∀ {w2 : World}, Only u0 u1 w2 → Below w.heap.size w w2 := fun {w2} ho => after_source hb1 (by rw [← hu0]; exact ho)
  rw [← hu0] at S1 hs1 ⊢
  clear hu0
  go_wp2_with fail
  refine (l7With_any _ _ _ a len cap zs 0 S1 (by omega)).mono ?_
  rintro e u2 ⟨a1, c1, l, k, tt, v, a2, c2, p, t1, rfl, W, S2, ht1, N2⟩
  have W2 := AS N2
  have H2 := W.h2
  have p6 := W.p6
  clear W S2 N2 S1
  go_wp2
  refine bodyPost_ret (v := .tuple #[.int .i64 k, .bool tt, .int .i64 v, .slice a2 p.length c2]) (by simp [results, Tryd.results9, go_sem]) rfl ⟨k, tt, v, a2, c2, p, rfl, p6, H2, W2⟩

set_option maxHeartbeats 2000000 in
theorem drawAcceptSlot_any (w : World) (a : Option Addr) (len cap : Nat) (zs : List Int) (h : Has w .u8 a len zs) (hl : len ≤ 1048576) :
    Calls Tryd.prog 11 #[.slice a len cap] w fun e w' => ∃ (k : Int) (tt : Bool) (v : Int) (a2 : Option Addr) (c2 : Nat) (p : List Int) (r : Int), e = .returned (.tuple #[.int .i64 k, .bool tt, .int .i64 v, .slice a2 p.length c2, .int .i64 r]) ∧ p.length ≤ 6 ∧ Has w' .i64 a2 p.length p ∧ Below w.heap.size w w' := by
  go_enter Tryd.func11, Tryd.ntmps11
  go_wp2_with fail
  refine (source_any _ a len cap zs h hl).mono ?_
  rintro e u1 ⟨rfl, S1, hb1, hs1⟩
  obtain ⟨u0, hu0⟩ : ∃ u0, u0 = w.heap.size := ⟨_, rfl⟩
  have AS : ∀ {w2 : World}, Only u0 u1 w2 → Below w.heap.size w w2 := fun {w2} ho => after_source hb1 (by rw [← hu0]; exact ho)
  rw [← hu0] at S1 hs1 ⊢
  clear hu0
  go_wp2_with fail
  refine (l7With_any _ _ _ a len cap zs 0 S1 (by omega)).mono ?_
  rintro e u2 ⟨a1, c1, l, k, tt, v, a2, c2, p, t1, rfl, W, S2, ht1, N2⟩
  have W2 := AS N2
  have p6 := W.p6
  have l4 := W.l4
  have ND := l7Node_any a1 c1 l (by omega) W.ok 6 0 64 u2 (OwnS.has W.h1 (slOk_wf W.ok)) (by decide) (by decide) (by decide) (by decide)
  have H2 := W.h2
  clear W S2 N2 S1
  go_wp2_with fail
  refine ND.mono ?_
  rintro r u3 ⟨rfl, hb3⟩
  have W3 := W2.trans (hb3.mono W2.size)
  have H3 := H2.below hb3 (Nat.le_refl _)
  clear H2 hb3 ND
  go_wp2
  refine bodyPost_ret (v := .tuple #[.int .i64 k, .bool tt, .int .i64 v, .slice a2 p.length c2, .int .i64 (mpN l 6 0)]) (by simp [results, Tryd.results11, go_sem]) rfl ⟨k, tt, v, a2, c2, p, _, rfl, p6, H3, W3⟩

set_option maxHeartbeats 2000000 in
theorem drawMapClash_any (w : World) (a : Option Addr) (len cap : Nat) (zs : List Int) (h : Has w .u8 a len zs) (hl : len ≤ 1048576) :
    Calls Tryd.prog 22 #[.slice a len cap] w fun e w' => ∃ (a1 : Option Addr) (c1 : Nat) (l : List Sl) (k : Int) (tt : Bool) (v : Int) (a2 : Option Addr) (c2 : Nat) (p : List Int), e = .returned (.tuple #[.slice a1 l.length c1, .int .i64 k, .bool tt, .int .i64 v, .slice a2 p.length c2]) ∧ l.length ≤ 13 ∧ (0 ≤ k ∧ k ≤ 64) ∧ p.length ≤ 6 ∧ (p.length ≤ c2 ∧ c2 ≤ maxLen) ∧ HasS w' a1 l ∧ Has w' .i64 a2 p.length p ∧ Below w.heap.size w w' := by
  go_enter Tryd.func22, Tryd.ntmps22
  go_wp2_with fail
  refine (source_any _ a len cap zs h hl).mono ?_
  rintro e u1 ⟨rfl, S1, hb1, hs1⟩
  obtain ⟨u0, hu0⟩ : ∃ u0, u0 = w.heap.size := ⟨_, rfl⟩
  have AS : ∀ {w2 : World}, Only u0 u1 w2 → Below w.heap.size w w2 := fun {w2} ho => after_source hb1 (by rw [← hu0]; exact ho)
  rw [← hu0] at S1 hs1 ⊢
  clear hu0
  go_wp2_with fail
  refine (l7With_any _ _ _ a len cap zs 0 S1 (by omega)).mono ?_
  rintro e u2 ⟨a1, c1, l, k, tt, v, a2, c2, p, t1, rfl, W, S2, ht1, N2⟩
  have z2 := N2.size
  clear S1
  go_wp2_with fail
  refine (chance_any _ _ _ a len cap zs _ 14 S2 (by omega) (by omega) (by omega)).mono ?_
  rintro e u3 ⟨c, rfl, S3, Y3⟩
  have W3 := W.only Y3 hs1
  have N3 := N2.trans Y3
  have p6 := W3.p6
  have l4 := W3.l4
  have kb := W3.kb
  have cp := W3.cp
  clear W S2 N2 Y3
  cases c with
  | false =>
    have H1 := OwnS.has W3.h1 (slOk_wf W3.ok)
    have H2 := W3.h2
    have WE := AS N3
    clear W3 S3 N3
    go_wp2
    refine bodyPost_ret (v := .tuple #[.slice a1 l.length c1, .int .i64 k, .bool tt, .int .i64 v, .slice a2 p.length c2]) (by simp [results, Tryd.results22, go_sem]) rfl ⟨a1, c1, l, k, tt, v, a2, c2, p, rfl, by omega, kb, p6, cp, H1, H2, WE⟩
  | true =>
    go_wp2_with fail
    refine (l7Bent_any _ _ _ a len cap zs _ S3 (by omega)).mono ?_
    rintro e u4 ⟨a4, c4, m, t4, rfl, l13, wf, P4, S4, ht4, Y4⟩
    have W4 := W3.only Y4 hs1
    have N4 := N3.trans Y4
    have H1 := OwnS.has P4 wf
    have H2 := W4.h2
    have WE := AS N4
    clear W3 S3 N3 W4 N4 Y4 P4 wf
    go_wp2
    refine bodyPost_ret (v := .tuple #[.slice a4 m.length c4, .int .i64 k, .bool tt, .int .i64 v, .slice a2 p.length c2]) (by simp [results, Tryd.results22, go_sem]) rfl ⟨a4, c4, m, k, tt, v, a2, c2, p, rfl, l13, kb, p6, cp, H1, H2, WE⟩

set_option maxHeartbeats 4000000 in
theorem drawPutSlot_any (w0 : World) (a : Option Addr) (len cap : Nat) (zs : List Int) (h0 : Has w0 .u8 a len zs) (hl : len ≤ 1048576) :
    Calls Tryd.prog 24 #[.slice a len cap] w0 fun e w' => ∃ (a1 : Option Addr) (c1 : Nat) (l : List Sl) (x y : Int), e = .returned (.tuple #[.slice a1 l.length c1, .agg #[.int .i64 x, .int .i64 y]]) ∧ l.length ≤ 13 ∧ (0 ≤ x ∧ x ≤ 64) ∧ (7 ≤ y ∧ y ≤ 65521) ∧ HasS w' a1 l ∧ Below w0.heap.size w0 w' := by
  obtain ⟨i0, hi, hz0, hz1, hz2⟩ := info_parts infoSp
  obtain ⟨w, hw⟩ : ∃ w, w = w0.alloc (.cells #[.int .i64 0, .int .i64 0] 50) := ⟨_, rfl⟩
  have B0 : Below w0.heap.size w0 w := by rw [hw]; exact (Below.refl _ _).alloc (Nat.le_refl _) _
  have RE : Blk w w0.heap.size #[.int .i64 0, .int .i64 0] 50 := by rw [hw]; exact Blk.new _ _ _
  have h := h0.below B0 (Nat.le_refl _)
  clear h0
  go_enter Tryd.func24, Tryd.ntmps24
  go_wp2_with fail
  simp only [← hw]
  clear hw
  refine (source_any _ a len cap zs h hl).mono ?_
  rintro e u1 ⟨rfl, S1, hb1, hs1⟩
  obtain ⟨u0, hu0⟩ : ∃ u0, u0 = w.heap.size := ⟨_, rfl⟩
  have AS : Hid (∀ w2 : World, Only u0 u1 w2 → Below w.heap.size w w2) := fun w2 ho => after_source hb1 (by rw [← hu0]; exact ho)
  rw [← hu0] at S1 hs1 ⊢
  have zz : w0.heap.size < u1.heap.size := Nat.lt_of_lt_of_le RE.lt hb1.size
  clear hu0
  go_wp2_with fail
  refine (l7Bent_any _ _ _ a len cap zs 0 S1 (by omega)).mono ?_
  rintro e u2 ⟨a1, c1, l, t1, rfl, l13, wf, P2, S2, ht1, N2⟩
  clear S1
  go_wp2_with fail
  refine (chance_any _ _ _ a len cap zs _ 6 S2 (by omega) (by omega) (by omega)).mono ?_
  rintro e u3 ⟨c, rfl, S3, Y3⟩
  have P3 : OwnS u3 u1.heap.size (.slice a1 l.length c1) l := own_only P2 Y3 hs1
  have N3 := N2.trans Y3
  have WF : Hid (WfS l) := wf
  clear S2 N2 Y3 P2 wf
  have REH : Hid (Blk w w0.heap.size #[.int .i64 0, .int .i64 0] 50) := RE
  cases c with
  | false =>
    have PH : Hid (∀ i, i < ([0, 1, 5, 63, 64] : List Int).length → (u3.alloc (.cells #[.int .i64 0, .int .i64 1, .int .i64 5, .int .i64 63, .int .i64 64] 2)).cell? ⟨u3.heap.size, i, none⟩ = some (.int .i64 (([0, 1, 5, 63, 64] : List Int).getD i 0))) := cells_lit u3 [0, 1, 5, 63, 64] 2 _ rfl
    go_wp2_with fail
    refine (pick_any _ _ _ a len cap zs _ (S3.alloc _) (by omega) u3.heap.size [0, 1, 5, 63, 64] 5 rfl (by simp) (by have := S3.lt; omega) (by omega) (by omega) 5 PH.out).mono ?_
    rintro e u5 ⟨x, rfl, hp5, S5, Y5⟩
    clear PH
    have xb : 0 ≤ x ∧ x ≤ 64 := by simp at hp5; omega
    have P5 : OwnS u5 u1.heap.size (.slice a1 (l).length c1) (l) := own_only (own2_below P3 ((Below.refl _ _).alloc (Nat.le_refl _) _)) Y5 hs1
    have N5 := (Only.alloc N3 (.cells #[.int .i64 0, .int .i64 1, .int .i64 5, .int .i64 63, .int .i64 64] 2)).trans Y5
    clear P3 S3 N3 Y5 hp5
    have PH : Hid (∀ i, i < ([7, 65520, 65521] : List Int).length → (u5.alloc (.cells #[.int .i64 7, .int .i64 65520, .int .i64 65521] 2)).cell? ⟨u5.heap.size, i, none⟩ = some (.int .i64 (([7, 65520, 65521] : List Int).getD i 0))) := cells_lit u5 [7, 65520, 65521] 2 _ rfl
    go_wp2_with fail
    refine (pick_any _ _ _ a len cap zs _ (S5.alloc _) (by omega) u5.heap.size [7, 65520, 65521] 3 rfl (by simp) (by have := S5.lt; omega) (by omega) (by omega) 3 PH.out).mono ?_
    rintro e u6 ⟨y, rfl, hp6, S6, Y6⟩
    clear PH
    have yb : 7 ≤ y ∧ y ≤ 65521 := by simp at hp6; omega
    have P6 : OwnS u6 u1.heap.size (.slice a1 (l).length c1) (l) := own_only (own2_below P5 ((Below.refl _ _).alloc (Nat.le_refl _) _)) Y6 hs1
    have N6 := (N5.alloc (.cells #[.int .i64 7, .int .i64 65520, .int .i64 65521] 2)).trans Y6
    have W6 := AS.out _ N6
    have R6 := REH.out.below W6 REH.out.lt
    have k0 : u6.cell? ⟨w0.heap.size, 0, none⟩ = some (.int .i64 0) := (R6.cell 0).trans rfl
    have k1 : u6.cell? ⟨w0.heap.size, 1, none⟩ = some (.int .i64 0) := (R6.cell 1).trans rfl
    have f0 := R6.frozen 0
    have f1 := R6.frozen 1
    have PH : Hid (OwnS u6 u1.heap.size (.slice a1 (l).length c1) (l)) := P6
    have WH : Hid (Below w0.heap.size w0 u6) := B0.trans (W6.mono B0.size)
    clear P5 S5 N5 Y6 hp6 P6 N6 W6 R6 RE S6
    go_wp2
    refine bodyPost_ret (v := .tuple #[.slice a1 (l).length c1, .agg #[.int .i64 x, .int .i64 y]]) (by simp [results, Tryd.results24, go_sem, k0, k1]) rfl ⟨a1, c1, l, x, y, rfl, l13, xb, yb, ?_, ?_⟩
    · exact OwnS.has (own2_set (own2_set PH.out zz _) zz _) WF.out
    · exact (WH.out.setCell (Nat.le_refl _) _).setCell (Nat.le_refl _) _
  | true =>
    have P0 : OwnS u3 u1.heap.size (.slice none 0 0) [] := nil_ownS _ _
    clear P3 l13 WF
    go_wp2
    go_loopw [5, 6] (fun v kk wr => ∃ (j : Nat) (m : List Sl), kk = .int .i64 j ∧ j ≤ 12 ∧ m.length = j ∧ WfS m ∧ OwnS wr u1.heap.size v m ∧ SrcAt wr u0 u0 a len cap zs ((t1 + 1)) ∧ Only u0 u1 wr) (fun _ kk _ => 12 - (intOf kk).toNat)
    case atStart => exact ⟨0, [], rfl, by omega, rfl, by simp [WfS], P0, S3, N3⟩
    case round =>
      clear P0 S3 N3
      obtain ⟨j, m, rfl, hj, hm, wm, P, S, N⟩ := hrel
      obtain ⟨va, vc, rfl, hvc⟩ := own2_shape P
      have WM : Hid (WfS m) := wm
      clear wm
      have ML : Hid (m.length = j) := hm
      by_cases hlt : j < 12
      · have hlt' : (j : Int) < 12 := by omega
        have lm : m.length ≤ 11 := by omega
        have zN := N.size
        have WX : Hid (WfS (m ++ [(2 * (j : Int), (0 : Int))])) := fun r hr => by
          simp at hr
          rcases hr with hr | rfl
          · exact WM.out r hr
          · exact ⟨WalkArith.wf_i64 (by omega), rfl⟩
        clear hm
        go_wp2_with (at_builtin; refine wpList_append_own _ rfl _ _ 24 rfl u1.heap.size 50 i0 (.agg #[.int .i64 0, .int .i64 0]) 2 16 Tryd.underlying24 hi hz0 hz1 hz2 rfl (by decide) _ _ _ rfl (P.alloc _) ⟨wr.heap.size, 0, none⟩ 1 1 [.int .i64 (2 * (j : Int)), .int .i64 0] rfl rfl (two_new _ _ _ _) (by intro u hu; simp at hu; rcases hu with rfl | rfl <;> rfl) (by unfold maxLen; omega) (by omega) (by simp; omega) ?_; intro v' w3 hown3 hgrow _h4)
        have hbel : Below u1.heap.size (wr.alloc (.cells #[.int .i64 (2 * (j : Int)), .int .i64 0] 50)) w3 := (Below.refl _ _).grown hgrow (by simp; omega) (fun k hk => (P.lt k hk).1)
        have bA : Below wr.heap.size wr (wr.alloc (.cells #[.int .i64 (2 * (j : Int)), .int .i64 0] 50)) := (Below.refl _ _).alloc (Nat.le_refl _) _
        have P5 : Hid (OwnS w3 u1.heap.size v' (m ++ [(2 * (j : Int), (0 : Int))])) := app_own hown3
        have S5 := (S.below bA).below' hbel hs1
        have N5 := (N.alloc _).then_below hbel
        have LX : Hid ((m ++ [(2 * (j : Int), (0 : Int))]).length = j + 1) := by show _ = _; simp; exact ML.out
        clear hgrow hown3 _h4 hbel bA P S N
        go_wp2
        go_roundw
        case rel => exact ⟨j + 1, _, by go_num, by omega, LX.out, WX.out, P5.out, S5, N5⟩
        case measure => simp [intOf]; omega
      · have WF : Hid (WfS m) := WM.out
        have l13 : m.length ≤ 13 := by omega
        have hlt' : ¬ (j : Int) < 12 := by omega
        clear hm
        have PH : Hid (∀ i, i < ([0, 1, 5, 63, 64] : List Int).length → (wr.alloc (.cells #[.int .i64 0, .int .i64 1, .int .i64 5, .int .i64 63, .int .i64 64] 2)).cell? ⟨wr.heap.size, i, none⟩ = some (.int .i64 (([0, 1, 5, 63, 64] : List Int).getD i 0))) := cells_lit wr [0, 1, 5, 63, 64] 2 _ rfl
        go_wp2_with fail
        refine (pick_any _ _ _ a len cap zs _ (S.alloc _) (by omega) wr.heap.size [0, 1, 5, 63, 64] 5 rfl (by simp) (by have := S.lt; omega) (by omega) (by omega) 5 PH.out).mono ?_
        rintro e u5 ⟨x, rfl, hp5, S5, Y5⟩
        clear PH
        have xb : 0 ≤ x ∧ x ≤ 64 := by simp at hp5; omega
        have P5 : OwnS u5 u1.heap.size (.slice va (m).length vc) (m) := own_only (own2_below P ((Below.refl _ _).alloc (Nat.le_refl _) _)) Y5 hs1
        have N5 := (Only.alloc N (.cells #[.int .i64 0, .int .i64 1, .int .i64 5, .int .i64 63, .int .i64 64] 2)).trans Y5
        clear P S N Y5 hp5
        have PH : Hid (∀ i, i < ([7, 65520, 65521] : List Int).length → (u5.alloc (.cells #[.int .i64 7, .int .i64 65520, .int .i64 65521] 2)).cell? ⟨u5.heap.size, i, none⟩ = some (.int .i64 (([7, 65520, 65521] : List Int).getD i 0))) := cells_lit u5 [7, 65520, 65521] 2 _ rfl
        go_wp2_with fail
        refine (pick_any _ _ _ a len cap zs _ (S5.alloc _) (by omega) u5.heap.size [7, 65520, 65521] 3 rfl (by simp) (by have := S5.lt; omega) (by omega) (by omega) 3 PH.out).mono ?_
        rintro e u6 ⟨y, rfl, hp6, S6, Y6⟩
        clear PH
        have yb : 7 ≤ y ∧ y ≤ 65521 := by simp at hp6; omega
        have P6 : OwnS u6 u1.heap.size (.slice va (m).length vc) (m) := own_only (own2_below P5 ((Below.refl _ _).alloc (Nat.le_refl _) _)) Y6 hs1
        have N6 := (N5.alloc (.cells #[.int .i64 7, .int .i64 65520, .int .i64 65521] 2)).trans Y6
        have W6 := AS.out _ N6
        have R6 := REH.out.below W6 REH.out.lt
        have k0 : u6.cell? ⟨w0.heap.size, 0, none⟩ = some (.int .i64 0) := (R6.cell 0).trans rfl
        have k1 : u6.cell? ⟨w0.heap.size, 1, none⟩ = some (.int .i64 0) := (R6.cell 1).trans rfl
        have f0 := R6.frozen 0
        have f1 := R6.frozen 1
        have PH : Hid (OwnS u6 u1.heap.size (.slice va (m).length vc) (m)) := P6
        have WH : Hid (Below w0.heap.size w0 u6) := B0.trans (W6.mono B0.size)
        clear P5 S5 N5 Y6 hp6 P6 N6 W6 R6 RE S6
        go_wp2
        refine bodyPost_ret (v := .tuple #[.slice va (m).length vc, .agg #[.int .i64 x, .int .i64 y]]) (by simp [results, Tryd.results24, go_sem, k0, k1]) rfl ⟨va, vc, m, x, y, rfl, l13, xb, yb, ?_, ?_⟩
        · exact OwnS.has (own2_set (own2_set PH.out zz _) zz _) WF.out
        · exact (WH.out.setCell (Nat.le_refl _) _).setCell (Nat.le_refl _) _

end Go.Proofs.YtjkehgnelfgoaaaDoor
