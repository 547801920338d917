/- Contracts: the model's draws of slots, and of slots that are bent. -/
import Derived.Test.YtjkehgnelfgoaaaDoorSPut
import Derived.Test.YtjkehgnelfgoaaaDoorSource
import Derived.Test.YtjkehgnelfgoaaaDoorLvl
import Derived.Test.YtjkehgnelfgoaaaDoorSlQ
import Derived.Test.YtjkehgnelfgoaaaDoorSlL
import Derived.Deep.DeepCutAuto
namespace Go.Proofs.YtjkehgnelfgoaaaDoor
open Go.ChangeShapes Go.WideShapes Go.ChangeAt Go.RowKit
set_option maxRecDepth 100000
set_option linter.unusedVariables false
set_option linter.unusedSimpArgs false

theorem Has.only {w w' : World} {s : Nat} {k : IntKind} {a : Option Addr} {n : Nat} {zs : List Int} (h : Has w k a n zs) (ho : Only s w w') (hn : ∀ ad, a = some ad → ad.block ≠ s) : Has w' k a n zs := by
  refine ⟨h.1, h.2.1, ?_⟩
  rcases h.2.2 with h0 | ⟨b, off, rfl, hlt, hc⟩
  · exact .inl h0
  · exact .inr ⟨b, off, rfl, Nat.lt_of_lt_of_le hlt ho.size, fun i hi => (ho.cell hlt (hn _ rfl)).trans (hc i hi)⟩
theorem slOk_wf {l : List Sl} (h : ∀ x ∈ l, slOk x = true) : WfS l := fun x hx => by
  have := slOk_iff.1 (h x hx)
  exact ⟨WalkArith.wf_i64 (by omega), WalkArith.wf_i64 (by omega)⟩
theorem slPut_len1 {l : List Sl} {s : Sl} (hr : Rises l) : (slPut l s).length ≤ l.length + 1 := by
  rw [slPut_len hr]; split <;> omega
theorem slPut_ok {l : List Sl} {s : Sl} (hr : Rises l) (h : ∀ x ∈ l, slOk x = true) (hs : slOk s = true) : ∀ x ∈ slPut l s, slOk x = true := fun x hx => by
  rcases slPut_mem hr x hx with rfl | e
  · exact hs
  · exact h x e
theorem nil_rises : Rises [] := List.Pairwise.nil

set_option maxHeartbeats 4000000 in
theorem l7Draw_any (w : World) (B s : Nat) (a : Option Addr) (len cap : Nat) (zs : List Int) (t : Nat) (h : SrcAt (w) B s a len cap zs (t)) (ht : t ≤ 100000) :
    Calls Tryd.prog 74 #[.pointer (some ⟨s, 0, none⟩)] w fun e w' => ∃ (a' : Option Addr) (c' : Nat) (l : List Sl) (t' : Nat), e = .returned (.slice a' l.length c') ∧ l.length ≤ 4 ∧ (∀ x ∈ l, slOk x = true) ∧ Rises l ∧ OwnS w' w.heap.size (.slice a' l.length c') l ∧ SrcAt (w') B s a len cap zs (t') ∧ t' ≤ t + 9 ∧ Only s w w' := by
  have hlt := h.lt
  have hown0 : (w.alloc (.cells #[] 50)).ownsRow w.heap.size 50 2 (.slice (some ⟨w.heap.size, 0, none⟩) 0 0) 0 [] := World.ownsRow_lit w #[] 0 (Nat.le_refl _) (Nat.zero_le _) rfl
  have P0 : OwnS (w.alloc (.cells #[] 50)) w.heap.size (.slice (some ⟨w.heap.size, 0, none⟩) 0 0) [] := hown0
  have N0 := (Only.refl s w).alloc (.cells #[] 50)
  have S0 := h.alloc (.cells #[] 50)
  clear h hown0
  go_enter Tryd.func74, Tryd.ntmps74
  go_wp2_with fail
  refine (next_any _ B s a len cap zs t 5 S0 (by omega) (by omega) (by omega)).mono ?_
  rintro e u1 ⟨k, rfl, k0, k1, S1, Y1⟩
  obtain ⟨j0, rfl⟩ := Int.eq_ofNat_of_zero_le k0
  have P1 := own_only P0 Y1 hlt
  have N1 := N0.trans Y1
  clear P0 N0 S0 Y1
  go_wp2
  go_loopw [3, 4] (fun v kk wr => ∃ (j : Nat) (l : List Sl), kk = .int .i64 j ∧ l.length + j ≤ 4 ∧ (∀ x ∈ l, slOk x = true) ∧ Rises l ∧ OwnS wr w.heap.size v l ∧ (∃ t' : Nat, t' + 2 * j ≤ t + 9 ∧ SrcAt (wr) B s a len cap zs (t')) ∧ Only s w wr) (fun _ kk _ => (intOf kk).toNat)
  case atStart => exact ⟨j0, [], rfl, by simp; omega, by simp, nil_rises, P1, ⟨_, by omega, S1⟩, N1⟩
  case round =>
    clear P1 S1 N1
    obtain ⟨j, l, rfl, hj4, hok, hr, hP, ⟨t', ht', hS⟩, hO⟩ := hrel
    obtain ⟨va, vc, rfl, hvc⟩ := own2_shape hP
    have OK : Hid (∀ x ∈ l, slOk x = true) := hok
    have RI : Hid (Rises l) := hr
    have zW := hO.size
    clear hok hr
    by_cases hj : 0 < j
    · have hj' : (0 : Int) < (j : Int) := by omega
      have zP := hS.lt
      have PH : Hid (∀ i, i < ([0, 1, 5, 63, 32] : List Int).length → (wr.alloc (.cells #[.int .i64 0, .int .i64 1, .int .i64 5, .int .i64 63, .int .i64 32] 2)).cell? ⟨wr.heap.size, i, none⟩ = some (.int .i64 (([0, 1, 5, 63, 32] : List Int).getD i 0))) := cells_lit wr [0, 1, 5, 63, 32] 2 _ rfl
      go_wp2_with fail
      refine (pick_any _ B s a len cap zs t' (hS.alloc _) (by omega) wr.heap.size [0, 1, 5, 63, 32] 5 rfl (by simp) (by have := hS.lt; omega) (by omega) (by omega) 5 PH.out).mono ?_
      rintro e u2 ⟨x, rfl, hp2, S2, Y2⟩
      clear PH
      have xb : 0 ≤ x ∧ x ≤ 63 := by simp at hp2; omega
      have P2 : OwnS u2 w.heap.size (.slice va l.length vc) l := own_only (own2_below hP ((Below.refl _ _).alloc (Nat.le_refl _) _)) Y2 hlt
      have N2 := (hO.alloc (.cells #[.int .i64 0, .int .i64 1, .int .i64 5, .int .i64 63, .int .i64 32] 2)).trans Y2
      clear hP hS hO Y2 hp2 zP
      go_wp2_with fail
      refine (next_wide _ B s a len cap zs _ 65521 S2 (by omega) (by omega) (by omega)).mono ?_
      rintro e u3 ⟨y, rfl, y0, y1, S3, Y3⟩
      have P3 : OwnS u3 w.heap.size (.slice va l.length vc) l := own_only P2 Y3 hlt
      have N3 := N2.trans Y3
      have H3 := OwnS.has P3 (slOk_wf OK.out)
      have z3 := N3.size
      clear P2 S2 N2 Y3 P3
      go_wp2_with fail
      refine (l7Put_any va vc l x y u3 H3 (by omega)).mono ?_
      rintro e u4 ⟨a4, c4, rfl, O4, hb4⟩
      have S4 := S3.below hb4
      have N4 := N3.then_below (hb4.mono z3)
      have P4 := own2_mono O4 z3
      have R4 : Hid (Rises (slPut l (x, y))) := slPut_rises RI.out
      have L4 := slPut_len1 (s := (x, y)) RI.out
      have K4 : Hid (∀ q ∈ slPut l (x, y), slOk q = true) := slPut_ok RI.out OK.out (slOk_iff.2 ⟨xb, by omega⟩)
      clear S3 N3 O4 hb4 H3 OK RI
      generalize slPut l (x, y) = m at *
      go_wp2
      go_roundw
      case rel => exact ⟨j - 1, m, by go_num, by omega, K4.out, R4.out, P4, ⟨_, by omega, S4⟩, N4⟩
      case measure => simp [intOf]; omega
    · have hj' : (j : Int) ≤ 0 := by omega
      go_wp2
      go_ret
      exact ⟨va, vc, l, _, rfl, by omega, OK.out, RI.out, hP, hS, by omega, hO⟩

set_option maxHeartbeats 4000000 in
theorem l7Bent_any (w : World) (B s : Nat) (a : Option Addr) (len cap : Nat) (zs : List Int) (t : Nat) (h : SrcAt (w) B s a len cap zs (t)) (ht : t ≤ 90000) :
    Calls Tryd.prog 40 #[.pointer (some ⟨s, 0, none⟩)] w fun e w' => ∃ (a' : Option Addr) (c' : Nat) (l : List Sl) (t' : Nat), e = .returned (.slice a' l.length c') ∧ l.length ≤ 13 ∧ WfS l ∧ OwnS w' w.heap.size (.slice a' l.length c') l ∧ SrcAt (w') B s a len cap zs (t') ∧ t' ≤ t + 20 ∧ Only s w w' := by
  obtain ⟨i0, hi, hz0, hz1, hz2⟩ := info_parts infoSp
  have hlt := h.lt
  go_enter Tryd.func40, Tryd.ntmps40
  go_wp2_with fail
  refine (l7Draw_any w B s a len cap zs t h (by omega)).mono ?_
  rintro e u1 ⟨a1, c1, l, t1, rfl, l4, ok, _, P1, S1, ht1, N1⟩
  have WF : Hid (WfS l) := slOk_wf ok
  clear h ok
  go_wp2_with fail
  refine (next_any _ B s a len cap zs t1 14 S1 (by omega) (by omega) (by omega)).mono ?_
  rintro e u2 ⟨q, rfl, q0, q1, S2, Y2⟩
  have P2 : OwnS u2 w.heap.size (.slice a1 l.length c1) l := own_only P1 Y2 hlt
  have N2 := N1.trans Y2
  have z2 := N2.size
  clear P1 S1 N1 Y2
  by_cases d0 : q = 0
  · have d0b : (q == 0) = true := by simpa using d0
    clear d0
    have PH : Hid (∀ i, i < ([0, 63, 64] : List Int).length → (u2.alloc (.cells #[.int .i64 0, .int .i64 63, .int .i64 64] 2)).cell? ⟨u2.heap.size, i, none⟩ = some (.int .i64 (([0, 63, 64] : List Int).getD i 0))) := cells_lit u2 [0, 63, 64] 2 _ rfl
    go_wp2_with fail
    refine (pick_any _ B s a len cap zs _ (S2.alloc _) (by omega) u2.heap.size [0, 63, 64] 3 rfl (by simp) (by have := S2.lt; omega) (by omega) (by omega) 3 PH.out).mono ?_
    rintro e u3 ⟨x, rfl, hp3, S3, Y3⟩
    clear PH
    have xb : 0 ≤ x ∧ x ≤ 64 := by simp at hp3; omega
    have P3 : OwnS u3 w.heap.size (.slice a1 l.length c1) l := own_only (own2_below P2 ((Below.refl _ _).alloc (Nat.le_refl _) _)) Y3 hlt
    have N3 := (N2.alloc (.cells #[.int .i64 0, .int .i64 63, .int .i64 64] 2)).trans Y3
    clear P2 S2 N2 Y3 hp3
    have PH : Hid (∀ i, i < ([5, 65521] : List Int).length → (u3.alloc (.cells #[.int .i64 5, .int .i64 65521] 2)).cell? ⟨u3.heap.size, i, none⟩ = some (.int .i64 (([5, 65521] : List Int).getD i 0))) := cells_lit u3 [5, 65521] 2 _ rfl
    go_wp2_with fail
    refine (pick_any _ B s a len cap zs _ (S3.alloc _) (by omega) u3.heap.size [5, 65521] 2 rfl (by simp) (by have := S3.lt; omega) (by omega) (by omega) 2 PH.out).mono ?_
    rintro e u4 ⟨y, rfl, hp4, S4, Y4⟩
    clear PH
    have yb : 5 ≤ y ∧ y ≤ 65521 := by simp at hp4; omega
    have P4 : OwnS u4 w.heap.size (.slice a1 l.length c1) l := own_only (own2_below P3 ((Below.refl _ _).alloc (Nat.le_refl _) _)) Y4 hlt
    have N4 := (N3.alloc (.cells #[.int .i64 5, .int .i64 65521] 2)).trans Y4
    have z4 := N4.size
    clear P3 S3 N3 Y4 hp4
    have WX : Hid (WfS (l ++ [(x, y)])) := fun r hr => by
      simp at hr
      rcases hr with hr | rfl
      · exact WF.out r hr
      · exact ⟨WalkArith.wf_i64 (by omega), WalkArith.wf_i64 (by omega)⟩
    go_wp2_with (at_builtin; refine wpList_append_own _ rfl _ _ 24 rfl w.heap.size 50 i0 (.agg #[.int .i64 0, .int .i64 0]) 2 16 Tryd.underlying24 hi hz0 hz1 hz2 rfl (by decide) _ _ _ rfl (P4.alloc _) ⟨u4.heap.size, 0, none⟩ 1 1 [.int .i64 x, .int .i64 y] rfl rfl (two_new _ _ _ _) (by intro u hu; simp at hu; rcases hu with rfl | rfl <;> rfl) (by unfold maxLen; omega) (by omega) (by simp; omega) ?_; intro v' w3 hown3 hgrow _h4)
    have hbel : Below w.heap.size (u4.alloc (.cells #[.int .i64 x, .int .i64 y] 50)) w3 := (Below.refl _ _).grown hgrow (by simp; omega) (fun k hk => (P4.lt k hk).1)
    have bA : Below u4.heap.size u4 (u4.alloc (.cells #[.int .i64 x, .int .i64 y] 50)) := (Below.refl _ _).alloc (Nat.le_refl _) _
    have P5 := app_own hown3
    have S5 := (S4.below bA).below' hbel hlt
    have N5 := (N4.alloc _).then_below hbel
    obtain ⟨va, vc, rfl, hvc⟩ := own2_shape P5
    have LX : (l ++ [(x, y)]).length = l.length + 1 := by simp
    have P5H : Hid (OwnS w3 w.heap.size (.slice va (l ++ [(x, y)]).length vc) (l ++ [(x, y)])) := P5
    have LXH : Hid ((l ++ [(x, y)]).length = l.length + 1) := LX
    clear hgrow hown3 _h4 hbel bA P4 S4 N4 P5 LX
    go_wp2
    go_ret
    exact ⟨va, vc, l ++ [(x, y)], _, rfl, by rw [LXH.out]; omega, WX.out, P5H.out, S5, by omega, N5⟩
  · have d0b : (q == 0) = false := by simpa using d0
    clear d0
    by_cases d1 : q = 1
    · have d1b : (q == 1) = true := by simpa using d1
      clear d1
      have HL : Hid ((madeCells (Value.agg #[.int .i64 0, .int .i64 0]).cells (13 * 2)).toList = (flat (List.replicate 13 ((0, 0) : Sl))).map (.int .i64)) := by
        show _ = _
        rw [madeS]
        rfl
      go_wp2_with (at_make; refine wpList_make_full _ rfl _ _ 24 rfl u2.heap.size 50 i0 (.agg #[.int .i64 0, .int .i64 0]) 2 Tryd.underlying24 hi hz0 hz1 _ _ _ _ 13 rfl rfl rfl rfl (by rw [hz2]; omega) (by unfold maxLen; omega) (Nat.le_refl _) ?_; intro w4 O4 hgrow4)
      rw [HL.out] at O4
      have hb4 : Below u2.heap.size u2 w4 := (Below.refl _ _).grown hgrow4 (Nat.le_refl _) (by intro k hk; cases hk)
      have S4 := S2.below hb4
      have N4 := N2.then_below (hb4.mono z2)
      have P4 : OwnS w4 w.heap.size (.slice (some ⟨u2.heap.size, 0, none⟩) (List.replicate 13 ((0, 0) : Sl)).length 13) (List.replicate 13 ((0, 0) : Sl)) := own2_mono O4 z2
      have WR : Hid (WfS (List.replicate 13 ((0, 0) : Sl))) := fun r hr => by rw [List.eq_of_mem_replicate hr]; exact ⟨rfl, rfl⟩
      clear HL hgrow4 O4 hb4 S2 N2 P2
      go_wp2
      go_ret
      exact ⟨_, _, List.replicate 13 (0, 0), _, rfl, by simp, WR.out, P4, S4, by omega, N4⟩
    · have d1b : (q == 1) = false := by simpa using d1
      clear d1
      go_wp2
      go_ret
      exact ⟨a1, c1, l, _, rfl, by omega, WF.out, P2, S2, by omega, N2⟩

end Go.Proofs.YtjkehgnelfgoaaaDoor
