/- Contracts: the model's draws of slots, and of slots that are bent. Contracts: the model's draw of slots and a proof of a key. Contracts: the model's draws of chapter 7. -/
import Derived.Test.YtjjddjohckcmbaaDoorSPut
import Derived.Test.YtjjddjohckcmbaaDoorSource
import Derived.Test.YtjjddjohckcmbaaDoorLvl
import Derived.Test.YtjjddjohckcmbaaDoorSlQ
import Derived.Test.YtjjddjohckcmbaaDoorSlL
import Derived.Deep.DeepCutAuto
import Derived.Test.YtjjddjohckcmbaaDoorSlG
import Derived.Test.YtjjddjohckcmbaaDoorSlC
namespace Go.Proofs.YtjjddjohckcmbaaDoor
open Go.ChangeShapes Go.WideShapes Go.ChangeAt Go.RowKit
set_option maxRecDepth 100000
set_option linter.unusedVariables false
set_option linter.unusedSimpArgs false

theorem Has.only {w w' : World} {s : Nat} {k : IntKind} {a : Option Addr} {n : Nat} {zs : List Int} (h : Has w k a n zs) (ho : Only s w w') (hn : ∀ ad, a = some ad → ad.block ≠ s) : Has w' k a n zs := by
  refine ⟨h.1, h.2.1, ?_⟩
  rcases h.2.2 with h0 | ⟨b, off, rfl, hlt, hc⟩
  · exact .inl h0
  · exact .inr ⟨b, off, rfl, Nat.lt_of_lt_of_le hlt ho.size, fun i hi => (ho.cell hlt (hn _ rfl)).trans (hc i hi)⟩
theorem slOk_wf {l : List Sl} (h : ∀ x ∈ l, slOk x = true) : WfS l := fun x hx => by
  have := slOk_iff.1 (h x hx)
  exact ⟨WalkArith.wf_i64 (by omega), WalkArith.wf_i64 (by omega)⟩
theorem slPut_len1 {l : List Sl} {s : Sl} (hr : Rises l) : (slPut l s).length ≤ l.length + 1 := by
  rw [slPut_len hr]; split <;> omega
theorem slPut_ok {l : List Sl} {s : Sl} (hr : Rises l) (h : ∀ x ∈ l, slOk x = true) (hs : slOk s = true) : ∀ x ∈ slPut l s, slOk x = true := fun x hx => by
  rcases slPut_mem hr x hx with rfl | e
  · exact hs
  · exact h x e
theorem nil_rises : Rises [] := List.Pairwise.nil

set_option maxHeartbeats 4000000 in
theorem l7Draw_any (w : World) (B s : Nat) (a : Option Addr) (len cap : Nat) (zs : List Int) (t : Nat) (h : SrcAt (w) B s a len cap zs (t)) (ht : t ≤ 100000) :
    Calls Tryd.prog 83 #[.pointer (some ⟨s, 0, none⟩)] w fun e w' => ∃ (a' : Option Addr) (c' : Nat) (l : List Sl) (t' : Nat), e = .returned (.slice a' l.length c') ∧ l.length ≤ 4 ∧ (∀ x ∈ l, slOk x = true) ∧ Rises l ∧ OwnS w' w.heap.size (.slice a' l.length c') l ∧ SrcAt (w') B s a len cap zs (t') ∧ t' ≤ t + 9 ∧ Only s w w' := by
  have hlt := h.lt
  have hown0 : (w.alloc (.cells #[] 50)).ownsRow w.heap.size 50 2 (.slice (some ⟨w.heap.size, 0, none⟩) 0 0) 0 [] := World.ownsRow_lit w #[] 0 (Nat.le_refl _) (Nat.zero_le _) rfl
  have P0 : OwnS (w.alloc (.cells #[] 50)) w.heap.size (.slice (some ⟨w.heap.size, 0, none⟩) 0 0) [] := hown0
  have N0 := (Only.refl s w).alloc (.cells #[] 50)
  have S0 := h.alloc (.cells #[] 50)
  clear h hown0
  go_enter Tryd.func83, Tryd.ntmps83
  go_wp2_with fail
  refine (next_any _ B s a len cap zs t 5 S0 (by omega) (by omega) (by omega)).mono ?_
  rintro e u1 ⟨k, rfl, k0, k1, S1, Y1⟩
  obtain ⟨j0, rfl⟩ := Int.eq_ofNat_of_zero_le k0
  have P1 := own_only P0 Y1 hlt
  have N1 := N0.trans Y1
  clear P0 N0 S0 Y1
  go_wp2
  go_loopw [3, 4] (fun v kk wr => ∃ (j : Nat) (l : List Sl), kk = .int .i64 j ∧ l.length + j ≤ 4 ∧ (∀ x ∈ l, slOk x = true) ∧ Rises l ∧ OwnS wr w.heap.size v l ∧ (∃ t' : Nat, t' + 2 * j ≤ t + 9 ∧ SrcAt (wr) B s a len cap zs (t')) ∧ Only s w wr) (fun _ kk _ => (intOf kk).toNat)
  case atStart => exact ⟨j0, [], rfl, by simp; omega, by simp, nil_rises, P1, ⟨_, by omega, S1⟩, N1⟩
  case round =>
    clear P1 S1 N1
    obtain ⟨j, l, rfl, hj4, hok, hr, hP, ⟨t', ht', hS⟩, hO⟩ := hrel
    obtain ⟨va, vc, rfl, hvc⟩ := own2_shape hP
    have OK : Hid (∀ x ∈ l, slOk x = true) := hok
    have RI : Hid (Rises l) := hr
    have zW := hO.size
    clear hok hr
    by_cases hj : 0 < j
    · have hj' : (0 : Int) < (j : Int) := by omega
      have zP := hS.lt
      have PH : Hid (∀ i, i < ([0, 1, 5, 63, 32] : List Int).length → (wr.alloc (.cells #[.int .i64 0, .int .i64 1, .int .i64 5, .int .i64 63, .int .i64 32] 2)).cell? ⟨wr.heap.size, i, none⟩ = some (.int .i64 (([0, 1, 5, 63, 32] : List Int).getD i 0))) := cells_lit wr [0, 1, 5, 63, 32] 2 _ rfl
      go_wp2_with fail
      refine (pick_any _ B s a len cap zs t' (hS.alloc _) (by omega) wr.heap.size [0, 1, 5, 63, 32] 5 rfl (by simp) (by have := hS.lt; omega) (by omega) (by omega) 5 PH.out).mono ?_
      rintro e u2 ⟨x, rfl, hp2, S2, Y2⟩
      clear PH
      have xb : 0 ≤ x ∧ x ≤ 63 := by simp at hp2; omega
      have P2 : OwnS u2 w.heap.size (.slice va l.length vc) l := own_only (own2_below hP ((Below.refl _ _).alloc (Nat.le_refl _) _)) Y2 hlt
      have N2 := (hO.alloc (.cells #[.int .i64 0, .int .i64 1, .int .i64 5, .int .i64 63, .int .i64 32] 2)).trans Y2
      clear hP hS hO Y2 hp2 zP
      go_wp2_with fail
      refine (next_wide _ B s a len cap zs _ 65521 S2 (by omega) (by omega) (by omega)).mono ?_
      rintro e u3 ⟨y, rfl, y0, y1, S3, Y3⟩
      have P3 : OwnS u3 w.heap.size (.slice va l.length vc) l := own_only P2 Y3 hlt
      have N3 := N2.trans Y3
      have H3 := OwnS.has P3 (slOk_wf OK.out)
      have z3 := N3.size
      clear P2 S2 N2 Y3 P3
      go_wp2_with fail
      refine (l7Put_any va vc l x y u3 H3 (by omega)).mono ?_
      rintro e u4 ⟨a4, c4, rfl, O4, hb4⟩
      have S4 := S3.below hb4
      have N4 := N3.then_below (hb4.mono z3)
      have P4 := own2_mono O4 z3
      have R4 : Hid (Rises (slPut l (x, y))) := slPut_rises RI.out
      have L4 := slPut_len1 (s := (x, y)) RI.out
      have K4 : Hid (∀ q ∈ slPut l (x, y), slOk q = true) := slPut_ok RI.out OK.out (slOk_iff.2 ⟨xb, by omega⟩)
      clear S3 N3 O4 hb4 H3 OK RI
      generalize slPut l (x, y) = m at *
      go_wp2
      go_roundw
      case rel => exact ⟨j - 1, m, by go_num, by omega, K4.out, R4.out, P4, ⟨_, by omega, S4⟩, N4⟩
      case measure => simp [intOf]; omega
    · have hj' : (j : Int) ≤ 0 := by omega
      go_wp2
      go_ret
      exact ⟨va, vc, l, _, rfl, by omega, OK.out, RI.out, hP, hS, by omega, hO⟩

set_option maxHeartbeats 4000000 in
theorem l7Bent_any (w : World) (B s : Nat) (a : Option Addr) (len cap : Nat) (zs : List Int) (t : Nat) (h : SrcAt (w) B s a len cap zs (t)) (ht : t ≤ 90000) :
    Calls Tryd.prog 48 #[.pointer (some ⟨s, 0, none⟩)] w fun e w' => ∃ (a' : Option Addr) (c' : Nat) (l : List Sl) (t' : Nat), e = .returned (.slice a' l.length c') ∧ l.length ≤ 13 ∧ WfS l ∧ OwnS w' w.heap.size (.slice a' l.length c') l ∧ SrcAt (w') B s a len cap zs (t') ∧ t' ≤ t + 20 ∧ Only s w w' := by
  obtain ⟨i0, hi, hz0, hz1, hz2⟩ := info_parts infoSp
  have hlt := h.lt
  go_enter Tryd.func48, Tryd.ntmps48
  go_wp2_with fail
  refine (l7Draw_any w B s a len cap zs t h (by omega)).mono ?_
  rintro e u1 ⟨a1, c1, l, t1, rfl, l4, ok, _, P1, S1, ht1, N1⟩
  have WF : Hid (WfS l) := slOk_wf ok
  clear h ok
  go_wp2_with fail
  refine (next_any _ B s a len cap zs t1 14 S1 (by omega) (by omega) (by omega)).mono ?_
  rintro e u2 ⟨q, rfl, q0, q1, S2, Y2⟩
  have P2 : OwnS u2 w.heap.size (.slice a1 l.length c1) l := own_only P1 Y2 hlt
  have N2 := N1.trans Y2
  have z2 := N2.size
  clear P1 S1 N1 Y2
  by_cases d0 : q = 0
  · have d0b : (q == 0) = true := by simpa using d0
    clear d0
    have PH : Hid (∀ i, i < ([0, 63, 64] : List Int).length → (u2.alloc (.cells #[.int .i64 0, .int .i64 63, .int .i64 64] 2)).cell? ⟨u2.heap.size, i, none⟩ = some (.int .i64 (([0, 63, 64] : List Int).getD i 0))) := cells_lit u2 [0, 63, 64] 2 _ rfl
    go_wp2_with fail
    refine (pick_any _ B s a len cap zs _ (S2.alloc _) (by omega) u2.heap.size [0, 63, 64] 3 rfl (by simp) (by have := S2.lt; omega) (by omega) (by omega) 3 PH.out).mono ?_
    rintro e u3 ⟨x, rfl, hp3, S3, Y3⟩
    clear PH
    have xb : 0 ≤ x ∧ x ≤ 64 := by simp at hp3; omega
    have P3 : OwnS u3 w.heap.size (.slice a1 l.length c1) l := own_only (own2_below P2 ((Below.refl _ _).alloc (Nat.le_refl _) _)) Y3 hlt
    have N3 := (N2.alloc (.cells #[.int .i64 0, .int .i64 63, .int .i64 64] 2)).trans Y3
    clear P2 S2 N2 Y3 hp3
    have PH : Hid (∀ i, i < ([5, 65521] : List Int).length → (u3.alloc (.cells #[.int .i64 5, .int .i64 65521] 2)).cell? ⟨u3.heap.size, i, none⟩ = some (.int .i64 (([5, 65521] : List Int).getD i 0))) := cells_lit u3 [5, 65521] 2 _ rfl
    go_wp2_with fail
    refine (pick_any _ B s a len cap zs _ (S3.alloc _) (by omega) u3.heap.size [5, 65521] 2 rfl (by simp) (by have := S3.lt; omega) (by omega) (by omega) 2 PH.out).mono ?_
    rintro e u4 ⟨y, rfl, hp4, S4, Y4⟩
    clear PH
    have yb : 5 ≤ y ∧ y ≤ 65521 := by simp at hp4; omega
    have P4 : OwnS u4 w.heap.size (.slice a1 l.length c1) l := own_only (own2_below P3 ((Below.refl _ _).alloc (Nat.le_refl _) _)) Y4 hlt
    have N4 := (N3.alloc (.cells #[.int .i64 5, .int .i64 65521] 2)).trans Y4
    have z4 := N4.size
    clear P3 S3 N3 Y4 hp4
    have WX : Hid (WfS (l ++ [(x, y)])) := fun r hr => by
      simp at hr
      rcases hr with hr | rfl
      · exact WF.out r hr
      · exact ⟨WalkArith.wf_i64 (by omega), WalkArith.wf_i64 (by omega)⟩
    go_wp2_with (at_builtin; refine wpList_append_own _ rfl _ _ 24 rfl w.heap.size 50 i0 (.agg #[.int .i64 0, .int .i64 0]) 2 16 Tryd.underlying24 hi hz0 hz1 hz2 rfl (by decide) _ _ _ rfl (P4.alloc _) ⟨u4.heap.size, 0, none⟩ 1 1 [.int .i64 x, .int .i64 y] rfl rfl (two_new _ _ _ _) (by intro u hu; simp at hu; rcases hu with rfl | rfl <;> rfl) (by unfold maxLen; omega) (by omega) (by simp; omega) ?_; intro v' w3 hown3 hgrow _h4)
    have hbel : Below w.heap.size (u4.alloc (.cells #[.int .i64 x, .int .i64 y] 50)) w3 := (Below.refl _ _).grown hgrow (by simp; omega) (fun k hk => (P4.lt k hk).1)
    have bA : Below u4.heap.size u4 (u4.alloc (.cells #[.int .i64 x, .int .i64 y] 50)) := (Below.refl _ _).alloc (Nat.le_refl _) _
    have P5 := app_own hown3
    have S5 := (S4.below bA).below' hbel hlt
    have N5 := (N4.alloc _).then_below hbel
    obtain ⟨va, vc, rfl, hvc⟩ := own2_shape P5
    have LX : (l ++ [(x, y)]).length = l.length + 1 := by simp
    have P5H : Hid (OwnS w3 w.heap.size (.slice va (l ++ [(x, y)]).length vc) (l ++ [(x, y)])) := P5
    have LXH : Hid ((l ++ [(x, y)]).length = l.length + 1) := LX
    clear hgrow hown3 _h4 hbel bA P4 S4 N4 P5 LX
    go_wp2
    go_ret
    exact ⟨va, vc, l ++ [(x, y)], _, rfl, by rw [LXH.out]; omega, WX.out, P5H.out, S5, by omega, N5⟩
  · have d0b : (q == 0) = false := by simpa using d0
    clear d0
    by_cases d1 : q = 1
    · have d1b : (q == 1) = true := by simpa using d1
      clear d1
      have HL : Hid ((madeCells (Value.agg #[.int .i64 0, .int .i64 0]).cells (13 * 2)).toList = (flat (List.replicate 13 ((0, 0) : Sl))).map (.int .i64)) := by
        show _ = _
        rw [madeS]
        rfl
      go_wp2_with (at_make; refine wpList_make_full _ rfl _ _ 24 rfl u2.heap.size 50 i0 (.agg #[.int .i64 0, .int .i64 0]) 2 Tryd.underlying24 hi hz0 hz1 _ _ _ _ 13 rfl rfl rfl rfl (by rw [hz2]; omega) (by unfold maxLen; omega) (Nat.le_refl _) ?_; intro w4 O4 hgrow4)
      rw [HL.out] at O4
      have hb4 : Below u2.heap.size u2 w4 := (Below.refl _ _).grown hgrow4 (Nat.le_refl _) (by intro k hk; cases hk)
      have S4 := S2.below hb4
      have N4 := N2.then_below (hb4.mono z2)
      have P4 : OwnS w4 w.heap.size (.slice (some ⟨u2.heap.size, 0, none⟩) (List.replicate 13 ((0, 0) : Sl)).length 13) (List.replicate 13 ((0, 0) : Sl)) := own2_mono O4 z2
      have WR : Hid (WfS (List.replicate 13 ((0, 0) : Sl))) := fun r hr => by rw [List.eq_of_mem_replicate hr]; exact ⟨rfl, rfl⟩
      clear HL hgrow4 O4 hb4 S2 N2 P2
      go_wp2
      go_ret
      exact ⟨_, _, List.replicate 13 (0, 0), _, rfl, by simp, WR.out, P4, S4, by omega, N4⟩
    · have d1b : (q == 1) = false := by simpa using d1
      clear d1
      go_wp2
      go_ret
      exact ⟨a1, c1, l, _, rfl, by omega, WF.out, P2, S2, by omega, N2⟩

end Go.Proofs.YtjjddjohckcmbaaDoor

namespace Go.Proofs.YtjjddjohckcmbaaDoor
open Go.ChangeShapes Go.WideShapes Go.ChangeAt Go.RowKit
set_option maxRecDepth 100000
set_option linter.unusedVariables false
set_option linter.unusedSimpArgs false

/-- What is drawn: slots, a key, a value, a path. -/
structure WiA (w : World) (lo : Nat) (l : List Sl) (a1 : Option Addr) (c1 : Nat) (k v : Int) (a2 : Option Addr) (c2 : Nat) (p : List Int) : Prop where
  l4 : l.length ≤ 4
  ok : ∀ x ∈ l, slOk x = true
  ris : Rises l
  h1 : OwnS w lo (.slice a1 l.length c1) l
  kb : 0 ≤ k ∧ k ≤ 64
  vb : 0 ≤ v ∧ v ≤ 65521
  p6 : p.length ≤ 6
  cp : p.length ≤ c2 ∧ c2 ≤ maxLen
  h2 : Has w .i64 a2 p.length p
  b2 : ∀ ad, a2 = some ad → lo ≤ ad.block
theorem WiA.below {w w' : World} {lo c1 c2 : Nat} {l : List Sl} {a1 a2 : Option Addr} {k v : Int} {p : List Int} (h : WiA w lo l a1 c1 k v a2 c2 p) (hb : Below w.heap.size w w') : WiA w' lo l a1 c1 k v a2 c2 p :=
  ⟨h.l4, h.ok, h.ris, own2_below h.h1 hb, h.kb, h.vb, h.p6, h.cp, h.h2.below hb (Nat.le_refl _), h.b2⟩
theorem WiA.only {w w' : World} {s lo c1 c2 : Nat} {l : List Sl} {a1 a2 : Option Addr} {k v : Int} {p : List Int} (h : WiA w lo l a1 c1 k v a2 c2 p) (ho : Only s w w') (hs : s < lo) : WiA w' lo l a1 c1 k v a2 c2 p :=
  ⟨h.l4, h.ok, h.ris, own_only h.h1 ho hs, h.kb, h.vb, h.p6, h.cp, h.h2.only ho (fun ad e => by have := h.b2 ad e; omega), h.b2⟩
theorem own_form7 {w : World} {base e n c : Nat} {a : Option Addr} {xs : List Value} (h : w.ownsRow base e 1 (.slice a n c) n xs) (hn : n = 6) : ∃ g, a = some ⟨g, 0, none⟩ ∧ base ≤ g ∧ g < w.heap.size ∧ 6 ≤ c ∧ c ≤ maxLen := by
  subst hn
  rcases h.2 with ⟨_, h0⟩ | ⟨g, cap, cur, hv, hb, hg, h1, h2, _⟩
  · omega
  · simp at hv
    obtain ⟨rfl, rfl⟩ := hv
    exact ⟨g, rfl, hb, (Array.getElem?_eq_some_iff.1 hg).1, h1, h2⟩
theorem hasP7 {w : World} {base c g : Nat} {P : List Int} (h : w.ownsRow base 2 1 (.slice (some ⟨g, 0, none⟩) 6 c) 6 (P.map (.int .i64))) (hw : ∀ n ∈ P, (Lit.int .i64 n).wf = true) (h6 : P.length = 6) : Has w .i64 (some ⟨g, 0, none⟩) P.length P := by
  have h' : w.ownsRow base 2 1 (.slice (some ⟨g, 0, none⟩) P.length c) P.length (P.map (.int .i64)) := by rw [h6]; exact h
  exact has_of_own h' hw
theorem hasT7 {w : World} {base c g : Nat} {P : List Int} (h : w.ownsRow base 2 1 (.slice (some ⟨g, 0, none⟩) 6 c) 6 (P.map (.int .i64))) (hw : ∀ n ∈ P, (Lit.int .i64 n).wf = true) (h6 : P.length = 6) : Has w .i64 (some ⟨g, 1, none⟩) (P.drop 1).length (P.drop 1) := by
  obtain ⟨e1, e2, e3⟩ := hasP7 h hw h6
  refine ⟨rfl, fun n hn => hw n (List.mem_of_mem_drop hn), .inr ?_⟩
  rcases e3 with h0 | ⟨b, off, e, hlt, hc⟩
  · omega
  · simp at e
    obtain ⟨rfl, rfl⟩ := e
    refine ⟨g, 1, rfl, hlt, fun i hi => ?_⟩
    have := hc (1 + i) (by simp at hi; omega)
    rw [show 0 + (1 + i) = 1 + i by omega] at this
    rw [this]
    simp [List.getD, List.getElem?_drop, Nat.add_comm]
theorem wf_set7 {l : List Int} (h : ∀ n ∈ l, (Lit.int .i64 n).wf = true) (k : Nat) {x : Int} (hx : (Lit.int .i64 x).wf = true) : ∀ n ∈ l.set k x, (Lit.int .i64 n).wf = true := by
  intro n hn
  rcases List.mem_or_eq_of_mem_set hn with c | c
  · exact h n c
  · rw [c]; exact hx
theorem cell7 {w : World} {base c g : Nat} {P : List Int} (h : w.ownsRow base 2 1 (.slice (some ⟨g, 0, none⟩) 6 c) 6 (P.map (.int .i64))) (h6 : P.length = 6) {j : Nat} (hj : j < 6) (v : Value) (y : Int) (hv : v = .int .i64 y) : w.cell? ⟨g, j, none⟩ = some (.int .i64 (P.getD j 0)) ∧ w.frozen? ⟨g, j, none⟩ = false ∧ (w.setCell ⟨g, j, none⟩ v).ownsRow base 2 1 (.slice (some ⟨g, 0, none⟩) 6 c) 6 ((P.set j y).map (.int .i64)) := by
  subst hv
  refine ⟨(h.cellAt j (by simp; omega)).trans ?_, h.frozenAt j, ?_⟩
  · rw [List.getElem?_map, List.getElem?_eq_getElem (show j < P.length by omega)]
    simp [List.getD, List.getElem?_eq_getElem (show j < P.length by omega)]
  · rw [List.map_set]
    exact (h.stored j (.int .i64 y)).1

set_option maxHeartbeats 8000000 in
theorem l7With_any (w : World) (B s : Nat) (a : Option Addr) (len cap : Nat) (zs : List Int) (t : Nat) (h : SrcAt (w) B s a len cap zs (t)) (ht : t ≤ 80000) :
    Calls Tryd.prog 53 #[.pointer (some ⟨s, 0, none⟩)] w fun e w' => ∃ (a1 : Option Addr) (c1 : Nat) (l : List Sl) (k : Int) (tt : Bool) (v : Int) (a2 : Option Addr) (c2 : Nat) (p : List Int) (t' : Nat), e = .returned (.tuple #[.slice a1 l.length c1, .int .i64 k, .bool tt, .int .i64 v, .slice a2 p.length c2]) ∧ WiA w' w.heap.size l a1 c1 k v a2 c2 p ∧ SrcAt (w') B s a len cap zs (t') ∧ t' ≤ t + 20 ∧ Only s w w' := by
  have hlt := h.lt
  go_enter Tryd.func53, Tryd.ntmps53
  go_wp2_with fail
  refine (l7Draw_any w B s a len cap zs t h (by omega)).mono ?_
  rintro e u1 ⟨a1, c1, l, t1, rfl, l4, ok, ri, P1, S1, ht1, N1⟩
  clear h
  have PH : Hid (∀ i, i < ([0, 1, 5, 63, 33] : List Int).length → (u1.alloc (.cells #[.int .i64 0, .int .i64 1, .int .i64 5, .int .i64 63, .int .i64 33] 2)).cell? ⟨u1.heap.size, i, none⟩ = some (.int .i64 (([0, 1, 5, 63, 33] : List Int).getD i 0))) := cells_lit u1 [0, 1, 5, 63, 33] 2 _ rfl
  go_wp2_with fail
  refine (pick_any _ B s a len cap zs t1 (S1.alloc _) (by omega) u1.heap.size [0, 1, 5, 63, 33] 5 rfl (by simp) (by have := S1.lt; omega) (by omega) (by omega) 5 PH.out).mono ?_
  rintro e u2 ⟨k, rfl, hp2, S2, Y2⟩
  clear PH
  have kb' : 0 ≤ k ∧ k ≤ 63 := by simp at hp2; omega
  have kb : 0 ≤ k ∧ k ≤ 64 := ⟨kb'.1, by omega⟩
  have P2 : OwnS u2 w.heap.size (.slice a1 l.length c1) l := own_only (own2_below P1 ((Below.refl _ _).alloc (Nat.le_refl _) _)) Y2 hlt
  have N2 := (N1.alloc (.cells #[.int .i64 0, .int .i64 1, .int .i64 5, .int .i64 63, .int .i64 33] 2)).trans Y2
  have z2 := N2.size
  have LB : Hid (∀ g, (Value.slice a1 l.length c1).ownBlock = some g → g < u2.heap.size) := fun g e => (P2.lt g e).2
  have H2 := OwnS.has P2 (slOk_wf ok)
  have AT := l7At_any a1 c1 l k u2 H2 (by omega)
  have PA : Hid (HasS u2 a1 l → Calls Tryd.prog 65 #[.slice a1 l.length c1, .int .i64 k] u2 fun r w' => ∃ a' c', r = .returned (.slice a' (mpP l k).length c') ∧ OwnI w' u2.heap.size (.slice a' (mpP l k).length c') (mpP l k) ∧ Below u2.heap.size u2 w') := fun hh => l7Path_any a1 c1 l k u2 hh (by omega) ok kb'.1 kb'.2
  have P6 : Hid ((mpP l k).length = 6) := mpP_len l k
  have PW : Hid (∀ n ∈ mpP l k, (Lit.int .i64 n).wf = true) := mpP_wf l k
  have VB : Hid (∀ i : Nat, i < l.length → 0 ≤ (l.getD i (0, 0)).2 ∧ (l.getD i (0, 0)).2 ≤ 65520) := fun i hi => by
    rw [List.getD_eq_getElem?_getD, List.getElem?_eq_getElem hi]
    exact (slOk_iff.1 (ok _ (List.getElem_mem hi))).2
  have OK : Hid (∀ x ∈ l, slOk x = true) := ok
  have RI : Hid (Rises l) := ri
  generalize mpP l k = P at *
  clear P1 S1 N1 Y2 hp2 ok ri kb'
  go_wp2_with fail
  refine AT.mono ?_
  rintro r u ⟨hr, hu⟩; have hu2 := hu.symm; subst hu2; clear hu AT
  rcases hr with ⟨hf, rfl⟩ | ⟨i, hi, rfl, hf⟩
  · have vb : (0 : Int) ≤ 0 ∧ (0 : Int) ≤ 65520 := by decide
    clear hf VB
    go_wp2_with fail
    refine (PA.out H2).mono ?_
    rintro r u3 ⟨a3, c3, rfl, O3, hb3⟩
    have S3 := S2.below hb3
    have N3 := N2.then_below (hb3.mono z2)
    have P3 := own2_below P2 hb3
    obtain ⟨g, hg1, hg2, hg3, hg4⟩ := own_form7 O3 P6.out
    subst hg1
    have O3' : World.ownsRow u3 u2.heap.size 2 1 (.slice (some ⟨g, 0, none⟩) 6 c3) 6 (P.map (.int .i64)) := by
      have hh : World.ownsRow u3 u2.heap.size 2 1 (.slice (some ⟨g, 0, none⟩) P.length c3) P.length (P.map (.int .i64)) := O3
      rw [P6.out] at hh
      exact hh
    rw [P6.out]
    clear S2 N2 P2 hb3 H2 PA
    go_wp2_with fail
    refine (next_any _ B s a len cap zs _ 10 S3 (by omega) (by omega) (by omega)).mono ?_
    rintro e u4 ⟨q, rfl, q0, q1, S4, Y4⟩
    have N4 := N3.trans Y4
    have P4 : OwnS u4 w.heap.size (.slice a1 l.length c1) l := own_only P3 Y4 hlt
    have O4 : World.ownsRow u4 u2.heap.size 2 1 (.slice (some ⟨g, 0, none⟩) 6 c3) 6 (P.map (.int .i64)) := own_only O3' Y4 (by omega)
    have z4 := N4.size
    clear S3 N3 P3 O3 O3' Y4
    by_cases d0 : q = 0
    case pos =>
      have d0b : (q == 0) = true := by simpa using d0
      clear d0
      have H4 := hasP7 O4 PW.out P6.out
      have PH : Hid (∀ i, i < ([5, 65521, 0] : List Int).length → (u4.alloc (.cells #[.int .i64 5, .int .i64 65521, .int .i64 0] 2)).cell? ⟨u4.heap.size, i, none⟩ = some (.int .i64 (([5, 65521, 0] : List Int).getD i 0))) := cells_lit u4 [5, 65521, 0] 2 _ rfl
      go_wp2_with fail
      refine (pick_any _ B s a len cap zs _ (S4.alloc _) (by omega) u4.heap.size [5, 65521, 0] 3 rfl (by simp) (by have := S4.lt; omega) (by omega) (by omega) 3 PH.out).mono ?_
      rintro e u5 ⟨y, rfl, hp5, S5, Y5⟩
      clear PH
      have yb : 0 ≤ y ∧ y ≤ 65521 := by simp at hp5; omega
      have N5 := (N4.alloc (.cells #[.int .i64 5, .int .i64 65521, .int .i64 0] 2)).trans Y5
      have W4 := WiA.mk l4 OK.out RI.out P4 kb yb (by rw [P6.out]; omega) (by rw [P6.out]; exact hg4) H4 (fun ad e => by cases e; exact Nat.le_trans z2 hg2)
      have W5 := (W4.below ((Below.refl _ _).alloc (Nat.le_refl _) (.cells #[.int .i64 5, .int .i64 65521, .int .i64 0] 2))).only Y5 hlt
      clear S4 N4 P4 O4 Y5 hp5 H4 W4
      go_wp2
      refine bodyPost_ret (v := .tuple #[(.slice a1 l.length c1), .int .i64 (k), .bool false, .int .i64 (y), .slice (some ⟨g, 0, none⟩) 6 c3]) (by simp [results, Tryd.results53, go_sem]) rfl ⟨a1, c1, l, k, false, y, some ⟨g, 0, none⟩, c3, P, _, by rw [P6.out], W5, S5, by omega, N5⟩
    have d0b : (q == 0) = false := by simpa using d0
    clear d0
    by_cases d1 : q = 1
    case pos =>
      have d1b : (q == 1) = true := by simpa using d1
      clear d1
      have H4 := hasP7 O4 PW.out P6.out
      have W4 := WiA.mk l4 OK.out RI.out P4 kb (show 0 ≤ (0) ∧ (0) ≤ 65521 from ⟨vb.1, by omega⟩) (by rw [P6.out]; omega) (by rw [P6.out]; exact hg4) H4 (fun ad e => by cases e; exact Nat.le_trans z2 hg2)
      clear P4 O4 H4
      go_wp2
      refine bodyPost_ret (v := .tuple #[(.slice a1 l.length c1), .int .i64 (k), .bool true, .int .i64 (0), .slice (some ⟨g, 0, none⟩) 6 c3]) (by simp [results, Tryd.results53, go_sem]) rfl ⟨a1, c1, l, k, true, 0, some ⟨g, 0, none⟩, c3, P, _, by rw [P6.out], W4, S4, by omega, N4⟩
    have d1b : (q == 1) = false := by simpa using d1
    clear d1
    by_cases d2 : q = 2
    case pos =>
      have d2b : (q == 2) = true := by simpa using d2
      clear d2
      go_wp2_with fail
      refine (next_any _ B s a len cap zs _ 6 S4 (by omega) (by omega) (by omega)).mono ?_
      rintro e u5 ⟨j', rfl, j0, j1, S5, Y5⟩
      obtain ⟨j, rfl⟩ := Int.eq_ofNat_of_zero_le j0
      have hj6 : j < 6 := by omega
      have N5 := N4.trans Y5
      have P5 : OwnS u5 w.heap.size (.slice a1 l.length c1) l := own_only P4 Y5 hlt
      have O5 : World.ownsRow u5 u2.heap.size 2 1 (.slice (some ⟨g, 0, none⟩) 6 c3) 6 (P.map (.int .i64)) := own_only O4 Y5 (by omega)
      clear S4 N4 P4 O4 Y5
      have PH : Hid (∀ i, i < ([9, -1] : List Int).length → (u5.alloc (.cells #[.int .i64 9, .int .i64 (-1)] 2)).cell? ⟨u5.heap.size, i, none⟩ = some (.int .i64 (([9, -1] : List Int).getD i 0))) := cells_lit u5 [9, -1] 2 _ rfl
      go_wp2_with fail
      refine (pick_any _ B s a len cap zs _ (S5.alloc _) (by omega) u5.heap.size [9, -1] 2 rfl (by simp) (by have := S5.lt; omega) (by omega) (by omega) 2 PH.out).mono ?_
      rintro e u6 ⟨y, rfl, hp6, S6, Y6⟩
      clear PH
      have yb : -1 ≤ y ∧ y ≤ 9 := by simp at hp6; omega
      have N6 := (N5.alloc (.cells #[.int .i64 9, .int .i64 (-1)] 2)).trans Y6
      have P6' : OwnS u6 w.heap.size (.slice a1 l.length c1) l := own_only (own2_below P5 ((Below.refl _ _).alloc (Nat.le_refl _) _)) Y6 hlt
      have O6 : World.ownsRow u6 u2.heap.size 2 1 (.slice (some ⟨g, 0, none⟩) 6 c3) 6 (P.map (.int .i64)) := own_only (own_below O5 ((Below.refl _ _).alloc (Nat.le_refl _) _)) Y6 (by omega)
      have z6 := N6.size
      clear S5 N5 P5 O5 Y6 hp6
      obtain ⟨x1, x2, x3⟩ := cell7 O6 P6.out hj6 (.int .i64 y) y rfl
      generalize P.getD j 0 = yo at x1
      have HS : Hid (World.ownsRow (u6.setCell ⟨g, j, none⟩ (.int .i64 y)) u2.heap.size 2 1 (.slice (some ⟨g, 0, none⟩) 6 c3) 6 ((P.set j y).map (.int .i64))) := x3
      have gw : w.heap.size ≤ g := by omega
      have N7 := N6.storeNew (b := g) (o := j) gw (.int .i64 y)
      have S7 := S6.below' (N := w.heap.size) ((Below.refl _ _).setCell (p := ⟨g, j, none⟩) gw (.int .i64 y)) hlt
      have P7 : OwnS (u6.setCell ⟨g, j, none⟩ (.int .i64 y)) w.heap.size (.slice a1 l.length c1) l := own2_fr (M := fun k => k = g) P6' (Fr.setCell (Fr.refl _ _) ⟨g, j, none⟩ (.int .i64 y) rfl) (fun g' e1 e2 => by have := LB.out g' e1; omega)
      have L7 : Hid ((P.set j y).length = 6) := by show _ = _; rw [List.length_set, P6.out]
      have H7 := hasP7 HS.out (wf_set7 PW.out j (WalkArith.wf_i64 (by omega))) L7.out
      have W7 := WiA.mk l4 OK.out RI.out P7 kb (show 0 ≤ (0) ∧ (0) ≤ 65521 from ⟨vb.1, by omega⟩) (by rw [L7.out]; omega) (by rw [L7.out]; exact hg4) H7 (fun ad e => by cases e; exact gw)
      clear S6 N6 P6' O6 HS x3 H7 P7
      have W7H : Hid (WiA (u6.setCell ⟨g, j, none⟩ (.int .i64 y)) w.heap.size l a1 c1 k (0) (some ⟨g, 0, none⟩) c3 (P.set j y)) := W7
      have hj0 : (0 : Int) ≤ (j : Int) := by omega
      have hj6' : (j : Int) < 6 := by omega
      clear W7 hj6
      go_wp2
      refine bodyPost_ret (v := .tuple #[(.slice a1 l.length c1), .int .i64 (k), .bool false, .int .i64 (0), .slice (some ⟨g, 0, none⟩) 6 c3]) (by simp [results, Tryd.results53, go_sem]) rfl ⟨a1, c1, l, k, false, 0, some ⟨g, 0, none⟩, c3, P.set j y, _, by rw [L7.out], W7H.out, S7, by omega, N7⟩
    have d2b : (q == 2) = false := by simpa using d2
    clear d2
    by_cases d3 : q = 3
    case pos =>
      have d3b : (q == 3) = true := by simpa using d3
      clear d3
      have H4 := hasT7 O4 PW.out P6.out
      have L4 : Hid ((P.drop 1).length = 5) := by show _ = _; rw [List.length_drop, P6.out]
      have W4 := WiA.mk (c2 := c3 - 1) l4 OK.out RI.out P4 kb (show 0 ≤ (0) ∧ (0) ≤ 65521 from ⟨vb.1, by omega⟩) (by rw [L4.out]; omega) (by rw [L4.out]; omega) H4 (fun ad e => by cases e; exact Nat.le_trans z2 hg2)
      clear P4 O4 H4
      have hc6 : 6 ≤ c3 := hg4.1
      have hcm : c3 ≤ maxLen := hg4.2
      unfold maxLen at hcm
      go_wp2
      refine bodyPost_ret (v := .tuple #[(.slice a1 l.length c1), .int .i64 (k), .bool false, .int .i64 (0), .slice (some ⟨g, 1, none⟩) 5 (c3 - 1)]) (by simp [results, Tryd.results53, go_sem]) rfl ⟨a1, c1, l, k, false, 0, some ⟨g, 1, none⟩, (c3 - 1), P.drop 1, _, by rw [L4.out], W4, S4, by omega, N4⟩
    have d3b : (q == 3) = false := by simpa using d3
    clear d3
    have H4 := hasP7 O4 PW.out P6.out
    by_cases d4 : q = 4
    case pos =>
      have d4b : (q == 4) = true := by simpa using d4
      clear d4
      have PH : Hid (∀ i, i < ([64, 2] : List Int).length → (u4.alloc (.cells #[.int .i64 64, .int .i64 2] 2)).cell? ⟨u4.heap.size, i, none⟩ = some (.int .i64 (([64, 2] : List Int).getD i 0))) := cells_lit u4 [64, 2] 2 _ rfl
      go_wp2_with fail
      refine (pick_any _ B s a len cap zs _ (S4.alloc _) (by omega) u4.heap.size [64, 2] 2 rfl (by simp) (by have := S4.lt; omega) (by omega) (by omega) 2 PH.out).mono ?_
      rintro e u5 ⟨y, rfl, hp5, S5, Y5⟩
      clear PH
      have yb : 0 ≤ y ∧ y ≤ 64 := by simp at hp5; omega
      have N5 := (N4.alloc (.cells #[.int .i64 64, .int .i64 2] 2)).trans Y5
      have W4 := WiA.mk l4 OK.out RI.out P4 yb (show 0 ≤ (0) ∧ (0) ≤ 65521 from ⟨vb.1, by omega⟩) (by rw [P6.out]; omega) (by rw [P6.out]; exact hg4) H4 (fun ad e => by cases e; exact Nat.le_trans z2 hg2)
      have W5 := (W4.below ((Below.refl _ _).alloc (Nat.le_refl _) (.cells #[.int .i64 64, .int .i64 2] 2))).only Y5 hlt
      clear S4 N4 P4 O4 Y5 hp5 H4 W4
      go_wp2
      refine bodyPost_ret (v := .tuple #[(.slice a1 l.length c1), .int .i64 (y), .bool false, .int .i64 (0), .slice (some ⟨g, 0, none⟩) 6 c3]) (by simp [results, Tryd.results53, go_sem]) rfl ⟨a1, c1, l, y, false, 0, some ⟨g, 0, none⟩, c3, P, _, by rw [P6.out], W5, S5, by omega, N5⟩
    have d4b : (q == 4) = false := by simpa using d4
    clear d4
    have W4 := WiA.mk l4 OK.out RI.out P4 kb (show 0 ≤ (0) ∧ (0) ≤ 65521 from ⟨vb.1, by omega⟩) (by rw [P6.out]; omega) (by rw [P6.out]; exact hg4) H4 (fun ad e => by cases e; exact Nat.le_trans z2 hg2)
    clear P4 O4 H4
    go_wp2
    refine bodyPost_ret (v := .tuple #[(.slice a1 l.length c1), .int .i64 (k), .bool false, .int .i64 (0), .slice (some ⟨g, 0, none⟩) 6 c3]) (by simp [results, Tryd.results53, go_sem]) rfl ⟨a1, c1, l, k, false, 0, some ⟨g, 0, none⟩, c3, P, _, by rw [P6.out], W4, S4, by omega, N4⟩
  · have vb := VB.out i hi
    obtain ⟨b, off, rfl, _, hc⟩ : ∃ b off, a1 = some ⟨b, off, none⟩ ∧ b < u2.heap.size ∧ ∀ i (hi : i < l.length), u2.cell? ⟨b, off + i * 2, none⟩ = some (.int .i64 l[i].1) ∧ u2.cell? ⟨b, off + i * 2 + 1, none⟩ = some (.int .i64 l[i].2) := by
      rcases HasS.cells H2 with h0 | h1
      · rw [h0] at hi; simp at hi
      · exact h1
    have cv := (hc i hi).2
    have ev : l[i].2 = (l.getD i (0, 0)).2 := by rw [List.getD_eq_getElem?_getD, List.getElem?_eq_getElem hi]; rfl
    rw [ev] at cv
    have i0 : (0 : Int) ≤ (i : Int) := by omega
    have i1 : (i : Int) < (l.length : Int) := by omega
    generalize (l.getD i (0, 0)).2 = vv at *
    clear hf VB hc ev
    go_wp2_with fail
    refine (PA.out H2).mono ?_
    rintro r u3 ⟨a3, c3, rfl, O3, hb3⟩
    have S3 := S2.below hb3
    have N3 := N2.then_below (hb3.mono z2)
    have P3 := own2_below P2 hb3
    obtain ⟨g, hg1, hg2, hg3, hg4⟩ := own_form7 O3 P6.out
    subst hg1
    have O3' : World.ownsRow u3 u2.heap.size 2 1 (.slice (some ⟨g, 0, none⟩) 6 c3) 6 (P.map (.int .i64)) := by
      have hh : World.ownsRow u3 u2.heap.size 2 1 (.slice (some ⟨g, 0, none⟩) P.length c3) P.length (P.map (.int .i64)) := O3
      rw [P6.out] at hh
      exact hh
    rw [P6.out]
    clear S2 N2 P2 hb3 H2 PA
    go_wp2_with fail
    refine (next_any _ B s a len cap zs _ 10 S3 (by omega) (by omega) (by omega)).mono ?_
    rintro e u4 ⟨q, rfl, q0, q1, S4, Y4⟩
    have N4 := N3.trans Y4
    have P4 : OwnS u4 w.heap.size (.slice (some ⟨b, off, none⟩) l.length c1) l := own_only P3 Y4 hlt
    have O4 : World.ownsRow u4 u2.heap.size 2 1 (.slice (some ⟨g, 0, none⟩) 6 c3) 6 (P.map (.int .i64)) := own_only O3' Y4 (by omega)
    have z4 := N4.size
    clear S3 N3 P3 O3 O3' Y4
    by_cases d0 : q = 0
    case pos =>
      have d0b : (q == 0) = true := by simpa using d0
      clear d0
      have H4 := hasP7 O4 PW.out P6.out
      have PH : Hid (∀ i, i < ([5, 65521, 0] : List Int).length → (u4.alloc (.cells #[.int .i64 5, .int .i64 65521, .int .i64 0] 2)).cell? ⟨u4.heap.size, i, none⟩ = some (.int .i64 (([5, 65521, 0] : List Int).getD i 0))) := cells_lit u4 [5, 65521, 0] 2 _ rfl
      go_wp2_with fail
      refine (pick_any _ B s a len cap zs _ (S4.alloc _) (by omega) u4.heap.size [5, 65521, 0] 3 rfl (by simp) (by have := S4.lt; omega) (by omega) (by omega) 3 PH.out).mono ?_
      rintro e u5 ⟨y, rfl, hp5, S5, Y5⟩
      clear PH
      have yb : 0 ≤ y ∧ y ≤ 65521 := by simp at hp5; omega
      have N5 := (N4.alloc (.cells #[.int .i64 5, .int .i64 65521, .int .i64 0] 2)).trans Y5
      have W4 := WiA.mk l4 OK.out RI.out P4 kb yb (by rw [P6.out]; omega) (by rw [P6.out]; exact hg4) H4 (fun ad e => by cases e; exact Nat.le_trans z2 hg2)
      have W5 := (W4.below ((Below.refl _ _).alloc (Nat.le_refl _) (.cells #[.int .i64 5, .int .i64 65521, .int .i64 0] 2))).only Y5 hlt
      clear S4 N4 P4 O4 Y5 hp5 H4 W4
      go_wp2
      refine bodyPost_ret (v := .tuple #[(.slice (some ⟨b, off, none⟩) l.length c1), .int .i64 (k), .bool true, .int .i64 (y), .slice (some ⟨g, 0, none⟩) 6 c3]) (by simp [results, Tryd.results53, go_sem]) rfl ⟨(some ⟨b, off, none⟩), c1, l, k, true, y, some ⟨g, 0, none⟩, c3, P, _, by rw [P6.out], W5, S5, by omega, N5⟩
    have d0b : (q == 0) = false := by simpa using d0
    clear d0
    by_cases d1 : q = 1
    case pos =>
      have d1b : (q == 1) = true := by simpa using d1
      clear d1
      have H4 := hasP7 O4 PW.out P6.out
      have W4 := WiA.mk l4 OK.out RI.out P4 kb (show 0 ≤ (vv) ∧ (vv) ≤ 65521 from ⟨vb.1, by omega⟩) (by rw [P6.out]; omega) (by rw [P6.out]; exact hg4) H4 (fun ad e => by cases e; exact Nat.le_trans z2 hg2)
      clear P4 O4 H4
      go_wp2
      refine bodyPost_ret (v := .tuple #[(.slice (some ⟨b, off, none⟩) l.length c1), .int .i64 (k), .bool false, .int .i64 (vv), .slice (some ⟨g, 0, none⟩) 6 c3]) (by simp [results, Tryd.results53, go_sem]) rfl ⟨(some ⟨b, off, none⟩), c1, l, k, false, vv, some ⟨g, 0, none⟩, c3, P, _, by rw [P6.out], W4, S4, by omega, N4⟩
    have d1b : (q == 1) = false := by simpa using d1
    clear d1
    by_cases d2 : q = 2
    case pos =>
      have d2b : (q == 2) = true := by simpa using d2
      clear d2
      go_wp2_with fail
      refine (next_any _ B s a len cap zs _ 6 S4 (by omega) (by omega) (by omega)).mono ?_
      rintro e u5 ⟨j', rfl, j0, j1, S5, Y5⟩
      obtain ⟨j, rfl⟩ := Int.eq_ofNat_of_zero_le j0
      have hj6 : j < 6 := by omega
      have N5 := N4.trans Y5
      have P5 : OwnS u5 w.heap.size (.slice (some ⟨b, off, none⟩) l.length c1) l := own_only P4 Y5 hlt
      have O5 : World.ownsRow u5 u2.heap.size 2 1 (.slice (some ⟨g, 0, none⟩) 6 c3) 6 (P.map (.int .i64)) := own_only O4 Y5 (by omega)
      clear S4 N4 P4 O4 Y5
      have PH : Hid (∀ i, i < ([9, -1] : List Int).length → (u5.alloc (.cells #[.int .i64 9, .int .i64 (-1)] 2)).cell? ⟨u5.heap.size, i, none⟩ = some (.int .i64 (([9, -1] : List Int).getD i 0))) := cells_lit u5 [9, -1] 2 _ rfl
      go_wp2_with fail
      refine (pick_any _ B s a len cap zs _ (S5.alloc _) (by omega) u5.heap.size [9, -1] 2 rfl (by simp) (by have := S5.lt; omega) (by omega) (by omega) 2 PH.out).mono ?_
      rintro e u6 ⟨y, rfl, hp6, S6, Y6⟩
      clear PH
      have yb : -1 ≤ y ∧ y ≤ 9 := by simp at hp6; omega
      have N6 := (N5.alloc (.cells #[.int .i64 9, .int .i64 (-1)] 2)).trans Y6
      have P6' : OwnS u6 w.heap.size (.slice (some ⟨b, off, none⟩) l.length c1) l := own_only (own2_below P5 ((Below.refl _ _).alloc (Nat.le_refl _) _)) Y6 hlt
      have O6 : World.ownsRow u6 u2.heap.size 2 1 (.slice (some ⟨g, 0, none⟩) 6 c3) 6 (P.map (.int .i64)) := own_only (own_below O5 ((Below.refl _ _).alloc (Nat.le_refl _) _)) Y6 (by omega)
      have z6 := N6.size
      clear S5 N5 P5 O5 Y6 hp6
      obtain ⟨x1, x2, x3⟩ := cell7 O6 P6.out hj6 (.int .i64 y) y rfl
      generalize P.getD j 0 = yo at x1
      have HS : Hid (World.ownsRow (u6.setCell ⟨g, j, none⟩ (.int .i64 y)) u2.heap.size 2 1 (.slice (some ⟨g, 0, none⟩) 6 c3) 6 ((P.set j y).map (.int .i64))) := x3
      have gw : w.heap.size ≤ g := by omega
      have N7 := N6.storeNew (b := g) (o := j) gw (.int .i64 y)
      have S7 := S6.below' (N := w.heap.size) ((Below.refl _ _).setCell (p := ⟨g, j, none⟩) gw (.int .i64 y)) hlt
      have P7 : OwnS (u6.setCell ⟨g, j, none⟩ (.int .i64 y)) w.heap.size (.slice (some ⟨b, off, none⟩) l.length c1) l := own2_fr (M := fun k => k = g) P6' (Fr.setCell (Fr.refl _ _) ⟨g, j, none⟩ (.int .i64 y) rfl) (fun g' e1 e2 => by have := LB.out g' e1; omega)
      have L7 : Hid ((P.set j y).length = 6) := by show _ = _; rw [List.length_set, P6.out]
      have H7 := hasP7 HS.out (wf_set7 PW.out j (WalkArith.wf_i64 (by omega))) L7.out
      have W7 := WiA.mk l4 OK.out RI.out P7 kb (show 0 ≤ (vv) ∧ (vv) ≤ 65521 from ⟨vb.1, by omega⟩) (by rw [L7.out]; omega) (by rw [L7.out]; exact hg4) H7 (fun ad e => by cases e; exact gw)
      clear S6 N6 P6' O6 HS x3 H7 P7
      have W7H : Hid (WiA (u6.setCell ⟨g, j, none⟩ (.int .i64 y)) w.heap.size l (some ⟨b, off, none⟩) c1 k (vv) (some ⟨g, 0, none⟩) c3 (P.set j y)) := W7
      have hj0 : (0 : Int) ≤ (j : Int) := by omega
      have hj6' : (j : Int) < 6 := by omega
      clear W7 hj6
      go_wp2
      refine bodyPost_ret (v := .tuple #[(.slice (some ⟨b, off, none⟩) l.length c1), .int .i64 (k), .bool true, .int .i64 (vv), .slice (some ⟨g, 0, none⟩) 6 c3]) (by simp [results, Tryd.results53, go_sem]) rfl ⟨(some ⟨b, off, none⟩), c1, l, k, true, vv, some ⟨g, 0, none⟩, c3, P.set j y, _, by rw [L7.out], W7H.out, S7, by omega, N7⟩
    have d2b : (q == 2) = false := by simpa using d2
    clear d2
    by_cases d3 : q = 3
    case pos =>
      have d3b : (q == 3) = true := by simpa using d3
      clear d3
      have H4 := hasT7 O4 PW.out P6.out
      have L4 : Hid ((P.drop 1).length = 5) := by show _ = _; rw [List.length_drop, P6.out]
      have W4 := WiA.mk (c2 := c3 - 1) l4 OK.out RI.out P4 kb (show 0 ≤ (vv) ∧ (vv) ≤ 65521 from ⟨vb.1, by omega⟩) (by rw [L4.out]; omega) (by rw [L4.out]; omega) H4 (fun ad e => by cases e; exact Nat.le_trans z2 hg2)
      clear P4 O4 H4
      have hc6 : 6 ≤ c3 := hg4.1
      have hcm : c3 ≤ maxLen := hg4.2
      unfold maxLen at hcm
      go_wp2
      refine bodyPost_ret (v := .tuple #[(.slice (some ⟨b, off, none⟩) l.length c1), .int .i64 (k), .bool true, .int .i64 (vv), .slice (some ⟨g, 1, none⟩) 5 (c3 - 1)]) (by simp [results, Tryd.results53, go_sem]) rfl ⟨(some ⟨b, off, none⟩), c1, l, k, true, vv, some ⟨g, 1, none⟩, (c3 - 1), P.drop 1, _, by rw [L4.out], W4, S4, by omega, N4⟩
    have d3b : (q == 3) = false := by simpa using d3
    clear d3
    have H4 := hasP7 O4 PW.out P6.out
    by_cases d4 : q = 4
    case pos =>
      have d4b : (q == 4) = true := by simpa using d4
      clear d4
      have PH : Hid (∀ i, i < ([64, 2] : List Int).length → (u4.alloc (.cells #[.int .i64 64, .int .i64 2] 2)).cell? ⟨u4.heap.size, i, none⟩ = some (.int .i64 (([64, 2] : List Int).getD i 0))) := cells_lit u4 [64, 2] 2 _ rfl
      go_wp2_with fail
      refine (pick_any _ B s a len cap zs _ (S4.alloc _) (by omega) u4.heap.size [64, 2] 2 rfl (by simp) (by have := S4.lt; omega) (by omega) (by omega) 2 PH.out).mono ?_
      rintro e u5 ⟨y, rfl, hp5, S5, Y5⟩
      clear PH
      have yb : 0 ≤ y ∧ y ≤ 64 := by simp at hp5; omega
      have N5 := (N4.alloc (.cells #[.int .i64 64, .int .i64 2] 2)).trans Y5
      have W4 := WiA.mk l4 OK.out RI.out P4 yb (show 0 ≤ (vv) ∧ (vv) ≤ 65521 from ⟨vb.1, by omega⟩) (by rw [P6.out]; omega) (by rw [P6.out]; exact hg4) H4 (fun ad e => by cases e; exact Nat.le_trans z2 hg2)
      have W5 := (W4.below ((Below.refl _ _).alloc (Nat.le_refl _) (.cells #[.int .i64 64, .int .i64 2] 2))).only Y5 hlt
      clear S4 N4 P4 O4 Y5 hp5 H4 W4
      go_wp2
      refine bodyPost_ret (v := .tuple #[(.slice (some ⟨b, off, none⟩) l.length c1), .int .i64 (y), .bool true, .int .i64 (vv), .slice (some ⟨g, 0, none⟩) 6 c3]) (by simp [results, Tryd.results53, go_sem]) rfl ⟨(some ⟨b, off, none⟩), c1, l, y, true, vv, some ⟨g, 0, none⟩, c3, P, _, by rw [P6.out], W5, S5, by omega, N5⟩
    have d4b : (q == 4) = false := by simpa using d4
    clear d4
    have W4 := WiA.mk l4 OK.out RI.out P4 kb (show 0 ≤ (vv) ∧ (vv) ≤ 65521 from ⟨vb.1, by omega⟩) (by rw [P6.out]; omega) (by rw [P6.out]; exact hg4) H4 (fun ad e => by cases e; exact Nat.le_trans z2 hg2)
    clear P4 O4 H4
    go_wp2
    refine bodyPost_ret (v := .tuple #[(.slice (some ⟨b, off, none⟩) l.length c1), .int .i64 (k), .bool true, .int .i64 (vv), .slice (some ⟨g, 0, none⟩) 6 c3]) (by simp [results, Tryd.results53, go_sem]) rfl ⟨(some ⟨b, off, none⟩), c1, l, k, true, vv, some ⟨g, 0, none⟩, c3, P, _, by rw [P6.out], W4, S4, by omega, N4⟩

end Go.Proofs.YtjjddjohckcmbaaDoor

namespace Go.Proofs.YtjjddjohckcmbaaDoor
open Go.ChangeShapes Go.WideShapes Go.ChangeAt Go.RowKit
set_option maxRecDepth 100000
set_option linter.unusedVariables false
set_option linter.unusedSimpArgs false

set_option maxHeartbeats 2000000 in
theorem drawMapPath_any (w : World) (a : Option Addr) (len cap : Nat) (zs : List Int) (h : Has w .u8 a len zs) (hl : len ≤ 1048576) :
    Calls Tryd.prog 11 #[.slice a len cap] w fun e w' => ∃ (a1 : Option Addr) (c1 : Nat) (l : List Sl) (k : Int), e = .returned (.tuple #[.slice a1 l.length c1, .int .i64 k]) ∧ l.length ≤ 13 ∧ (-1 ≤ k ∧ k ≤ 64) ∧ HasS w' a1 l ∧ Below w.heap.size w w' := by
  go_enter Tryd.func11, Tryd.ntmps11
  go_wp2_with fail
  refine (source_any _ a len cap zs h hl).mono ?_
  rintro e u1 ⟨rfl, S1, hb1, hs1⟩
  obtain ⟨u0, hu0⟩ : ∃ u0, u0 = w.heap.size := ⟨_, rfl⟩
  have AS : ∀ {w2 : World}, Only u0 u1 w2 → Below w.heap.size w w2 := fun {w2} ho => after_source hb1 (by rw [← hu0]; exact ho)
  rw [← hu0] at S1 hs1 ⊢
  clear hu0
  go_wp2_with fail
  refine (l7Bent_any _ _ _ a len cap zs 0 S1 (by omega)).mono ?_
  rintro e u2 ⟨a1, c1, l, t1, rfl, l13, wf, P2, S2, ht1, N2⟩
  have WF : Hid (WfS l) := wf
  clear wf S1
  have PH : Hid (∀ i, i < ([0, 1, 5, 63, 64, -1, 33] : List Int).length → (u2.alloc (.cells #[.int .i64 0, .int .i64 1, .int .i64 5, .int .i64 63, .int .i64 64, .int .i64 (-1), .int .i64 33] 2)).cell? ⟨u2.heap.size, i, none⟩ = some (.int .i64 (([0, 1, 5, 63, 64, -1, 33] : List Int).getD i 0))) := cells_lit u2 [0, 1, 5, 63, 64, -1, 33] 2 _ rfl
  go_wp2_with fail
  refine (pick_any _ _ _ a len cap zs t1 (S2.alloc _) (by omega) u2.heap.size [0, 1, 5, 63, 64, -1, 33] 7 rfl (by simp) (by have := S2.lt; omega) (by omega) (by omega) 7 PH.out).mono ?_
  rintro e u3 ⟨k, rfl, hp3, S3, Y3⟩
  clear PH
  have kb : -1 ≤ k ∧ k ≤ 64 := by simp at hp3; omega
  have P3 : OwnS u3 u1.heap.size (.slice a1 l.length c1) l := own_only (own2_below P2 ((Below.refl _ _).alloc (Nat.le_refl _) _)) Y3 hs1
  have N3 := (N2.alloc (.cells #[.int .i64 0, .int .i64 1, .int .i64 5, .int .i64 63, .int .i64 64, .int .i64 (-1), .int .i64 33] 2)).trans Y3
  have H3 := OwnS.has P3 WF.out
  have W3 := AS N3
  clear P2 S2 N2 Y3 hp3 P3 N3 S3
  go_wp2
  refine bodyPost_ret (v := .tuple #[.slice a1 l.length c1, .int .i64 k]) (by simp [results, Tryd.results11, go_sem]) rfl ⟨a1, c1, l, k, rfl, l13, kb, H3, W3⟩

set_option maxHeartbeats 2000000 in
theorem drawClimbSlot_any (w : World) (a : Option Addr) (len cap : Nat) (zs : List Int) (h : Has w .u8 a len zs) (hl : len ≤ 1048576) :
    Calls Tryd.prog 13 #[.slice a len cap] w fun e w' => ∃ (k : Int) (tt : Bool) (v : Int) (a2 : Option Addr) (c2 : Nat) (p : List Int), e = .returned (.tuple #[.int .i64 k, .bool tt, .int .i64 v, .slice a2 p.length c2]) ∧ p.length ≤ 6 ∧ Has w' .i64 a2 p.length p ∧ Below w.heap.size w w' := by
  go_enter Tryd.func13, Tryd.ntmps13
  go_wp2_with fail
  refine (source_any _ a len cap zs h hl).mono ?_
  rintro e u1 ⟨rfl, S1, hb1, hs1⟩
  obtain ⟨u0, hu0⟩ : ∃ u0, u0 = w.heap.size := ⟨_, rfl⟩
  have AS : ∀ {w2 : World}, Only u0 u1 w2 → Below w.heap.size w w2 := fun {w2} ho => after_source hb1 (by rw [← hu0]; exact ho)
  rw [← hu0] at S1 hs1 ⊢
  clear hu0
  go_wp2_with fail
  refine (l7With_any _ _ _ a len cap zs 0 S1 (by omega)).mono ?_
  rintro e u2 ⟨a1, c1, l, k, tt, v, a2, c2, p, t1, rfl, W, S2, ht1, N2⟩
  have W2 := AS N2
  have H2 := W.h2
  have p6 := W.p6
  clear W S2 N2 S1
  go_wp2
  refine bodyPost_ret (v := .tuple #[.int .i64 k, .bool tt, .int .i64 v, .slice a2 p.length c2]) (by simp [results, Tryd.results13, go_sem]) rfl ⟨k, tt, v, a2, c2, p, rfl, p6, H2, W2⟩

set_option maxHeartbeats 2000000 in
theorem drawAcceptSlot_any (w : World) (a : Option Addr) (len cap : Nat) (zs : List Int) (h : Has w .u8 a len zs) (hl : len ≤ 1048576) :
    Calls Tryd.prog 15 #[.slice a len cap] w fun e w' => ∃ (k : Int) (tt : Bool) (v : Int) (a2 : Option Addr) (c2 : Nat) (p : List Int) (r : Int), e = .returned (.tuple #[.int .i64 k, .bool tt, .int .i64 v, .slice a2 p.length c2, .int .i64 r]) ∧ p.length ≤ 6 ∧ Has w' .i64 a2 p.length p ∧ Below w.heap.size w w' := by
  go_enter Tryd.func15, Tryd.ntmps15
  go_wp2_with fail
  refine (source_any _ a len cap zs h hl).mono ?_
  rintro e u1 ⟨rfl, S1, hb1, hs1⟩
  obtain ⟨u0, hu0⟩ : ∃ u0, u0 = w.heap.size := ⟨_, rfl⟩
  have AS : ∀ {w2 : World}, Only u0 u1 w2 → Below w.heap.size w w2 := fun {w2} ho => after_source hb1 (by rw [← hu0]; exact ho)
  rw [← hu0] at S1 hs1 ⊢
  clear hu0
  go_wp2_with fail
  refine (l7With_any _ _ _ a len cap zs 0 S1 (by omega)).mono ?_
  rintro e u2 ⟨a1, c1, l, k, tt, v, a2, c2, p, t1, rfl, W, S2, ht1, N2⟩
  have W2 := AS N2
  have p6 := W.p6
  have l4 := W.l4
  have ND := l7Node_any a1 c1 l (by omega) W.ok 6 0 64 u2 (OwnS.has W.h1 (slOk_wf W.ok)) (by decide) (by decide) (by decide) (by decide)
  have H2 := W.h2
  clear W S2 N2 S1
  go_wp2_with fail
  refine ND.mono ?_
  rintro r u3 ⟨rfl, hb3⟩
  have W3 := W2.trans (hb3.mono W2.size)
  have H3 := H2.below hb3 (Nat.le_refl _)
  clear H2 hb3 ND
  go_wp2
  refine bodyPost_ret (v := .tuple #[.int .i64 k, .bool tt, .int .i64 v, .slice a2 p.length c2, .int .i64 (mpN l 6 0)]) (by simp [results, Tryd.results15, go_sem]) rfl ⟨k, tt, v, a2, c2, p, _, rfl, p6, H3, W3⟩

set_option maxHeartbeats 2000000 in
theorem drawMapClash_any (w : World) (a : Option Addr) (len cap : Nat) (zs : List Int) (h : Has w .u8 a len zs) (hl : len ≤ 1048576) :
    Calls Tryd.prog 26 #[.slice a len cap] w fun e w' => ∃ (a1 : Option Addr) (c1 : Nat) (l : List Sl) (k : Int) (tt : Bool) (v : Int) (a2 : Option Addr) (c2 : Nat) (p : List Int), e = .returned (.tuple #[.slice a1 l.length c1, .int .i64 k, .bool tt, .int .i64 v, .slice a2 p.length c2]) ∧ l.length ≤ 13 ∧ (0 ≤ k ∧ k ≤ 64) ∧ p.length ≤ 6 ∧ (p.length ≤ c2 ∧ c2 ≤ maxLen) ∧ HasS w' a1 l ∧ Has w' .i64 a2 p.length p ∧ Below w.heap.size w w' := by
  go_enter Tryd.func26, Tryd.ntmps26
  go_wp2_with fail
  refine (source_any _ a len cap zs h hl).mono ?_
  rintro e u1 ⟨rfl, S1, hb1, hs1⟩
  obtain ⟨u0, hu0⟩ : ∃ u0, u0 = w.heap.size := ⟨_, rfl⟩
  have AS : ∀ {w2 : World}, Only u0 u1 w2 → Below w.heap.size w w2 := fun {w2} ho => after_source hb1 (by rw [← hu0]; exact ho)
  rw [← hu0] at S1 hs1 ⊢
  clear hu0
  go_wp2_with fail
  refine (l7With_any _ _ _ a len cap zs 0 S1 (by omega)).mono ?_
  rintro e u2 ⟨a1, c1, l, k, tt, v, a2, c2, p, t1, rfl, W, S2, ht1, N2⟩
  have z2 := N2.size
  clear S1
  go_wp2_with fail
  refine (chance_any _ _ _ a len cap zs _ 14 S2 (by omega) (by omega) (by omega)).mono ?_
  rintro e u3 ⟨c, rfl, S3, Y3⟩
  have W3 := W.only Y3 hs1
  have N3 := N2.trans Y3
  have p6 := W3.p6
  have l4 := W3.l4
  have kb := W3.kb
  have cp := W3.cp
  clear W S2 N2 Y3
  cases c with
  | false =>
    have H1 := OwnS.has W3.h1 (slOk_wf W3.ok)
    have H2 := W3.h2
    have WE := AS N3
    clear W3 S3 N3
    go_wp2
    refine bodyPost_ret (v := .tuple #[.slice a1 l.length c1, .int .i64 k, .bool tt, .int .i64 v, .slice a2 p.length c2]) (by simp [results, Tryd.results26, go_sem]) rfl ⟨a1, c1, l, k, tt, v, a2, c2, p, rfl, by omega, kb, p6, cp, H1, H2, WE⟩
  | true =>
    go_wp2_with fail
    refine (l7Bent_any _ _ _ a len cap zs _ S3 (by omega)).mono ?_
    rintro e u4 ⟨a4, c4, m, t4, rfl, l13, wf, P4, S4, ht4, Y4⟩
    have W4 := W3.only Y4 hs1
    have N4 := N3.trans Y4
    have H1 := OwnS.has P4 wf
    have H2 := W4.h2
    have WE := AS N4
    clear W3 S3 N3 W4 N4 Y4 P4 wf
    go_wp2
    refine bodyPost_ret (v := .tuple #[.slice a4 m.length c4, .int .i64 k, .bool tt, .int .i64 v, .slice a2 p.length c2]) (by simp [results, Tryd.results26, go_sem]) rfl ⟨a4, c4, m, k, tt, v, a2, c2, p, rfl, l13, kb, p6, cp, H1, H2, WE⟩

set_option maxHeartbeats 4000000 in
theorem drawPutSlot_any (w0 : World) (a : Option Addr) (len cap : Nat) (zs : List Int) (h0 : Has w0 .u8 a len zs) (hl : len ≤ 1048576) :
    Calls Tryd.prog 28 #[.slice a len cap] w0 fun e w' => ∃ (a1 : Option Addr) (c1 : Nat) (l : List Sl) (x y : Int), e = .returned (.tuple #[.slice a1 l.length c1, .agg #[.int .i64 x, .int .i64 y]]) ∧ l.length ≤ 13 ∧ (0 ≤ x ∧ x ≤ 64) ∧ (7 ≤ y ∧ y ≤ 65521) ∧ HasS w' a1 l ∧ Below w0.heap.size w0 w' := by
  obtain ⟨i0, hi, hz0, hz1, hz2⟩ := info_parts infoSp
  obtain ⟨w, hw⟩ : ∃ w, w = w0.alloc (.cells #[.int .i64 0, .int .i64 0] 50) := ⟨_, rfl⟩
  have B0 : Below w0.heap.size w0 w := by rw [hw]; exact (Below.refl _ _).alloc (Nat.le_refl _) _
  have RE : Blk w w0.heap.size #[.int .i64 0, .int .i64 0] 50 := by rw [hw]; exact Blk.new _ _ _
  have h := h0.below B0 (Nat.le_refl _)
  clear h0
  go_enter Tryd.func28, Tryd.ntmps28
  go_wp2_with fail
  simp only [← hw]
  clear hw
  refine (source_any _ a len cap zs h hl).mono ?_
  rintro e u1 ⟨rfl, S1, hb1, hs1⟩
  obtain ⟨u0, hu0⟩ : ∃ u0, u0 = w.heap.size := ⟨_, rfl⟩
  have AS : Hid (∀ w2 : World, Only u0 u1 w2 → Below w.heap.size w w2) := fun w2 ho => after_source hb1 (by rw [← hu0]; exact ho)
  rw [← hu0] at S1 hs1 ⊢
  have zz : w0.heap.size < u1.heap.size := Nat.lt_of_lt_of_le RE.lt hb1.size
  clear hu0
  go_wp2_with fail
  refine (l7Bent_any _ _ _ a len cap zs 0 S1 (by omega)).mono ?_
  rintro e u2 ⟨a1, c1, l, t1, rfl, l13, wf, P2, S2, ht1, N2⟩
  clear S1
  go_wp2_with fail
  refine (chance_any _ _ _ a len cap zs _ 6 S2 (by omega) (by omega) (by omega)).mono ?_
  rintro e u3 ⟨c, rfl, S3, Y3⟩
  have P3 : OwnS u3 u1.heap.size (.slice a1 l.length c1) l := own_only P2 Y3 hs1
  have N3 := N2.trans Y3
  have WF : Hid (WfS l) := wf
  clear S2 N2 Y3 P2 wf
  have REH : Hid (Blk w w0.heap.size #[.int .i64 0, .int .i64 0] 50) := RE
  cases c with
  | false =>
    have PH : Hid (∀ i, i < ([0, 1, 5, 63, 64] : List Int).length → (u3.alloc (.cells #[.int .i64 0, .int .i64 1, .int .i64 5, .int .i64 63, .int .i64 64] 2)).cell? ⟨u3.heap.size, i, none⟩ = some (.int .i64 (([0, 1, 5, 63, 64] : List Int).getD i 0))) := cells_lit u3 [0, 1, 5, 63, 64] 2 _ rfl
    go_wp2_with fail
    refine (pick_any _ _ _ a len cap zs _ (S3.alloc _) (by omega) u3.heap.size [0, 1, 5, 63, 64] 5 rfl (by simp) (by have := S3.lt; omega) (by omega) (by omega) 5 PH.out).mono ?_
    rintro e u5 ⟨x, rfl, hp5, S5, Y5⟩
    clear PH
    have xb : 0 ≤ x ∧ x ≤ 64 := by simp at hp5; omega
    have P5 : OwnS u5 u1.heap.size (.slice a1 (l).length c1) (l) := own_only (own2_below P3 ((Below.refl _ _).alloc (Nat.le_refl _) _)) Y5 hs1
    have N5 := (Only.alloc N3 (.cells #[.int .i64 0, .int .i64 1, .int .i64 5, .int .i64 63, .int .i64 64] 2)).trans Y5
    clear P3 S3 N3 Y5 hp5
    have PH : Hid (∀ i, i < ([7, 65520, 65521] : List Int).length → (u5.alloc (.cells #[.int .i64 7, .int .i64 65520, .int .i64 65521] 2)).cell? ⟨u5.heap.size, i, none⟩ = some (.int .i64 (([7, 65520, 65521] : List Int).getD i 0))) := cells_lit u5 [7, 65520, 65521] 2 _ rfl
    go_wp2_with fail
    refine (pick_any _ _ _ a len cap zs _ (S5.alloc _) (by omega) u5.heap.size [7, 65520, 65521] 3 rfl (by simp) (by have := S5.lt; omega) (by omega) (by omega) 3 PH.out).mono ?_
    rintro e u6 ⟨y, rfl, hp6, S6, Y6⟩
    clear PH
    have yb : 7 ≤ y ∧ y ≤ 65521 := by simp at hp6; omega
    have P6 : OwnS u6 u1.heap.size (.slice a1 (l).length c1) (l) := own_only (own2_below P5 ((Below.refl _ _).alloc (Nat.le_refl _) _)) Y6 hs1
    have N6 := (N5.alloc (.cells #[.int .i64 7, .int .i64 65520, .int .i64 65521] 2)).trans Y6
    have W6 := AS.out _ N6
    have R6 := REH.out.below W6 REH.out.lt
    have k0 : u6.cell? ⟨w0.heap.size, 0, none⟩ = some (.int .i64 0) := (R6.cell 0).trans rfl
    have k1 : u6.cell? ⟨w0.heap.size, 1, none⟩ = some (.int .i64 0) := (R6.cell 1).trans rfl
    have f0 := R6.frozen 0
    have f1 := R6.frozen 1
    have PH : Hid (OwnS u6 u1.heap.size (.slice a1 (l).length c1) (l)) := P6
    have WH : Hid (Below w0.heap.size w0 u6) := B0.trans (W6.mono B0.size)
    clear P5 S5 N5 Y6 hp6 P6 N6 W6 R6 RE S6
    go_wp2
    refine bodyPost_ret (v := .tuple #[.slice a1 (l).length c1, .agg #[.int .i64 x, .int .i64 y]]) (by simp [results, Tryd.results28, go_sem, k0, k1]) rfl ⟨a1, c1, l, x, y, rfl, l13, xb, yb, ?_, ?_⟩
    · exact OwnS.has (own2_set (own2_set PH.out zz _) zz _) WF.out
    · exact (WH.out.setCell (Nat.le_refl _) _).setCell (Nat.le_refl _) _
  | true =>
    have P0 : OwnS u3 u1.heap.size (.slice none 0 0) [] := nil_ownS _ _
    clear P3 l13 WF
    go_wp2
    go_loopw [5, 6] (fun v kk wr => ∃ (j : Nat) (m : List Sl), kk = .int .i64 j ∧ j ≤ 12 ∧ m.length = j ∧ WfS m ∧ OwnS wr u1.heap.size v m ∧ SrcAt wr u0 u0 a len cap zs ((t1 + 1)) ∧ Only u0 u1 wr) (fun _ kk _ => 12 - (intOf kk).toNat)
    case atStart => exact ⟨0, [], rfl, by omega, rfl, by simp [WfS], P0, S3, N3⟩
    case round =>
      clear P0 S3 N3
      obtain ⟨j, m, rfl, hj, hm, wm, P, S, N⟩ := hrel
      obtain ⟨va, vc, rfl, hvc⟩ := own2_shape P
      have WM : Hid (WfS m) := wm
      clear wm
      have ML : Hid (m.length = j) := hm
      by_cases hlt : j < 12
      · have hlt' : (j : Int) < 12 := by omega
        have lm : m.length ≤ 11 := by omega
        have zN := N.size
        have WX : Hid (WfS (m ++ [(2 * (j : Int), (0 : Int))])) := fun r hr => by
          simp at hr
          rcases hr with hr | rfl
          · exact WM.out r hr
          · exact ⟨WalkArith.wf_i64 (by omega), rfl⟩
        clear hm
        go_wp2_with (at_builtin; refine wpList_append_own _ rfl _ _ 24 rfl u1.heap.size 50 i0 (.agg #[.int .i64 0, .int .i64 0]) 2 16 Tryd.underlying24 hi hz0 hz1 hz2 rfl (by decide) _ _ _ rfl (P.alloc _) ⟨wr.heap.size, 0, none⟩ 1 1 [.int .i64 (2 * (j : Int)), .int .i64 0] rfl rfl (two_new _ _ _ _) (by intro u hu; simp at hu; rcases hu with rfl | rfl <;> rfl) (by unfold maxLen; omega) (by omega) (by simp; omega) ?_; intro v' w3 hown3 hgrow _h4)
        have hbel : Below u1.heap.size (wr.alloc (.cells #[.int .i64 (2 * (j : Int)), .int .i64 0] 50)) w3 := (Below.refl _ _).grown hgrow (by simp; omega) (fun k hk => (P.lt k hk).1)
        have bA : Below wr.heap.size wr (wr.alloc (.cells #[.int .i64 (2 * (j : Int)), .int .i64 0] 50)) := (Below.refl _ _).alloc (Nat.le_refl _) _
        have P5 : Hid (OwnS w3 u1.heap.size v' (m ++ [(2 * (j : Int), (0 : Int))])) := app_own hown3
        have S5 := (S.below bA).below' hbel hs1
        have N5 := (N.alloc _).then_below hbel
        have LX : Hid ((m ++ [(2 * (j : Int), (0 : Int))]).length = j + 1) := by show _ = _; simp; exact ML.out
        clear hgrow hown3 _h4 hbel bA P S N
        go_wp2
        go_roundw
        case rel => exact ⟨j + 1, _, by go_num, by omega, LX.out, WX.out, P5.out, S5, N5⟩
        case measure => simp [intOf]; omega
      · have WF : Hid (WfS m) := WM.out
        have l13 : m.length ≤ 13 := by omega
        have hlt' : ¬ (j : Int) < 12 := by omega
        clear hm
        have PH : Hid (∀ i, i < ([0, 1, 5, 63, 64] : List Int).length → (wr.alloc (.cells #[.int .i64 0, .int .i64 1, .int .i64 5, .int .i64 63, .int .i64 64] 2)).cell? ⟨wr.heap.size, i, none⟩ = some (.int .i64 (([0, 1, 5, 63, 64] : List Int).getD i 0))) := cells_lit wr [0, 1, 5, 63, 64] 2 _ rfl
        go_wp2_with fail
        refine (pick_any _ _ _ a len cap zs _ (S.alloc _) (by omega) wr.heap.size [0, 1, 5, 63, 64] 5 rfl (by simp) (by have := S.lt; omega) (by omega) (by omega) 5 PH.out).mono ?_
        rintro e u5 ⟨x, rfl, hp5, S5, Y5⟩
        clear PH
        have xb : 0 ≤ x ∧ x ≤ 64 := by simp at hp5; omega
        have P5 : OwnS u5 u1.heap.size (.slice va (m).length vc) (m) := own_only (own2_below P ((Below.refl _ _).alloc (Nat.le_refl _) _)) Y5 hs1
        have N5 := (Only.alloc N (.cells #[.int .i64 0, .int .i64 1, .int .i64 5, .int .i64 63, .int .i64 64] 2)).trans Y5
        clear P S N Y5 hp5
        have PH : Hid (∀ i, i < ([7, 65520, 65521] : List Int).length → (u5.alloc (.cells #[.int .i64 7, .int .i64 65520, .int .i64 65521] 2)).cell? ⟨u5.heap.size, i, none⟩ = some (.int .i64 (([7, 65520, 65521] : List Int).getD i 0))) := cells_lit u5 [7, 65520, 65521] 2 _ rfl
        go_wp2_with fail
        refine (pick_any _ _ _ a len cap zs _ (S5.alloc _) (by omega) u5.heap.size [7, 65520, 65521] 3 rfl (by simp) (by have := S5.lt; omega) (by omega) (by omega) 3 PH.out).mono ?_
        rintro e u6 ⟨y, rfl, hp6, S6, Y6⟩
        clear PH
        have yb : 7 ≤ y ∧ y ≤ 65521 := by simp at hp6; omega
        have P6 : OwnS u6 u1.heap.size (.slice va (m).length vc) (m) := own_only (own2_below P5 ((Below.refl _ _).alloc (Nat.le_refl _) _)) Y6 hs1
        have N6 := (N5.alloc (.cells #[.int .i64 7, .int .i64 65520, .int .i64 65521] 2)).trans Y6
        have W6 := AS.out _ N6
        have R6 := REH.out.below W6 REH.out.lt
        have k0 : u6.cell? ⟨w0.heap.size, 0, none⟩ = some (.int .i64 0) := (R6.cell 0).trans rfl
        have k1 : u6.cell? ⟨w0.heap.size, 1, none⟩ = some (.int .i64 0) := (R6.cell 1).trans rfl
        have f0 := R6.frozen 0
        have f1 := R6.frozen 1
        have PH : Hid (OwnS u6 u1.heap.size (.slice va (m).length vc) (m)) := P6
        have WH : Hid (Below w0.heap.size w0 u6) := B0.trans (W6.mono B0.size)
        clear P5 S5 N5 Y6 hp6 P6 N6 W6 R6 RE S6
        go_wp2
        refine bodyPost_ret (v := .tuple #[.slice va (m).length vc, .agg #[.int .i64 x, .int .i64 y]]) (by simp [results, Tryd.results28, go_sem, k0, k1]) rfl ⟨va, vc, m, x, y, rfl, l13, xb, yb, ?_, ?_⟩
        · exact OwnS.has (own2_set (own2_set PH.out zz _) zz _) WF.out
        · exact (WH.out.setCell (Nat.le_refl _) _).setCell (Nat.le_refl _) _

end Go.Proofs.YtjjddjohckcmbaaDoor
