/- Contracts: the program's sums of pieces. -/
import Derived.Test.YtklhkhlmhddmcaaDoorPcsF
import Derived.Test.YtklhkhlmhddmcaaDoorSums6
import Derived.Test.YtklhkhlmhddmcaaDoorISums
namespace Go.Proofs.YtklhkhlmhddmcaaDoor
open Go.ChangeShapes Go.WideShapes Go.ChangeAt Go.RowKit
set_option linter.unusedVariables false
set_option linter.unusedSimpArgs false

set_option maxHeartbeats 4000000 in
theorem implPieceSums_any (a : Option Addr) (c : Nat) (rs : List Pc) (w : World) (hT : Tab w) (h : HasP w a rs) (hl : rs.length ≤ 1048576) (hz : ∀ r ∈ rs, r.zs.length ≤ 1048576) :
    Calls Tryd.prog 15 #[.slice a rs.length c] w fun r w' => ∃ pa pc, r = .returned (.agg #[.int .i64 (pcF rs), .slice pa (psL rs).length pc]) ∧ World.ownsRow w' w.heap.size 2 1 (.slice pa (psL rs).length pc) (psL rs).length ((psL rs).map (.int .i64)) ∧ Below w.heap.size w w' := by
  obtain ⟨i0, hi, hz0, hz1, hz2⟩ := info_parts info64
  have B0 : Below w.heap.size w (w.alloc (.cells #[.int .i64 0, .slice none 0 0] 35)) := (Below.refl _ _).alloc (Nat.le_refl _) _
  have LF : Hid (∀ u : World, Below w.heap.size w u → Calls Tryd.prog 18 #[.slice a rs.length c] u fun r w' => r = .returned (.int .i64 (pcF rs)) ∧ Below u.heap.size u w') := fun u hu => implPiecesFault_any a c rs u (h.below hu (Nat.le_refl _)) hl hz
  by_cases h0 : pcF rs = 0
  · obtain ⟨g1, g2⟩ := pcF_zero h0
    have hL : psL rs = smL rs := by unfold psL; rw [if_pos h0]
    rw [hL]
    rw [h0] at LF ⊢
    have G2 : Hid (_) := g2
    have F1 := fldR1
    clear hL h0 g2 hz
    go_enter Tryd.func15, Tryd.ntmps15
    go_wp2_with fail
    refine (LF.out _ B0).mono ?_
    rintro r u1 ⟨rfl, hb1⟩
    have B1 : Below w.heap.size w u1 := B0.trans (hb1.mono (by simp))
    have CV : Hid (∀ wx : World, Below (w.heap.size + 1) u1 wx → (wx.cell? ⟨w.heap.size, 0, none⟩ = some (.int .i64 0) ∧ wx.cell? ⟨w.heap.size, 1, none⟩ = some (.slice none 0 0)) ∧ (wx.frozen? ⟨w.heap.size, 0, none⟩ = false ∧ wx.frozen? ⟨w.heap.size, 1, none⟩ = false)) := by
      intro wx hx
      have q : Below (w.heap.size + 1) (w.alloc (.cells #[.int .i64 0, .slice none 0 0] 35)) wx := (hb1.mono (by simp)).trans hx
      refine ⟨⟨(q.cell (p := ⟨w.heap.size, 0, none⟩) (Nat.lt_succ_self _)).trans ?_, (q.cell (p := ⟨w.heap.size, 1, none⟩) (Nat.lt_succ_self _)).trans ?_⟩, (q.frozen (p := ⟨w.heap.size, 0, none⟩) (Nat.lt_succ_self _)).trans ?_, (q.frozen (p := ⟨w.heap.size, 1, none⟩) (Nat.lt_succ_self _)).trans ?_⟩ <;> simp [go_sem]
    have z1 := hb1.size
    simp at z1
    have hown0 : u1.ownsRow (w.heap.size + 1) 2 1 (.slice none 0 0) 0 ((smL (rs.take 0)).map (.int .i64)) := by
      show u1.ownsRow _ _ _ _ 0 []
      exact World.ownsRow_nil _ _ _ _
    have C1 : Below (w.heap.size + 1) u1 u1 := Below.refl _ _
    have HP : Hid (∀ wx : World, Below w.heap.size w wx → HasP wx a rs) := fun wx hx => h.below hx (Nat.le_refl _)
    have TT : Hid (∀ wx : World, Below w.heap.size w wx → Tab wx) := fun wx hx => hT.below hx (Nat.le_refl _)
    clear LF hb1 hT
    rcases h.1 with e0 | ⟨b, off, rfl, hb, hcell⟩
    · have e0' : (rs.length : Int) = 0 := by omega
      obtain rfl : rs = [] := List.eq_nil_of_length_eq_zero e0
      simp only [List.length_nil] at *
      obtain ⟨⟨k0, k1⟩, f0, f1⟩ := CV.out _ C1
      have y1 : w.heap.size < u1.heap.size := by omega
      go_wp2
      refine wp_loop_rounds 1 ?_
      rw [rounds_succ]
      go_wp2
      refine bodyPost_ret (v := .agg #[.int .i64 0, .slice none 0 0]) (by simp [results, Tryd.results15, go_sem, k0, k1]) rfl ⟨none, 0, rfl, World.ownsRow_nil _ _ _ _, ?_⟩
      exact (B1.setCell (Nat.le_refl _) _).setCell (Nat.le_refl _) _
    · go_wp2
      go_loopw [4, 15] (fun v i wr => ∃ k : Nat, k ≤ rs.length ∧ i = .int .i64 k ∧ wr.ownsRow (w.heap.size + 1) 2 1 v k ((smL (rs.take k)).map (.int .i64)) ∧ Below (w.heap.size + 1) u1 wr ∧ Below w.heap.size w wr) (fun _ i _ => rs.length - (intOf i).toNat)
      case atStart => exact ⟨0, Nat.zero_le _, rfl, hown0, C1, B1⟩
      case round =>
        clear hown0 B1 C1
        obtain ⟨k, hk, rfl, hown, hC, hbel⟩ := hrel
        obtain ⟨va, vc, rfl⟩ := own_row_shape hown
        by_cases hlt : k < rs.length
        · have hlt' : (k : Int) < (rs.length : Int) := by omega
          have hx : wr.cell? ⟨b, off + k, none⟩ = some (.slice rs[k].ad rs[k].zs.length rs[k].cap) := (hbel.cell (p := ⟨b, off + k, none⟩) hb).trans (hcell k hlt)
          have hzk := G2.out rs[k] (List.getElem_mem hlt)
          have HS : Hid (smL (rs.take (k + 1)) = smL (rs.take k) ++ [sumL (leafL rs[k].zs)]) := smL_succ hlt
          have TD : Tab (wr.drewN 0) := TT.out _ hbel
          have LF : Hid (∀ wx : World, Below wr.heap.size wr wx → Calls Tryd.prog 57 #[.slice rs[k].ad rs[k].zs.length rs[k].cap] wx fun r w' => r = .returned (.agg #[.int .i64 0, .int .i64 (sumL (leafL rs[k].zs))]) ∧ Below wx.heap.size wx w') := by
            intro wx hw
            have q := hbel.trans (hw.mono hbel.size)
            have := implLeafSum_any rs[k].ad rs[k].cap rs[k].zs wx (TT.out _ q) ((HP.out _ q).2 rs[k] (List.getElem_mem hlt)).1
            rw [show leafC rs[k].zs = 0 by unfold leafC; rw [if_neg (by omega)], show leafV rs[k].zs = sumL (leafL rs[k].zs) by unfold leafV; rw [if_neg (by omega)]] at this
            exact this
          have HO : Hid (wr.ownsRow (w.heap.size + 1) 2 1 (.slice va k vc) k ((smL (rs.take k)).map (.int .i64))) := hown
          clear hown hcell h TD
          generalize sumL (leafL rs[k].zs) = sv at *
          go_wp2_with fail
          refine (LF.out _ (by first | exact Below.refl _ _ | exact below_drewN (Below.refl _ _) _ | exact (Below.refl _ _).drew)).mono ?_
          rintro r u2 ⟨rfl, hb2⟩
          have hb3 : Below wr.heap.size wr u2 := by first | exact hb2 | exact ((Below.refl _ _).drew).trans hb2 | exact (below_drewN (Below.refl _ _) _).trans hb2
          have B2 := hbel.trans (hb3.mono hbel.size)
          have C2 := hC.trans (hb3.mono (by have := hC.size; omega))
          have O1 : Hid (u2.ownsRow (w.heap.size + 1) 2 1 (.slice va k vc) k ((smL (rs.take k)).map (.int .i64))) := own_below HO.out hb3
          have z2 := C2.size
          clear hb3 hb2 hx
          go_wp2_with (at_builtin; refine wpList_append_own _ rfl _ _ 25 rfl (w.heap.size + 1) 2 i0 (.int .i64 0) 1 8 Tryd.underlying25 hi hz0 hz1 hz2 rfl (by decide) _ _ _ rfl (O1.out.alloc _) ⟨u2.heap.size, 0, none⟩ 1 1 [.int .i64 sv] rfl rfl (one_new _ _ _) (by intro u hu; simp at hu; subst hu; rfl) (by unfold maxLen; omega) (by omega) (by simp; omega) ?_; intro v' w3 hown3 hgrow _h4)
          have B6 : Below w.heap.size w (u2.alloc (.cells #[.int .i64 sv] 2)) := B2.alloc (by omega) _
          have C6 : Below (w.heap.size + 1) u1 (u2.alloc (.cells #[.int .i64 sv] 2)) := C2.alloc (by omega) _
          have B7 := B6.grown hgrow B6.size (fun j e => by have := (O1.out.lt j e).1; omega)
          have C7 := C6.grown hgrow (by simp; omega) (fun j e => (O1.out.lt j e).1)
          have O3 : Hid (w3.ownsRow (w.heap.size + 1) 2 1 v' (k + 1) ((smL (rs.take (k + 1))).map (.int .i64))) := by
            show World.ownsRow _ _ _ _ _ _ _
            rw [HS.out, List.map_append]
            exact hown3
          clear hgrow hown3 _h4 B6 C6
          go_wp2
          go_roundw
          case rel => exact ⟨k + 1, by omega, by go_num, O3.out, C7, B7⟩
          case measure => simp [intOf]; omega
        · have HK : Hid (rs.take k = rs ∧ k = rs.length) := ⟨List.take_of_length_le (by omega), by omega⟩
          obtain ⟨⟨k0, k1⟩, f0, f1⟩ := CV.out _ hC
          have y1 : w.heap.size < wr.heap.size := by have := hC.size; omega
          have h1 := HK.out.1
          have h2 := HK.out.2
          rw [h1] at hown
          have HO : Hid (wr.ownsRow (w.heap.size + 1) 2 1 (.slice va k vc) k ((smL rs).map (.int .i64))) := hown
          clear hown h1 h2
          go_wp2
          refine bodyPost_ret (v := .agg #[.int .i64 0, .slice va k vc]) (by simp [results, Tryd.results15, go_sem, k0, k1]) rfl ⟨va, vc, ?_, ?_, ?_⟩
          · rw [smL_len, HK.out.2]
          · have h2 := HK.out.2
            subst h2
            rw [smL_len]
            have fs : Fr (fun k => k = w.heap.size) wr ((wr.setCell ⟨w.heap.size, 0, none⟩ (.int .i64 0)).setCell ⟨w.heap.size, 1, none⟩ (.slice va rs.length vc)) := by
              refine Fr.setCell (Fr.setCell (Fr.refl _ _) _ _ ?_) _ _ ?_ <;> rfl
            have h5 := own_fr HO.out fs (fun g e1 e2 => by have := (HO.out.lt g e1).1; omega)
            exact own_mono h5 (by omega)
          · exact (hbel.setCell (Nat.le_refl _) _).setCell (Nat.le_refl _) _
  · have hL : psL rs = [] := by unfold psL; rw [if_neg h0]
    have b0 : (pcF rs != 0) = true := by simpa using h0
    rw [hL]
    clear hL h0
    generalize pcF rs = cc at *
    go_enter Tryd.func15, Tryd.ntmps15
    go_wp2_with fail
    refine (LF.out _ B0).mono ?_
    rintro r u1 ⟨rfl, hb1⟩
    have B1 : Below w.heap.size w u1 := B0.trans (hb1.mono (by simp))
    obtain ⟨hc1, hf1⟩ := bcell hb1
    have z1 := hb1.size
    simp at z1
    have y1 : w.heap.size < u1.heap.size := by omega
    clear LF
    go_wp2
    refine bodyPost_ret (v := .agg #[.int .i64 cc, .slice none 0 0]) (by simp [results, Tryd.results15, go_sem, hc1]) rfl ⟨none, 0, rfl, World.ownsRow_nil _ _ _ _, ?_⟩
    repeat (first | exact B1 | (refine Below.setCell ?_ (by (try simp) <;> omega) _))

theorem psL_zs {rs qs : List Pc} (h : qs.map Pc.zs = rs.map Pc.zs) : psL qs = psL rs := by unfold psL; rw [pcF_zs h, smL_zs h]
theorem psL_wf (rs : List Pc) : (psL rs).length ≤ 1048576 ∧ ∀ n ∈ psL rs, (Lit.int .i64 n).wf = true := by
  unfold psL
  split
  · obtain ⟨h1, _⟩ := pcF_zero ‹_›
    have hl := smL_len rs
    refine ⟨by omega, fun n hn => ?_⟩
    have ha := smL_all rs
    unfold allS at ha
    rw [List.all_eq_true] at ha
    have := ha n hn
    simp at this
    exact WalkArith.wf_i64 (by omega)
  · exact ⟨by simp, by simp⟩
/-- A contract of sums that speaks of a copy speaks of what was copied. -/
theorem pcs_sums {rs qs : List Pc} (e : qs.map Pc.zs = rs.map Pc.zs) {f : Nat} {p : Option Addr} {x : World} (h : Calls Tryd.prog f #[.slice p qs.length rs.length] x fun r w' => ∃ pa pc, r = .returned (.agg #[.int .i64 (pcF qs), .slice pa (psL qs).length pc]) ∧ World.ownsRow w' x.heap.size 2 1 (.slice pa (psL qs).length pc) (psL qs).length ((psL qs).map (.int .i64)) ∧ Below x.heap.size x w') :
    Calls Tryd.prog f #[.slice p rs.length rs.length] x fun r w' => ∃ pa pc, r = .returned (.agg #[.int .i64 (pcF rs), .slice pa (psL rs).length pc]) ∧ World.ownsRow w' x.heap.size 2 1 (.slice pa (psL rs).length pc) (psL rs).length ((psL rs).map (.int .i64)) ∧ Below x.heap.size x w' := by
  rw [pcF_zs e, psL_zs e, zs_len e] at h
  exact h

end Go.Proofs.YtklhkhlmhddmcaaDoor
