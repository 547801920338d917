/- Contracts: the model's sums of pieces. -/
import Derived.Test.YtklhkhlmhddmcaaDoorPcsC
import Derived.Test.YtklhkhlmhddmcaaDoorSource
import Derived.Test.YtklhkhlmhddmcaaDoorLvl
namespace Go.Proofs.YtklhkhlmhddmcaaDoor
open Go.ChangeShapes Go.WideShapes Go.ChangeAt Go.RowKit
set_option linter.unusedVariables false
set_option linter.unusedSimpArgs false

/-- The sums of pieces. -/
def smL (rs : List Pc) : List Int := rs.map fun r => sumL (leafL r.zs)
theorem smL_len (rs : List Pc) : (smL rs).length = rs.length := by unfold smL; simp
theorem smL_succ {rs : List Pc} {k : Nat} (h : k < rs.length) : smL (rs.take (k + 1)) = smL (rs.take k) ++ [sumL (leafL rs[k].zs)] := by
  unfold smL
  rw [List.take_succ_eq_append_getElem h, List.map_append]
  rfl
theorem smL_all (rs : List Pc) : allS (smL rs) = true := by
  unfold smL allS
  rw [List.all_eq_true]
  intro x hx
  obtain ⟨r, _, rfl⟩ := List.mem_map.1 hx
  have := sum_bd (leafL r.zs)
  simp
  omega
theorem smL_zs {rs qs : List Pc} (h : qs.map Pc.zs = rs.map Pc.zs) : smL qs = smL rs := by
  have e : ∀ l : List Pc, smL l = (l.map Pc.zs).map fun z => sumL (leafL z) := fun l => by unfold smL; rw [List.map_map]; rfl
  rw [e, e, h]
/-- The code of PieceSums is the fault; its list. -/
def psL (rs : List Pc) : List Int := if pcF rs = 0 then smL rs else []
theorem pcF_zero {rs : List Pc} (h : pcF rs = 0) : rs.length ≤ 24 ∧ ∀ r ∈ rs, r.zs.length ≤ 250 := by
  unfold pcF at h
  split at h
  · omega
  · split at h
    · rename_i h1 h2
      refine ⟨by omega, fun r hr => ?_⟩
      have := List.all_eq_true.1 h2 r hr
      simpa using this
    · omega

set_option maxHeartbeats 2000000 in
theorem l6Sums_any (a : Option Addr) (c : Nat) (rs : List Pc) (w : World) (h : HasP w a rs) (hl : rs.length ≤ 24) (hz : ∀ r ∈ rs, r.zs.length ≤ 1048576) :
    Calls Tryd.prog 54 #[.slice a rs.length c] w fun r w' => ∃ pa pc, r = .returned (.slice pa (smL rs).length pc) ∧ World.ownsRow w' w.heap.size 2 1 (.slice pa (smL rs).length pc) (smL rs).length ((smL rs).map (.int .i64)) ∧ Below w.heap.size w w' := by
  obtain ⟨i0, hi, hz0, hz1, hz2⟩ := info_parts info64
  have hown0 : (w.alloc (.cells #[] 2)).ownsRow w.heap.size 2 1 (.slice (some ⟨w.heap.size, 0, none⟩) 0 0) 0 (([] : List Int).map (.int .i64)) := World.ownsRow_lit w #[] 0 (Nat.le_refl _) (Nat.zero_le _) rfl
  have B0 : Below w.heap.size w (w.alloc (.cells #[] 2)) := (Below.refl _ _).alloc (Nat.le_refl _) _
  rcases h.1 with h0 | ⟨b, off, rfl, hb, hcell⟩
  · obtain rfl : rs = [] := List.eq_nil_of_length_eq_zero h0
    simp only [List.length_nil] at *
    go_enter Tryd.func54, Tryd.ntmps54
    go_wp2
    refine wp_loop_rounds 1 ?_
    rw [rounds_succ]
    go_wp2
    go_ret
    exact ⟨some ⟨w.heap.size, 0, none⟩, 0, rfl, hown0, B0⟩
  · go_enter Tryd.func54, Tryd.ntmps54
    go_wp2
    go_loopw [3, 4] (fun v i wr => ∃ k : Nat, k ≤ rs.length ∧ i = .int .i64 k ∧ wr.ownsRow w.heap.size 2 1 v k ((smL (rs.take k)).map (.int .i64)) ∧ Below w.heap.size w wr) (fun _ i _ => rs.length - (intOf i).toNat)
    case atStart => exact ⟨0, Nat.zero_le _, rfl, hown0, B0⟩
    case round =>
      clear hown0 B0
      obtain ⟨k, hk, rfl, hown, hbel⟩ := hrel
      obtain ⟨va, vc, rfl⟩ := own_row_shape hown
      by_cases hlt : k < rs.length
      · have hlt' : (k : Int) < (rs.length : Int) := by omega
        have hx : wr.cell? ⟨b, off + k, none⟩ = some (.slice rs[k].ad rs[k].zs.length rs[k].cap) := (hbel.cell (p := ⟨b, off + k, none⟩) hb).trans (hcell k hlt)
        have hrow := h.2 rs[k] (List.getElem_mem hlt)
        have hzk := hz rs[k] (List.getElem_mem hlt)
        have HS : Hid (smL (rs.take (k + 1)) = smL (rs.take k) ++ [sumL (leafL rs[k].zs)]) := smL_succ hlt
        have LF : Hid (Calls Tryd.prog 72 #[.slice rs[k].ad rs[k].zs.length rs[k].cap] wr fun r w' => ∃ a' c', r = .returned (.slice a' (leafL rs[k].zs).length c') ∧ Has w' .u8 a' (leafL rs[k].zs).length (leafL rs[k].zs) ∧ Below wr.heap.size wr w') := by
          refine (l2Leaf_any rs[k].ad rs[k].cap rs[k].zs wr (hrow.1.below hbel (Nat.le_refl _)) (by omega)).mono ?_
          rintro r w' ⟨a', c', rfl, ho, hb'⟩
          exact ⟨a', c', by simp [leafL], has_of_own ho (leaf_wf hrow.1.2.1), hb'⟩
        have hll : (leafL rs[k].zs).length ≤ 2097152 := by simp [leafL]; omega
        have HO : Hid (wr.ownsRow w.heap.size 2 1 (.slice va k vc) k ((smL (rs.take k)).map (.int .i64))) := hown
        clear hown hrow hcell h
        generalize leafL rs[k].zs = lf at *
        go_wp2_with fail
        refine LF.out.mono ?_
        rintro r u1 ⟨a', c', rfl, H1, hb1⟩
        go_wp2_with fail
        refine (l2Sum_any a' c' lf _ H1 hll).mono ?_
        rintro r u ⟨rfl, hu⟩
        have hu2 := hu.symm
        subst hu2
        clear hu
        have B1 := hbel.trans (hb1.mono hbel.size)
        have O1 : Hid (u1.ownsRow w.heap.size 2 1 (.slice va k vc) k ((smL (rs.take k)).map (.int .i64))) := own_below HO.out hb1
        have z1 := B1.size
        clear hb1 H1 hx
        go_wp2_with (at_builtin; refine wpList_append_own _ rfl _ _ 25 rfl w.heap.size 2 i0 (.int .i64 0) 1 8 Tryd.underlying25 hi hz0 hz1 hz2 rfl (by decide) _ _ _ rfl (O1.out.alloc _) ⟨u1.heap.size, 0, none⟩ 1 1 [.int .i64 (sumL lf)] rfl rfl (one_new _ _ _) (by intro u hu; simp at hu; subst hu; rfl) (by unfold maxLen; omega) (by omega) (by simp; omega) ?_; intro v' w3 hown3 hgrow _h4)
        have B6 : Below w.heap.size w (u1.alloc (.cells #[.int .i64 (sumL lf)] 2)) := B1.alloc B1.size _
        have B7 := B6.grown hgrow B6.size (fun j e => (O1.out.lt j e).1)
        have O3 : Hid (w3.ownsRow w.heap.size 2 1 v' (k + 1) ((smL (rs.take (k + 1))).map (.int .i64))) := by
          show World.ownsRow _ _ _ _ _ _ _
          rw [HS.out, List.map_append]
          exact hown3
        clear hgrow hown3 _h4 B6
        go_wp2
        go_roundw
        case rel => exact ⟨k + 1, by omega, by go_num, O3.out, B7⟩
        case measure => simp [intOf]; omega
      · have HK : Hid (rs.take k = rs ∧ k = rs.length) := by
          refine ⟨List.take_of_length_le (by omega), by omega⟩
        go_wp2
        go_ret
        have h1 := HK.out.1
        have h2 := HK.out.2
        rw [h1] at hown
        subst h2
        exact ⟨va, vc, by rw [smL_len]; rfl, by rw [smL_len]; exact hown, hbel⟩

set_option maxHeartbeats 2000000 in
theorem specPieceSums_any (a : Option Addr) (c : Nat) (rs : List Pc) (w : World) (h : HasP w a rs) (hl : rs.length ≤ 1048576) (hz : ∀ r ∈ rs, r.zs.length ≤ 1048576) :
    Calls Tryd.prog 16 #[.slice a rs.length c] w fun r w' => ∃ pa pc, r = .returned (.agg #[.int .i64 (pcF rs), .slice pa (psL rs).length pc]) ∧ World.ownsRow w' w.heap.size 2 1 (.slice pa (psL rs).length pc) (psL rs).length ((psL rs).map (.int .i64)) ∧ Below w.heap.size w w' := by
  have B0 : Below w.heap.size w (w.alloc (.cells #[.int .i64 0, .slice none 0 0] 35)) := (Below.refl _ _).alloc (Nat.le_refl _) _
  have LF : Hid (∀ u : World, Below w.heap.size w u → Calls Tryd.prog 64 #[.slice a rs.length c] u fun r w' => r = .returned (.int .i64 (pcF rs)) ∧ Below u.heap.size u w') := fun u hu => l6Fault_any a c rs u (h.below hu (Nat.le_refl _)) hl hz
  by_cases h0 : pcF rs = 0
  · obtain ⟨g1, g2⟩ := pcF_zero h0
    have hL : psL rs = smL rs := by unfold psL; rw [if_pos h0]
    have SM : Hid (∀ u : World, Below w.heap.size w u → Calls Tryd.prog 54 #[.slice a rs.length c] u fun r w' => ∃ pa pc, r = .returned (.slice pa (smL rs).length pc) ∧ World.ownsRow w' u.heap.size 2 1 (.slice pa (smL rs).length pc) (smL rs).length ((smL rs).map (.int .i64)) ∧ Below u.heap.size u w') := fun u hu => l6Sums_any a c rs u (h.below hu (Nat.le_refl _)) g1 hz
    rw [hL]
    rw [h0] at LF ⊢
    clear hL h0 g2
    generalize smL rs = ps at *
    go_enter Tryd.func16, Tryd.ntmps16
    go_wp2_with fail
    refine (LF.out _ B0).mono ?_
    rintro r u1 ⟨rfl, hb1⟩
    have B1 : Below w.heap.size w u1 := B0.trans (hb1.mono (by simp))
    obtain ⟨hc1, hf1⟩ := bcell hb1
    have z1 := hb1.size
    simp at z1
    have y1 : w.heap.size < u1.heap.size := by omega
    go_wp2_with fail
    refine (SM.out _ B1).mono ?_
    rintro r u2 ⟨pa, pc, rfl, hown, hb2⟩
    have B2 : Below w.heap.size w u2 := B1.trans (hb2.mono B1.size)
    obtain ⟨hc2, hf2⟩ := bcell hb2
    have z2 := hb2.size
    have y2 : w.heap.size < u2.heap.size := by omega
    have HO : Hid (u2.ownsRow (w.heap.size + 1) 2 1 (.slice pa ps.length pc) ps.length (ps.map (.int .i64))) := own_mono hown (by omega)
    clear hown SM LF
    go_wp2
    refine bodyPost_ret (v := .agg #[.int .i64 0, .slice pa ps.length pc]) (by simp [results, Tryd.results16, go_sem, hc1, hc2, y1]) rfl ⟨pa, pc, rfl, ?_, ?_⟩
    · have fs : Fr (fun k => k = w.heap.size) u2 ((u2.setCell ⟨w.heap.size, 0, none⟩ (.int .i64 0)).setCell ⟨w.heap.size, 1, none⟩ (.slice pa ps.length pc)) := by
        refine Fr.setCell (Fr.setCell (Fr.refl _ _) _ _ ?_) _ _ ?_ <;> rfl
      have h5 := own_fr HO.out fs (fun g e1 e2 => by have := (HO.out.lt g e1).1; omega)
      exact own_mono h5 (by omega)
    · repeat (first | exact B2 | (refine Below.setCell ?_ (by (try simp) <;> omega) _))
  · have hL : psL rs = [] := by unfold psL; rw [if_neg h0]
    have b0 : (pcF rs != 0) = true := by simpa using h0
    rw [hL]
    clear hL h0
    generalize pcF rs = cc at *
    go_enter Tryd.func16, Tryd.ntmps16
    go_wp2_with fail
    refine (LF.out _ B0).mono ?_
    rintro r u1 ⟨rfl, hb1⟩
    have B1 : Below w.heap.size w u1 := B0.trans (hb1.mono (by simp))
    obtain ⟨hc1, hf1⟩ := bcell hb1
    have z1 := hb1.size
    simp at z1
    have y1 : w.heap.size < u1.heap.size := by omega
    clear LF
    go_wp2
    refine bodyPost_ret (v := .agg #[.int .i64 cc, .slice none 0 0]) (by simp [results, Tryd.results16, go_sem, hc1]) rfl ⟨none, 0, rfl, World.ownsRow_nil _ _ _ _, ?_⟩
    repeat (first | exact B1 | (refine Below.setCell ?_ (by (try simp) <;> omega) _))

end Go.Proofs.YtklhkhlmhddmcaaDoor
