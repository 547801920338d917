/- Contracts: the model's PieceClash, its loop. -/
import Derived.Test.YtklhkhlmhddmcaaDoorSPc
import Derived.Test.YtklhkhlmhddmcaaDoorExt6C
import Derived.Test.YtklhkhlmhddmcaaDoorSums6
import Derived.Deep.DeepCutAuto
namespace Go.Proofs.YtklhkhlmhddmcaaDoor
open Go.ChangeShapes Go.WideShapes Go.ChangeAt Go.RowKit
set_option linter.unusedVariables false
set_option linter.unusedSimpArgs false

set_option maxHeartbeats 16000000 in
set_option maxRecDepth 100000 in
theorem specPiece_loop (x y : Option Addr) (cx cy : Nat) (k1 k2 kc : Int) (KX : Cl) (ps qs : List Int) (rs ts : List Pc) (n1 n2 : Nat) (w : World) (h1 : k1 = 0) (h2 : k2 = 0) (hkc : kc = 0) (hKX : KX = none) (hn1 : rs.length = n1) (hn2 : ts.length = n2) (hlen : n1 = n2) (hn24 : n1 ≤ 24) (hx : HasP w x rs) (hy : HasP w y ts) (hz1 : ∀ r ∈ rs, r.zs.length ≤ 250) (hz2 : ∀ r ∈ ts, r.zs.length ≤ 250) (F1x : ∀ u : World, Below w.heap.size w u → Calls Tryd.prog 64 #[.slice x n1 cx] u fun r w' => r = .returned (.int .i64 k1) ∧ Below u.heap.size u w') (F2x : ∀ u : World, Below w.heap.size w u → Calls Tryd.prog 64 #[.slice y n2 cy] u fun r w' => r = .returned (.int .i64 k2) ∧ Below u.heap.size u w') (S1x : k1 = 0 → ∀ u : World, Below w.heap.size w u → Calls Tryd.prog 54 #[.slice x n1 cx] u fun r w' => ∃ pa pc, r = .returned (.slice pa ps.length pc) ∧ World.ownsRow w' u.heap.size 2 1 (.slice pa (ps).length pc) (ps).length ((ps).map (.int .i64)) ∧ Below u.heap.size u w') (S2x : k2 = 0 → ∀ u : World, Below w.heap.size w u → Calls Tryd.prog 54 #[.slice y n2 cy] u fun r w' => ∃ pa pc, r = .returned (.slice pa qs.length pc) ∧ World.ownsRow w' u.heap.size 2 1 (.slice pa (qs).length pc) (qs).length ((qs).map (.int .i64)) ∧ Below u.heap.size u w') (TCx : k1 = 0 → k2 = 0 → ∀ (u : World) (pa1 : Option Addr) (pc1 : Nat) (pa2 : Option Addr) (pc2 base1 base2 : Nat), Below w.heap.size w u → World.ownsRow u base1 2 1 (.slice pa1 ps.length pc1) ps.length (ps.map (.int .i64)) → World.ownsRow u base2 2 1 (.slice pa2 qs.length pc2) qs.length (qs.map (.int .i64)) → Calls Tryd.prog 32 #[.slice pa1 ps.length pc1, .slice pa2 qs.length pc2] u fun r w' => ∃ a1 c1 a2 c2, r = .returned (.agg #[.int .i64 (kc), .bool (KX).isSome, .slice a1 (clA (KX)).length c1, .slice a2 (clB (KX)).length c2]) ∧ OwnC w' u.heap.size a1 a2 c1 c2 (clA (KX)) (clB (KX)) ∧ Below u.heap.size u w') :
    Calls Tryd.prog 33 #[.slice x n1 cx, .slice y n2 cy] w fun r w' => ∃ a1 c1 a2 c2, r = .returned (.agg #[.int .i64 (0), .bool (lpC (rs.map Pc.zs) (ts.map Pc.zs)).isSome, .slice a1 (clA (lpC (rs.map Pc.zs) (ts.map Pc.zs))).length c1, .slice a2 (clB (lpC (rs.map Pc.zs) (ts.map Pc.zs))).length c2]) ∧ OwnC w' w.heap.size a1 a2 c1 c2 (clA (lpC (rs.map Pc.zs) (ts.map Pc.zs))) (clB (lpC (rs.map Pc.zs) (ts.map Pc.zs))) ∧ Below w.heap.size w w' := by
  have F1 : Hid (_) := F1x
  have F2 : Hid (_) := F2x
  have S1 : Hid (_) := S1x h1
  have S2 : Hid (_) := S2x h2
  have TC : Hid (_) := TCx h1 h2
  clear F1x F2x S1x S2x TCx
  subst h1 h2 hkc hKX
  subst hlen
  have N1 : Hid (_) := hn1
  have N2 : Hid (_) := hn2
  have X1H : Hid (_) := hx
  have Y1H : Hid (_) := hy
  have Z1H : Hid (_) := hz1
  have Z2H : Hid (_) := hz2
  clear hn1 hn2 hx hy hz1 hz2
  have B0 : Below w.heap.size w (w.alloc (.cells #[.int .i64 0, .bool false, .slice none 0 0, .slice none 0 0] 31)) := (Below.refl _ _).alloc (Nat.le_refl _) _
  obtain ⟨E, hE⟩ : ∃ E, E = w.alloc (.cells #[.int .i64 0, .bool false, .slice none 0 0, .slice none 0 0] 31) := ⟨_, rfl⟩
  rw [← hE] at B0
  have zE : w.heap.size < E.heap.size := by rw [hE]; simp
  have RV : Hid (∀ u : World, Below E.heap.size E u → (u.cell? ⟨w.heap.size, 0, none⟩ = some (.int .i64 0) ∧ u.cell? ⟨w.heap.size, 1, none⟩ = some (.bool false) ∧ u.cell? ⟨w.heap.size, 2, none⟩ = some (.slice none 0 0) ∧ u.cell? ⟨w.heap.size, 3, none⟩ = some (.slice none 0 0)) ∧ (u.frozen? ⟨w.heap.size, 0, none⟩ = false ∧ u.frozen? ⟨w.heap.size, 1, none⟩ = false ∧ u.frozen? ⟨w.heap.size, 2, none⟩ = false ∧ u.frozen? ⟨w.heap.size, 3, none⟩ = false)) := fun u h => var4 (by rw [← hE]; exact h)
  go_enter Tryd.func33, Tryd.ntmps33
  go_wp2_with fail
  simp only [← hE]
  clear hE
  refine (F1.out _ B0).mono ?_
  rintro r u1 ⟨rfl, hb1⟩
  have B1 := B0.trans (hb1.mono B0.size)
  go_wp2_with fail
  refine (F2.out _ B1).mono ?_
  rintro r u2 ⟨rfl, hb2⟩
  have B2 := B1.trans (hb2.mono B1.size)
  have D2 := hb1.trans (hb2.mono hb1.size)
  go_wp2_with fail
  refine (S1.out _ B2).mono ?_
  rintro r u3 ⟨pa1, pc1, rfl, O3, hb3⟩
  have B3 := B2.trans (hb3.mono B2.size)
  go_wp2_with fail
  refine (S2.out _ B3).mono ?_
  rintro r u4 ⟨pa2, pc2, rfl, O4, hb4⟩
  have B4 := B3.trans (hb4.mono B3.size)
  have D4 := (D2.trans (hb3.mono D2.size)).trans (hb4.mono (D2.trans (hb3.mono D2.size)).size)
  have TT := TC.out u4 pa1 pc1 pa2 pc2 _ _ B4 (own_below O3 hb4) O4
  have TTH : Hid (_) := TT
  clear TT O3 O4 hb1 hb2 hb3 hb4
  go_wp2_with fail
  refine Calls.mono (P := Tryd.prog) (f := 32) TTH.out ?_
  rintro r u5 ⟨a1, c1, a2, c2, rfl, O5, hb5⟩
  have B5 := B4.trans (hb5.mono B4.size)
  have D5 := D4.trans (hb5.mono D4.size)
  have z4 : w.heap.size < u4.heap.size := Nat.lt_of_lt_of_le zE D4.size
  have z5 : w.heap.size < u5.heap.size := Nat.lt_of_lt_of_le zE D5.size
  clear hb5 TTH D2 B1 B2 B3
  simp only [Option.isSome_none, clA, clB, List.length_nil]
  have D5' : Below E.heap.size E (u5.alloc (.cells #[.int .i64 0, .bool false, .slice a1 0 c1, .slice a2 0 c2] 31)) := D5.alloc D5.size _
  obtain ⟨⟨r0, r1, r2, r3⟩, ⟨g0, g1, g2, g3⟩⟩ := RV.out u5 D5
  go_wp2_with fail
  obtain ⟨U, hU⟩ : ∃ U, U = u5.alloc (.cells #[.int .i64 0, .bool false, .slice a1 0 c1, .slice a2 0 c2] 31) := ⟨_, rfl⟩
  simp only [← hU]
  rw [← hU] at D5'
  have BU := B0.trans (D5'.mono B0.size)
  clear hU O5 r0 r1 r2 r3 g0 g1 g2 g3 B5 D5 S1 S2 F1 F2 TC
  go_loopw [8] (fun i wr => ∃ k : Nat, k ≤ n1 ∧ i = .int .i64 k ∧ lpC (rs.map Pc.zs) (ts.map Pc.zs) = lpC ((rs.map Pc.zs).drop k) ((ts.map Pc.zs).drop k) ∧ Below E.heap.size E wr) (fun i _ => n1 - (intOf i).toNat)
  case atStart => exact ⟨0, Nat.zero_le _, rfl, rfl, D5'⟩
  case round =>
    clear D5' BU
    obtain ⟨k, hk, rfl, hlp, hD⟩ := hrel
    have BR := B0.trans (hD.mono B0.size)
    have zR : w.heap.size < wr.heap.size := Nat.lt_of_lt_of_le zE hD.size
    by_cases hlt : k < n1
    · have hn1 := N1.out
      have hn2 := N2.out
      have hx := X1H.out
      have hy := Y1H.out
      have hz1 := Z1H.out
      have hz2 := Z2H.out
      have hlt' : (k : Int) < (n1 : Int) := by omega
      have hk0 : (0 : Int) ≤ (k : Int) := by omega
      obtain ⟨b1, o1, hx1, hb1, hc1⟩ : ∃ b off, x = some ⟨b, off, none⟩ ∧ b < w.heap.size ∧ ∀ i (h : i < rs.length), w.cell? ⟨b, off + i, none⟩ = some (.slice rs[i].ad rs[i].zs.length rs[i].cap) := by
        rcases hx.1 with c | h
        · omega
        · exact h
      obtain ⟨b2, o2, hy1, hb2, hc2⟩ : ∃ b off, y = some ⟨b, off, none⟩ ∧ b < w.heap.size ∧ ∀ i (h : i < ts.length), w.cell? ⟨b, off + i, none⟩ = some (.slice ts[i].ad ts[i].zs.length ts[i].cap) := by
        rcases hy.1 with c | h
        · omega
        · exact h
      have hr1 := hx.2 (rs[k]'(by omega)) (List.getElem_mem _)
      have hr2 := hy.2 (ts[k]'(by omega)) (List.getElem_mem _)
      have hl1 := hz1 (rs[k]'(by omega)) (List.getElem_mem _)
      have hl2 := hz2 (ts[k]'(by omega)) (List.getElem_mem _)
      have CA1 : ∀ wx : World, Below wr.heap.size wr wx → wx.cell? ⟨b1, o1 + k, none⟩ = some (.slice (rs[k]'(by omega)).ad (rs[k]'(by omega)).zs.length (rs[k]'(by omega)).cap) := fun wx h => ((BR.trans (h.mono BR.size)).cell (p := ⟨b1, o1 + k, none⟩) hb1).trans (hc1 k (by omega))
      have CA2 : ∀ wx : World, Below wr.heap.size wr wx → wx.cell? ⟨b2, o2 + k, none⟩ = some (.slice (ts[k]'(by omega)).ad (ts[k]'(by omega)).zs.length (ts[k]'(by omega)).cap) := fun wx h => ((BR.trans (h.mono BR.size)).cell (p := ⟨b2, o2 + k, none⟩) hb2).trans (hc2 k (by omega))
      have HLP : Hid (lpC (rs.map Pc.zs) (ts.map Pc.zs) = (lookC (leafL (rs[k]'(by omega)).zs) (leafL (ts[k]'(by omega)).zs) <|> lpC ((rs.map Pc.zs).drop (k + 1)) ((ts.map Pc.zs).drop (k + 1)))) := by
        show _ = _
        rw [hlp, lpC_drop (by simp; omega) (by simp; omega)]
        simp
      have LD : Hid (∀ u' : World, Below w.heap.size w u' → Calls Tryd.prog 72 #[.slice (rs[k]'(by omega)).ad (rs[k]'(by omega)).zs.length (rs[k]'(by omega)).cap] u' fun r w' => ∃ a' c', r = .returned (.slice a' (leafL (rs[k]'(by omega)).zs).length c') ∧ Has w' .u8 a' (leafL (rs[k]'(by omega)).zs).length (leafL (rs[k]'(by omega)).zs) ∧ Below u'.heap.size u' w') := by
        intro u' hu
        refine (l2Leaf_any _ _ _ u' (hr1.1.below hu (Nat.le_refl _)) (by omega)).mono ?_
        rintro r w' ⟨a', c', rfl, ho, hb'⟩
        exact ⟨a', c', by simp [leafL], has_of_own ho (leaf_wf hr1.1.2.1), hb'⟩
      have LR : Hid (∀ u' : World, Below w.heap.size w u' → Calls Tryd.prog 72 #[.slice (ts[k]'(by omega)).ad (ts[k]'(by omega)).zs.length (ts[k]'(by omega)).cap] u' fun r w' => ∃ a' c', r = .returned (.slice a' (leafL (ts[k]'(by omega)).zs).length c') ∧ Has w' .u8 a' (leafL (ts[k]'(by omega)).zs).length (leafL (ts[k]'(by omega)).zs) ∧ Below u'.heap.size u' w') := by
        intro u' hu
        refine (l2Leaf_any _ _ _ u' (hr2.1.below hu (Nat.le_refl _)) (by omega)).mono ?_
        rintro r w' ⟨a', c', rfl, ho, hb'⟩
        exact ⟨a', c', by simp [leafL], has_of_own ho (leaf_wf hr2.1.2.1), hb'⟩
      have e1 : (leafL (rs[k]'(by omega)).zs).length ≤ 2097152 := by simp [leafL]; omega
      have e2 : (leafL (ts[k]'(by omega)).zs).length ≤ 2097152 := by simp [leafL]; omega
      have LC : Hid (∀ (u' : World) (p1 p2 : Option Addr) (k1 k2 : Nat), Has u' .u8 p1 (leafL (rs[k]'(by omega)).zs).length (leafL (rs[k]'(by omega)).zs) → Has u' .u8 p2 (leafL (ts[k]'(by omega)).zs).length (leafL (ts[k]'(by omega)).zs) → Calls Tryd.prog 71 #[.slice p1 (leafL (rs[k]'(by omega)).zs).length k1, .slice p2 (leafL (ts[k]'(by omega)).zs).length k2] u' fun r' w' => ∃ a1 c1 a2 c2, r' = .returned (.agg #[.bool (lookC (leafL (rs[k]'(by omega)).zs) (leafL (ts[k]'(by omega)).zs)).isSome, .slice a1 (clA (lookC (leafL (rs[k]'(by omega)).zs) (leafL (ts[k]'(by omega)).zs))).length c1, .slice a2 (clB (lookC (leafL (rs[k]'(by omega)).zs) (leafL (ts[k]'(by omega)).zs))).length c2]) ∧ OwnC w' u'.heap.size a1 a2 c1 c2 (clA (lookC (leafL (rs[k]'(by omega)).zs) (leafL (ts[k]'(by omega)).zs))) (clB (lookC (leafL (rs[k]'(by omega)).zs) (leafL (ts[k]'(by omega)).zs))) ∧ Below u'.heap.size u' w') := fun u' p1 p2 k1 k2 h1 h2 => l2Clash_own p1 p2 k1 k2 _ _ u' h1 h2 e1 e2
      subst hx1 hy1
      clear hx hy hz1 hz2 hc1 hc2 hr1 hr2 hl1 hl2 e1 e2 hlp N1 N2 X1H Y1H Z1H Z2H
      generalize lookC (leafL (rs[k]'(by omega)).zs) (leafL (ts[k]'(by omega)).zs) = X1 at *
      generalize leafL (rs[k]'(by omega)).zs = L1 at *
      generalize leafL (ts[k]'(by omega)).zs = L2 at *
      generalize (rs[k]'(by omega)).ad = d1 at *
      generalize (ts[k]'(by omega)).ad = d2 at *
      generalize (rs[k]'(by omega)).cap = p1 at *
      generalize (ts[k]'(by omega)).cap = p2 at *
      generalize (rs[k]'(by omega)).zs.length = m1 at *
      generalize (ts[k]'(by omega)).zs.length = m2 at *
      have WU : Hid (∀ wx : World, Below wr.heap.size wr wx → Below w.heap.size w wx) := fun wx h => BR.trans (h.mono BR.size)
      have D0 : Below wr.heap.size wr wr.drew := (Below.refl _ _).drew
      clear BR
      go_wp2_with fail
      go_cut [9] (fun s9 wx => ∃ b a1 c1 a2 c2, s9 = .pointer (some ⟨b, 0, none⟩) ∧ wr.heap.size ≤ b ∧ b < wx.heap.size ∧ wx.cell? ⟨b, 0, none⟩ = some (.bool X1.isSome) ∧ wx.cell? ⟨b, 1, none⟩ = some (.slice a1 (clA X1).length c1) ∧ wx.cell? ⟨b, 2, none⟩ = some (.slice a2 (clB X1).length c2) ∧ (wx.frozen? ⟨b, 0, none⟩ = false ∧ wx.frozen? ⟨b, 1, none⟩ = false ∧ wx.frozen? ⟨b, 2, none⟩ = false) ∧ OwnC wx wr.heap.size a1 a2 c1 c2 (clA X1) (clB X1) ∧ Below wr.heap.size wr wx)
      case first =>
        go_region_held3 (fun wx => Below wr.heap.size wr wx)
          ((first | exact D0 | exact D1 | assumption | exact (D0.alloc (by first | omega | (simp; omega) | simp) _) | exact (D1.alloc D1.size _) | exact ((D1.setCell (by first | omega | (simp; omega) | simp) _).setCell (by first | omega | (simp; omega) | simp) _).setCell (by first | omega | (simp; omega) | simp) _))
          ((first | (go_at_call_of 72 (Value.slice d1 m1 p1); refine (LD.out _ (WU.out _ (by assumption))).mono ?_; rintro _ ua ⟨t1, j1, rfl, H1, hba⟩; have D1 : Below wr.heap.size wr ua := Below.trans (by assumption) (hba.mono (Below.size (by assumption))); have zD := D1.size; (try (first | (have hvv := var3 hba) | (have hbb := var_drew hba; have hvv := var3 hbb) | (have hbb := var_on (A := World.alloc _ _) (by assumption) hba; have hvv := var3 hbb)); obtain ⟨⟨q0, q1, q2⟩, ⟨f0, f1, f2⟩, q3⟩ := hvv; (try simp at q0 q1 q2 q3 f0 f1 f2))) | (go_at_call_of 72 (Value.slice d2 m2 p2); refine (LR.out _ (WU.out _ (by assumption))).mono ?_; rintro _ ua ⟨t2, j2, rfl, H2, hba⟩; have D1 : Below wr.heap.size wr ua := Below.trans (by assumption) (hba.mono (Below.size (by assumption))); have zD := D1.size; (try (first | (have hvv := var3 hba) | (have hbb := var_drew hba; have hvv := var3 hbb) | (have hbb := var_on (A := World.alloc _ _) (by assumption) hba; have hvv := var3 hbb)); obtain ⟨⟨q0, q1, q2⟩, ⟨f0, f1, f2⟩, q3⟩ := hvv; (try simp at q0 q1 q2 q3 f0 f1 f2)); have H1b := (by first | exact H1.below hba (Nat.le_refl _) | exact (H1.alloc _).below hba (Nat.le_refl _) : Has ua .u8 t1 L1.length L1)) | (go_at_call 71; refine (LC.out _ t1 t2 j1 j2 (by first | exact H1b | exact H1b.alloc _) (by first | exact H2 | exact H2.alloc _)).mono ?_; rintro _ ua ⟨a1, c1, a2, c2, rfl, O1, hba⟩; have D1 : Below wr.heap.size wr ua := Below.trans (by assumption) (hba.mono (Below.size (by assumption))); have zD := D1.size; (try (first | (have hvv := var3 hba) | (have hbb := var_drew hba; have hvv := var3 hbb) | (have hbb := var_on (A := World.alloc _ _) (by assumption) hba; have hvv := var3 hbb)); obtain ⟨⟨q0, q1, q2⟩, ⟨f0, f1, f2⟩, q3⟩ := hvv; (try simp at q0 q1 q2 q3 f0 f1 f2))) | fail))
        all_goals go_wp2_with fail
        all_goals go_meet
        all_goals first
          | exact ⟨_, a1, c1, a2, c2, rfl, D1.size, by simp, by simp [go_sem], by simp [go_sem], by simp [go_sem], ⟨by simp [go_sem], by simp [go_sem], by simp [go_sem]⟩, (O1.mono (by first | assumption | (simp; omega) | omega)).below ((Below.refl _ _).alloc (Nat.le_refl _) _), D1.alloc D1.size _⟩
          | exact ⟨_, a1, c1, a2, c2, rfl, var_set q0 q1 q2 f0 f1 f2 (by omega) q3 D1 O1 (by first | assumption | simp)⟩
      case rest =>
        obtain ⟨b, a3, c3, a4, c4, rfl, hb0, hb1', k0, k1, k2, ⟨z0, z1, z2⟩, O1, hcb⟩ := hcut
        generalize wc = Y at *
        have DY := hD.trans (hcb.mono hD.size)
        have BY := WU.out _ hcb
        obtain ⟨⟨r0, r1, r2, r3⟩, ⟨g0, g1, g2, g3⟩⟩ := RV.out Y DY
        have zY : w.heap.size < Y.heap.size := Nat.lt_of_lt_of_le zE DY.size
        clear CA1 CA2 LD LR LC D0
        cases X1 with
        | some yy =>
          have O1' : Hid (OwnC Y wr.heap.size a3 a4 c3 c4 yy.1 yy.2) := O1
          have HL : Hid (lpC (rs.map Pc.zs) (ts.map Pc.zs) = some yy) := by show _ = _; rw [HLP.out]; rfl
          clear O1 HLP
          simp only [Option.isSome_some, clA, clB] at k0 k1 k2
          go_wp2
          refine bodyPost_ret (v := .agg #[.int .i64 0, .bool true, .slice a3 yy.1.length c3, .slice a4 yy.2.length c4]) (by simp [results, Tryd.results33, go_sem, r0, r1, r2, r3]) rfl ?_
          rw [HL.out]
          refine ⟨a3, c3, a4, c4, rfl, ?_, ?_⟩
          · exact ((((O1'.out.set _ _ zR).set _ _ zR).set _ _ zR).set _ _ zR).mono (Nat.le_of_lt zR)
          · repeat (first | exact BY | (refine Below.setCell ?_ (by (try simp) <;> omega) _))
        | none =>
          have HL : Hid (lpC (rs.map Pc.zs) (ts.map Pc.zs) = lpC ((rs.map Pc.zs).drop (k + 1)) ((ts.map Pc.zs).drop (k + 1))) := by show _ = _; rw [HLP.out]; rfl
          clear O1 HLP
          simp only [Option.isSome_none, clA, clB] at k0 k1 k2
          go_wp2
          go_roundw
          case rel => exact ⟨k + 1, by omega, by go_num, HL.out, DY⟩
          case measure => simp [intOf]; omega
    · have HL : Hid (lpC (rs.map Pc.zs) (ts.map Pc.zs) = none) := by
        show _ = _
        rw [hlp]
        exact lpC_end _ (by have := N1.out; simp; omega)
      obtain ⟨⟨r0, r1, r2, r3⟩, ⟨g0, g1, g2, g3⟩⟩ := RV.out wr hD
      clear hlp
      go_wp2
      refine bodyPost_ret (v := .agg #[.int .i64 0, .bool false, .slice none 0 0, .slice none 0 0]) (by simp [results, Tryd.results33, go_sem, r0, r1, r2, r3]) rfl ?_
      rw [HL.out]
      refine ⟨none, 0, none, 0, rfl, OwnC.nil _ _, ?_⟩
      repeat (first | exact BR | (refine Below.setCell ?_ (by (try simp) <;> omega) _))

end Go.Proofs.YtklhkhlmhddmcaaDoor
