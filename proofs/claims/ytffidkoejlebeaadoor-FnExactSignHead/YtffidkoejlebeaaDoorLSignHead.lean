/- At every two numbers and every head the program's SignHead answers as the specification's model of it, in memory of its own. -/
import Derived.Test.YtffidkoejlebeaaDoorHdU
import Derived.Test.YtffidkoejlebeaaDoorIHg
import Derived.Test.YtffidkoejlebeaaDoorKyX
import Derived.Test.YtffidkoejlebeaaDoorExc
import Derived.Test.YtffidkoejlebeaaDoorDoor
import Derived.Lib.SmallJoins
namespace Go.Proofs.YtffidkoejlebeaaDoor
open Go.ChangeShapes Go.WideShapes Go.ChangeAt Go.RowKit
set_option linter.unusedVariables false
set_option linter.unusedSimpArgs false

set_option maxRecDepth 100000 in
set_option maxHeartbeats 8000000 in
theorem fnExactSignHead_walk (w : World) (hT : Tab w) (a0 : Int) (w0 : (Lit.int .i64 a0).wf = true) (a1 : Int) (w1 : (Lit.int .i64 a1).wf = true) (z2 r2 m2 k2 : Int) (wz2 : (Lit.int .i64 z2).wf = true) (wr2 : (Lit.int .i64 r2).wf = true) (wm2 : (Lit.int .i64 m2).wf = true) (wk2 : (Lit.int .i64 k2).wf = true) :
    Calls Tryd.prog 6 #[.int .i64 a0, .int .i64 a1, .agg #[.int .i64 z2, .int .i64 r2, .int .i64 m2, .int .i64 k2]] w fun e w' => e = .returned (.bool true) ∧ Below w.heap.size w w' := by
  obtain ⟨ls, hls⟩ : ∃ l, l = sgS a0 a1 z2 r2 m2 k2 := ⟨_, rfl⟩
  obtain ⟨ms, hms⟩ : ∃ l, l = sgO a0 a1 z2 r2 m2 k2 := ⟨_, rfl⟩
  obtain ⟨ps, hps⟩ : ∃ l, l = sgP a0 a1 z2 r2 m2 k2 := ⟨_, rfl⟩
  obtain ⟨cd, hcd⟩ : ∃ c, c = sgC a0 a1 z2 r2 m2 k2 := ⟨_, rfl⟩
  obtain ⟨cz, hcz⟩ : ∃ c, c = sgI a0 a1 z2 r2 m2 k2 z2 := ⟨_, rfl⟩
  obtain ⟨cr, hcr⟩ : ∃ c, c = sgI a0 a1 z2 r2 m2 k2 r2 := ⟨_, rfl⟩
  obtain ⟨cm, hcm⟩ : ∃ c, c = sgI a0 a1 z2 r2 m2 k2 m2 := ⟨_, rfl⟩
  obtain ⟨ck, hck⟩ : ∃ c, c = sgI a0 a1 z2 r2 m2 k2 k2 := ⟨_, rfl⟩
  obtain ⟨ci, hci⟩ : ∃ c, c = sgI a0 a1 z2 r2 m2 k2 k2 := ⟨_, rfl⟩
  have SP : Hid (∀ (x : World), Calls Tryd.prog 22 #[.int .i64 a0, .int .i64 a1, .agg #[.int .i64 z2, .int .i64 r2, .int .i64 m2, .int .i64 k2]] x fun r w' => ∃ b1 i1 b2 i2 b3 i3, r = .returned (.agg #[.int .i64 cd, .int .i64 cz, .int .i64 cr, .int .i64 cm, .int .i64 ck, .int .i64 ci, .slice b1 ls.length i1, .slice b2 ms.length i2, .slice b3 ps.length i3]) ∧ OwnH w' x.heap.size b1 b2 b3 i1 i2 i3 ls ms ps ∧ Below x.heap.size x w') := by
    show ∀ (x : World), Calls Tryd.prog 22 #[.int .i64 a0, .int .i64 a1, .agg #[.int .i64 z2, .int .i64 r2, .int .i64 m2, .int .i64 k2]] x fun r w' => ∃ b1 i1 b2 i2 b3 i3, r = .returned (.agg #[.int .i64 cd, .int .i64 cz, .int .i64 cr, .int .i64 cm, .int .i64 ck, .int .i64 ci, .slice b1 ls.length i1, .slice b2 ms.length i2, .slice b3 ps.length i3]) ∧ OwnH w' x.heap.size b1 b2 b3 i1 i2 i3 ls ms ps ∧ Below x.heap.size x w'
    rw [hls, hms, hps, hcd, hcz, hcr, hcm, hck, hci]
    exact fun x => specSignHead_any a0 a1 z2 r2 m2 k2 x
  have IM : Hid (∀ (x : World), Tab x → Calls Tryd.prog 23 #[.int .i64 a0, .int .i64 a1, .agg #[.int .i64 z2, .int .i64 r2, .int .i64 m2, .int .i64 k2]] x fun r w' => ∃ b1 i1 b2 i2 b3 i3, r = .returned (.agg #[.int .i64 cd, .int .i64 cz, .int .i64 cr, .int .i64 cm, .int .i64 ck, .int .i64 ci, .slice b1 ls.length i1, .slice b2 ms.length i2, .slice b3 ps.length i3]) ∧ OwnH w' x.heap.size b1 b2 b3 i1 i2 i3 ls ms ps ∧ Below x.heap.size x w') := by
    show ∀ (x : World), Tab x → Calls Tryd.prog 23 #[.int .i64 a0, .int .i64 a1, .agg #[.int .i64 z2, .int .i64 r2, .int .i64 m2, .int .i64 k2]] x fun r w' => ∃ b1 i1 b2 i2 b3 i3, r = .returned (.agg #[.int .i64 cd, .int .i64 cz, .int .i64 cr, .int .i64 cm, .int .i64 ck, .int .i64 ci, .slice b1 ls.length i1, .slice b2 ms.length i2, .slice b3 ps.length i3]) ∧ OwnH w' x.heap.size b1 b2 b3 i1 i2 i3 ls ms ps ∧ Below x.heap.size x w'
    rw [hls, hms, hps, hcd, hcz, hcr, hcm, hck, hci]
    exact fun x ht => implSignHead_any a0 a1 z2 r2 m2 k2 x ht
  have OK : (ls.length ≤ 300 ∧ ∀ n ∈ ls, (Lit.int .i64 n).wf = true) ∧ (ms.length ≤ 300 ∧ ∀ n ∈ ms, (Lit.int .i64 n).wf = true) ∧ (ps.length ≤ 300 ∧ ∀ n ∈ ps, (Lit.int .i64 n).wf = true) := by
    by_cases h0 : sgC a0 a1 z2 r2 m2 k2 = 0
    · obtain ⟨h1, h2, h3⟩ := sgC_zero h0
      have kb := (hdB_iff.1 h1).2.2.2
      have hn : (0 ≤ a0 ∧ a0 ≤ 999) ∧ 1 ≤ a1 ∧ a1 ≤ 8 := by unfold krOk at h2; exact of_decide_eq_true h2
      have kl := keysL_len a0 a1.toNat
      have q1 : ls = shW a0 k2 (hdV z2 r2 m2 k2) (List.range 16) := by rw [hls]; unfold sgS; rw [if_pos h0]
      have q2 : ms = otW a0 k2 (hdV z2 r2 m2 k2) (List.range 16) := by rw [hms]; unfold sgO; rw [if_pos h0]
      have q3 : ps = ptM nS 11 (keysL a0 a1.toNat) k2 := by rw [hps]; unfold sgP; rw [if_pos h0]
      have p6 : (ptM nS 11 (keysL a0 a1.toNat) k2).length ≤ 6 := pt_six9 (keysL_all _ _) (by omega) kb.1 (by omega)
      rw [q1, q2, q3]
      exact ⟨⟨by rw [shW_len]; decide, allS_wf (shW_all _ _ _ _)⟩, ⟨by rw [otW_len]; decide, allS_wf (otW_all _ _ _ _)⟩, ⟨by omega, allS_wf (ptM_all _ _ _ (Nat.le_refl _) (keysL_all _ _))⟩⟩
    · have q1 : ls = [] := by rw [hls]; unfold sgS; rw [if_neg h0]
      have q2 : ms = [] := by rw [hms]; unfold sgO; rw [if_neg h0]
      have q3 : ps = [] := by rw [hps]; unfold sgP; rw [if_neg h0]
      rw [q1, q2, q3]
      exact ⟨⟨by decide, fun n hn => by cases hn⟩, ⟨by decide, fun n hn => by cases hn⟩, ⟨by decide, fun n hn => by cases hn⟩⟩
  obtain ⟨⟨ll, WA0⟩, ⟨lm, WB0⟩, ⟨lp, WC0⟩⟩ := OK
  have WA : Hid (_) := WA0
  have WB : Hid (_) := WB0
  have WC : Hid (_) := WC0
  clear hls hms hps hcd hcz hcr hcm hck hci WA0 WB0 WC0
  have hge : (0 : Int) ≤ 1 + (ls.length : Int) + (ms.length : Int) + (ps.length : Int) := by omega
  have hne : ((1 + (ls.length : Int) + (ms.length : Int) + (ps.length : Int)) != (1 + (ls.length : Int) + (ms.length : Int) + (ps.length : Int))) = false := by simp
  have hk0 : (0 : Int) ≤ 1 := by omega
  obtain ⟨V, hV⟩ : ∃ V, V = w.heap.size := ⟨_, rfl⟩
  obtain ⟨E, hE⟩ : ∃ E, E = w.alloc (.cells #[.int .i64 z2, .int .i64 r2, .int .i64 m2, .int .i64 k2] 23) := ⟨_, rfl⟩
  have BE : Below w.heap.size w E := by rw [hE]; exact (Below.refl _ _).alloc (Nat.le_refl _) _
  have RE : Blk E V #[.int .i64 z2, .int .i64 r2, .int .i64 m2, .int .i64 k2] 23 := by rw [hE, hV]; exact Blk.new _ _ _
  have FA : Hid (∀ u : World, Below E.heap.size E u → Blk u V #[.int .i64 z2, .int .i64 r2, .int .i64 m2, .int .i64 k2] 23) := fun u h => RE.below h RE.lt
  have FB : Hid (∀ u : World, Below E.heap.size E u → Below w.heap.size w u) := fun u h => BE.trans (h.mono BE.size)
  have c0 := RE.cell 0
  have c1 := RE.cell 1
  have c2 := RE.cell 2
  have c3 := RE.cell 3
  have c9 := RE.lt
  simp at c0 c1 c2 c3
  have HT : Hid (Tab w) := hT
  clear hT RE BE
  go_enter Tryd.func6, Tryd.ntmps6
  go_wp2_with fail
  simp only [← hV, ← hE]
  clear hV hE
  refine (toHead_any z2 r2 m2 k2 _).mono ?_
  rintro r u0 ⟨rfl, D0⟩
  go_wp2_with fail
  refine (SP.out _).mono ?_
  rintro r u1 ⟨b1, i1, b1', i1', b1'', i1'', rfl, O1, hb1⟩
  have B1 : Below E.heap.size E u1 := D0.trans (hb1.mono D0.size)
  have zS := B1.size
  clear hb1 c0 c1 c2 c3 c9
  have c0 := (FA.out _ B1).cell 0
  have c1 := (FA.out _ B1).cell 1
  have c2 := (FA.out _ B1).cell 2
  have c3 := (FA.out _ B1).cell 3
  have c9 := (FA.out _ B1).lt
  simp at c0 c1 c2 c3
  obtain ⟨U, hU⟩ : ∃ U, U = u1.alloc (.cells #[.int .i64 cd, .int .i64 cz, .int .i64 cr, .int .i64 cm, .int .i64 ck, .int .i64 ci, .slice b1 ls.length i1, .slice b1' ms.length i1', .slice b1'' ps.length i1''] 50) := ⟨_, rfl⟩
  have sU : U.heap.size = u1.heap.size + 1 := by rw [hU]; simp
  have BU : Below E.heap.size E U := by rw [hU]; exact B1.alloc zS _
  have VU : Blk U u1.heap.size #[.int .i64 cd, .int .i64 cz, .int .i64 cr, .int .i64 cm, .int .i64 ck, .int .i64 ci, .slice b1 ls.length i1, .slice b1' ms.length i1', .slice b1'' ps.length i1''] 50 := by rw [hU]; exact Blk.new _ _ _
  have RU : Has U .i64 b1 ls.length ls ∧ Has U .i64 b1' ms.length ms ∧ Has U .i64 b1'' ps.length ps := by
    rw [hU]
    exact ⟨(has_of_own O1.one WA.out).alloc _, (has_of_own O1.two WB.out).alloc _, (has_of_own O1.three WC.out).alloc _⟩
  have FW : Hid (∀ u : World, Below U.heap.size U u → (Blk u V #[.int .i64 z2, .int .i64 r2, .int .i64 m2, .int .i64 k2] 23) ∧ Blk u u1.heap.size #[.int .i64 cd, .int .i64 cz, .int .i64 cr, .int .i64 cm, .int .i64 ck, .int .i64 ci, .slice b1 ls.length i1, .slice b1' ms.length i1', .slice b1'' ps.length i1''] 50 ∧ (Has u .i64 b1 ls.length ls ∧ Has u .i64 b1' ms.length ms ∧ Has u .i64 b1'' ps.length ps) ∧ Below w.heap.size w u ∧ u1.heap.size < u.heap.size) := fun u h => ⟨FA.out u (BU.trans (h.mono BU.size)), VU.below h VU.lt, ⟨RU.1.below h (Nat.le_refl _), RU.2.1.below h (Nat.le_refl _), RU.2.2.below h (Nat.le_refl _)⟩, FB.out u (BU.trans (h.mono BU.size)), by have := h.size; omega⟩
  clear VU RU O1 zS
  go_wp2_with fail
  simp only [← hU]
  clear hU sU c0 c1 c2 c3 c9
  refine (toHead_any z2 r2 m2 k2 _).mono ?_
  rintro r u9 ⟨rfl, D9⟩
  go_wp2_with fail
  refine (IM.out _ (HT.out.below (FW.out _ D9).2.2.2.1 (Nat.le_refl _))).mono ?_
  rintro r u2 ⟨b2, i2, b2', i2', b2'', i2'', rfl, O2, hb2⟩
  have C2 : Below U.heap.size U u2 := D9.trans (hb2.mono D9.size)
  have C9 : U.heap.size ≤ u9.heap.size := D9.size
  have zG := hb2.size
  obtain ⟨W, hW⟩ : ∃ W, W = u2.alloc (.cells #[.int .i64 cd, .int .i64 cz, .int .i64 cr, .int .i64 cm, .int .i64 ck, .int .i64 ci, .slice b2 ls.length i2, .slice b2' ms.length i2', .slice b2'' ps.length i2''] 50) := ⟨_, rfl⟩
  have sW : W.heap.size = u2.heap.size + 1 := by rw [hW]; simp
  have bW : Below u2.heap.size u2 W := by rw [hW]; exact (Below.refl _ _).alloc (Nat.le_refl _) _
  have VW : Blk W u2.heap.size #[.int .i64 cd, .int .i64 cz, .int .i64 cr, .int .i64 cm, .int .i64 ck, .int .i64 ci, .slice b2 ls.length i2, .slice b2' ms.length i2', .slice b2'' ps.length i2''] 50 := by rw [hW]; exact Blk.new _ _ _
  have CW : Below U.heap.size U W := C2.trans (bW.mono C2.size)
  have OG : OwnH W U.heap.size b2 b2' b2'' i2 i2' i2'' ls ms ps := (O2.below bW).mono C9
  have FG : Hid (∀ u : World, Ex U.heap.size U.heap.size W u → OwnH u U.heap.size b2 b2' b2'' i2 i2' i2'' ls ms ps) := fun u h => OG.ex h (Nat.le_refl _)
  have FV : Hid (∀ (hi : Nat) (u : World), hi ≤ u2.heap.size → Ex U.heap.size hi W u → Blk u u2.heap.size #[.int .i64 cd, .int .i64 cz, .int .i64 cr, .int .i64 cm, .int .i64 ck, .int .i64 ci, .slice b2 ls.length i2, .slice b2' ms.length i2', .slice b2'' ps.length i2''] 50 ∧ u2.heap.size < u.heap.size) := fun hi u hh h => ⟨VW.ex h (.inr hh), by have := h.size; omega⟩
  have FE : Hid (∀ (hi : Nat) (u : World), Ex U.heap.size hi W u → Below U.heap.size U u) := fun hi u h => CW.trans (Ex.low h CW.size)
  have GB : Hid (∀ b, ((∃ x, b2 = some x ∧ b = x.block) ∨ (∃ x, b2' = some x ∧ b = x.block) ∨ ∃ x, b2'' = some x ∧ b = x.block) → U.heap.size ≤ b ∧ b < u2.heap.size) := fun b h => ⟨Nat.le_trans C9 (O2.blocks b h).1, (O2.blocks b h).2⟩
  have DW : Below W.heap.size W W := Below.refl _ _
  clear O2 OG D9 VW bW sW hb2
  have v0 := ((FW.out _ C2).2.1).cell 0
  have v1 := ((FW.out _ C2).2.1).cell 1
  have v2 := ((FW.out _ C2).2.1).cell 2
  have v3 := ((FW.out _ C2).2.1).cell 3
  have v4 := ((FW.out _ C2).2.1).cell 4
  have v5 := ((FW.out _ C2).2.1).cell 5
  have v6 := ((FW.out _ C2).2.1).cell 6
  have v7 := ((FW.out _ C2).2.1).cell 7
  have v8 := ((FW.out _ C2).2.1).cell 8
  simp at v0 v1 v2 v3 v4 v5 v6 v7 v8
  have qv := (FW.out _ C2).2.2.2.2
  go_wp2_with fail
  simp only [← hW]
  refine (eqSignedR_any cd cz cr cm ck ci b2 b2' b2'' b1 b1' b1'' i2 i2' i2'' i1 i1' i1'' ls ms ps _ (has_of_own (FG.out _ (Fr.refl _ _)).one WA.out) (has_of_own (FG.out _ (Fr.refl _ _)).two WB.out) (has_of_own (FG.out _ (Fr.refl _ _)).three WC.out) ((FW.out _ CW).2.2.1).1 ((FW.out _ CW).2.2.1).2.1 ((FW.out _ CW).2.2.1).2.2 (by omega) (by omega) (by omega)).mono ?_
  rintro r u3 ⟨rfl, hb3⟩
  have E3 : Ex U.heap.size U.heap.size W u3 := Ex.on (Fr.refl _ _) hb3
  have s3 : U.heap.size ≤ u3.heap.size := Nat.le_trans CW.size hb3.size
  clear v0 v1 v2 v3 v4 v5 v6 v7 v8 qv hb3 hW
  have vf := FV.out _ _ (by omega) E3
  have t0 := (vf.1).cell 0
  have t1 := (vf.1).cell 1
  have t2 := (vf.1).cell 2
  have t3 := (vf.1).cell 3
  have t4 := (vf.1).cell 4
  have t5 := (vf.1).cell 5
  have t6 := (vf.1).cell 6
  have t7 := (vf.1).cell 7
  have t8 := (vf.1).cell 8
  simp at t0 t1 t2 t3 t4 t5 t6 t7 t8
  go_wp2_with fail
  refine (markSignedR_any cd cz cr cm ck ci _ _ _ _ _ _ _ ls ms ps 1 _ (FG.out _ E3) (by omega) (by omega) (by omega) (by omega) (by omega) (by omega)).mono ?_
  rintro r u4 ⟨rfl, OM, hm4⟩
  have E4 : Ex U.heap.size u2.heap.size W u4 := Ex.fr E3 hm4 (fun b hb => by have := GB.out b hb; omega) (by omega)
  have FM : Hid (∀ u : World, Below u4.heap.size u4 u → Has u .i64 b2 (markN 1 ls.length).length (markN 1 ls.length) ∧ Has u .i64 b2' (markN (1 + ls.length) ms.length).length (markN (1 + ls.length) ms.length) ∧ Has u .i64 b2'' (markN (1 + ls.length + ms.length) ps.length).length (markN (1 + ls.length + ms.length) ps.length)) := by
    intro u h
    have h1 := OM.one
    have h2 := OM.two
    have h3 := OM.three
    exact ⟨(has_of_own h1 (markN_wf _ _ (by omega) (by omega) (by omega))).below h (Nat.le_refl _), (has_of_own h2 (markN_wf _ _ (by omega) (by omega) (by omega))).below h (Nat.le_refl _), (has_of_own h3 (markN_wf _ _ (by omega) (by omega) (by omega))).below h (Nat.le_refl _)⟩
  have D4 : Below u4.heap.size u4 u4 := Below.refl _ _
  clear hm4 OM vf t0 t1 t2 t3 t4 t5 t6 t7 t8 E3 s3
  have vf := FV.out _ _ (Nat.le_refl _) E4
  have t0 := (vf.1).cell 0
  have t1 := (vf.1).cell 1
  have t2 := (vf.1).cell 2
  have t3 := (vf.1).cell 3
  have t4 := (vf.1).cell 4
  have t5 := (vf.1).cell 5
  have t6 := (vf.1).cell 6
  have t7 := (vf.1).cell 7
  have t8 := (vf.1).cell 8
  simp at t0 t1 t2 t3 t4 t5 t6 t7 t8
  go_wp2_with fail
  refine (heldSignedR_any cd cz cr cm ck ci _ _ _ _ _ _ ls.length ms.length ps.length 1 _ (FM.out _ D4).1 (FM.out _ D4).2.1 (FM.out _ D4).2.2 (by omega) (by omega) (by omega) (by omega) (by omega)).mono ?_
  rintro r u5 ⟨rfl, hb5⟩
  have E5 : Ex U.heap.size u2.heap.size W u5 := Ex.on E4 hb5
  have D5 : Below u4.heap.size u4 u5 := D4.trans (hb5.mono D4.size)
  clear vf t0 t1 t2 t3 t4 t5 t6 t7 t8 hb5 E4 D4
  have c0 := (FW.out _ (FE.out _ _ E5)).1.cell 0
  have c1 := (FW.out _ (FE.out _ _ E5)).1.cell 1
  have c2 := (FW.out _ (FE.out _ _ E5)).1.cell 2
  have c3 := (FW.out _ (FE.out _ _ E5)).1.cell 3
  have c9 := (FW.out _ (FE.out _ _ E5)).1.lt
  simp at c0 c1 c2 c3
  go_wp2_with fail
  refine (toHead_any z2 r2 m2 k2 _).mono ?_
  rintro r u10 ⟨rfl, hb10⟩
  have E10 : Ex U.heap.size u2.heap.size W u10 := Ex.on E5 hb10
  have D10 : Below u4.heap.size u4 u10 := D5.trans (hb10.mono D5.size)
  clear hb10 E5 D5 c0 c1 c2 c3 c9
  go_wp2_with fail
  refine (IM.out _ (HT.out.below (FW.out _ (FE.out _ _ E10)).2.2.2.1 (Nat.le_refl _))).mono ?_
  rintro r u6 ⟨b6, i6, b6', i6', b6'', i6'', rfl, O6, hb6⟩
  have E6 : Ex U.heap.size u2.heap.size W u6 := Ex.on E10 hb6
  have D6 : Below u4.heap.size u4 u6 := D10.trans (hb6.mono D10.size)
  clear hb6 E10 D10
  have fw := FW.out _ (FE.out _ _ E6)
  have qf := (FV.out _ _ (Nat.le_refl _) E6).2
  have v0 := (fw.2.1).cell 0
  have v1 := (fw.2.1).cell 1
  have v2 := (fw.2.1).cell 2
  have v3 := (fw.2.1).cell 3
  have v4 := (fw.2.1).cell 4
  have v5 := (fw.2.1).cell 5
  have v6 := (fw.2.1).cell 6
  have v7 := (fw.2.1).cell 7
  have v8 := (fw.2.1).cell 8
  simp at v0 v1 v2 v3 v4 v5 v6 v7 v8
  have qv := fw.2.2.2.2
  go_wp2_with fail
  refine (eqSignedR_any cd cz cr cm ck ci _ _ _ _ _ _ _ _ _ _ _ _ ls ms ps _ ((has_of_own O6.one WA.out).alloc _) ((has_of_own O6.two WB.out).alloc _) ((has_of_own O6.three WC.out).alloc _) (fw.2.2.1.1.alloc _) (fw.2.2.1.2.1.alloc _) (fw.2.2.1.2.2.alloc _) (by omega) (by omega) (by omega)).mono ?_
  rintro r u7 ⟨rfl, hb7⟩
  have bb := ((Below.refl u6.heap.size u6).alloc (Nat.le_refl _) (.cells #[.int .i64 cd, .int .i64 cz, .int .i64 cr, .int .i64 cm, .int .i64 ck, .int .i64 ci, .slice b6 ls.length i6, .slice b6' ms.length i6', .slice b6'' ps.length i6''] 50)).trans (hb7.mono (by simp))
  have E7 : Ex U.heap.size u2.heap.size W u7 := Ex.on E6 bb
  have D7 : Below u4.heap.size u4 u7 := D6.trans (bb.mono D6.size)
  clear fw qf qv v0 v1 v2 v3 v4 v5 v6 v7 v8 hb7 bb O6 E6 D6
  have vf := FV.out _ _ (Nat.le_refl _) E7
  have t0 := (vf.1).cell 0
  have t1 := (vf.1).cell 1
  have t2 := (vf.1).cell 2
  have t3 := (vf.1).cell 3
  have t4 := (vf.1).cell 4
  have t5 := (vf.1).cell 5
  have t6 := (vf.1).cell 6
  have t7 := (vf.1).cell 7
  have t8 := (vf.1).cell 8
  simp at t0 t1 t2 t3 t4 t5 t6 t7 t8
  go_wp2_with fail
  refine (heldSignedR_any cd cz cr cm ck ci _ _ _ _ _ _ ls.length ms.length ps.length 1 _ (FM.out _ D7).1 (FM.out _ D7).2.1 (FM.out _ D7).2.2 (by omega) (by omega) (by omega) (by omega) (by omega)).mono ?_
  rintro r u8 ⟨rfl, hb8⟩
  have E8 : Ex U.heap.size u2.heap.size W u8 := Ex.on E7 hb8
  have D8 : Below u4.heap.size u4 u8 := D7.trans (hb8.mono D7.size)
  clear vf t0 t1 t2 t3 t4 t5 t6 t7 t8 hb8 E7 D7
  go_wp2
  go_ret
  exact ⟨rfl, (FW.out _ (FE.out _ _ E8)).2.2.2.1⟩

set_option maxRecDepth 100000 in
theorem fnExactSignHead_lifted (os : Os) (started : os.Started) (H : Type) (enc : TypeId × Value → H) :
    ReturnsInHanded {} Tryd.checked os 6 .any (fun w args => (Rows.fnExactSignHeadSpec.pre enc Tryd.prog Tryd.f6 [] false w args ∧ laidMetH Tryd.prog [("loop.example/g00565/impl.pieceStarts", Rows.laid_loop_example_g00565_impl_pieceStarts)] w) ∧ sizedMet enc Tryd.prog Tryd.f6 (OpenSpec.ofChange Rows.fnExactSignHeadSpec) false w args) (Rows.fnExactSignHeadSpec.post enc Tryd.prog Tryd.f6 false true false false) := by
  refine returnsInHanded_of_change_and (C := Tryd.checked) (X := fun w _ => laidMetH Tryd.prog [("loop.example/g00565/impl.pieceStarts", Rows.laid_loop_example_g00565_impl_pieceStarts)] w) (fun _ _ _ hh h => h.of_heap hh) own started (by kernel_rfl) Tryd.func6
    (ChangeSpec.witness_shaped (enc := enc) (C := Tryd.checked) (os := os) (X := fun w _ => laidMetH Tryd.prog [("loop.example/g00565/impl.pieceStarts", Rows.laid_loop_example_g00565_impl_pieceStarts)] w) false (World.doorLaid Tryd.prog 400 os) #[.int .i64 0, .int .i64 0, .agg #[.int .i64 0, .int .i64 0, .int .i64 0, .int .i64 0]] 8 rfl (World.shaped_of_RefB (by kernel_rfl) (by kernel_rfl)) (by kernel_rfl) (by kernel_rfl) (by kernel_rfl) (door_met os _)) ?_
  intro W base args ds gs before hval0 hW _ _ hL _
  have hval : ∀ (j : Nat) t v, Tryd.f6.params[j]? = some t → args[j]? = some v → Value.okWide Tryd.prog W .any base t v := hval0
  have hW' := hW
  obtain ⟨p, q, hA0, hV, rfl, hfz, hnd⟩ := hW
  have hA : DataW.TrodAll enc Tryd.prog W 0 (fun _ => true) true Tryd.f6.params.toList args.toList ds p := hA0
  rw [Tryd.params6] at hA hval
  obtain ⟨v0, vs0, d0, ds0, p0, q0, hargs, rfl, rfl, h0, tr0⟩ := trodAll_cons hA
  obtain ⟨v1, vs1, d1, ds1, p1, q1, rfl, rfl, rfl, h1, tr1⟩ := trodAll_cons tr0
  obtain ⟨v2, vs2, d2, ds2, p2, q2, rfl, rfl, rfl, h2, tr2⟩ := trodAll_cons tr1
  obtain ⟨rfl, rfl, rfl⟩ := trodAll_nil tr2
  obtain rfl : args = #[v0, v1, v2] := by cases args; simp_all
  obtain ⟨g, rfl⟩ : ∃ g, gs = [g] := by obtain ⟨_, _, _, _, d, _, e, _⟩ := trodVars_one hV; exact ⟨d, e⟩
  have g0 := h0
  have lt0 : ∀ x ∈ p0, x.block < W.heap.size := by obtain ⟨m, hm⟩ := g0; exact DataW.trod_lt m _ _ _ hm
  have g1 := h1
  have lt1 : ∀ x ∈ p1, x.block < W.heap.size := by obtain ⟨m, hm⟩ := g1; exact DataW.trod_lt m _ _ _ hm
  have g2 := h2
  have lt2 : ∀ x ∈ p2, x.block < W.heap.size := by obtain ⟨m, hm⟩ := g2; exact DataW.trod_lt m _ _ _ hm
  obtain ⟨a0, rfl, rfl, rfl, w0⟩ := open_int Tryd.underlying2 (hval 0 2 v0 rfl rfl) h0
  obtain ⟨a1, rfl, rfl, rfl, w1⟩ := open_int Tryd.underlying2 (hval 1 2 v1 rfl rfl) h1
  obtain ⟨t0, t1, t2, t3, y0, y1, y2, y3, fu, rfl, rfl, rfl, hy0, hy1, hy2, hy3⟩ := Go.Joins.open_agg4 Tryd.underlying23 (by kernel_rfl) (by kernel_rfl) (hval 2 23 v2 rfl rfl) h2
  obtain ⟨z2, q0, rfl, wz2⟩ := DataW.trod_int Tryd.underlying2 hy0
  obtain ⟨r2, q1, rfl, wr2⟩ := DataW.trod_int Tryd.underlying2 hy1
  obtain ⟨m2, q2, rfl, wm2⟩ := DataW.trod_int Tryd.underlying2 hy2
  obtain ⟨k2, q3, rfl, wk2⟩ := DataW.trod_int Tryd.underlying2 hy3
  simp at q0 q1 q2 q3
  subst q0 q1 q2 q3
  clear hA0 hval0
  refine (fnExactSignHead_walk W (tab_of_laid hL) a0 w0 a1 w1 z2 r2 m2 k2 wz2 wr2 wm2 wk2).mono fun e W' ⟨he, bel⟩ => ?_
  subst he
  exact ⟨_, rfl, _, _, _, [], _, _, hW', trodAll_mk1 (shut_bool Tryd.underlying4 _), (trodAll_cons_mk (Below.trod laidOut (by kernel_rfl) (of_decide_eq_true (by kernel_rfl)) g0 bel lt0) (trodAll_cons_mk (Below.trod laidOut (by kernel_rfl) (of_decide_eq_true (by kernel_rfl)) g1 bel lt1) (trodAll_cons_mk (Below.trod laidOut (by kernel_rfl) (of_decide_eq_true (by kernel_rfl)) g2 bel lt2) trodAll_mk0))), Below.trodVars laidOut bel (by kernel_rfl) hV, bel.frame _, fun h => by cases h⟩

theorem fnExactSignHead_row : Rows.FnExactSignHeadSaid :=
  OpenClaim.holds_of_wide 6 Tryd.f6 rfl rfl rfl rfl rfl rfl rfl ⟨rfl, rfl, rfl, rfl, rfl⟩ rfl rfl rfl rfl rfl (by kernel_rfl) Tryd.func6 (by kernel_rfl)
    (of_decide_eq_true (by kernel_rfl)) (by unfold Func.isWrapper; first | (rw [if_pos (by decide +kernel)]; kernel_rfl) | (rw [if_neg (by decide +kernel)]; exact ⟨rfl, rfl⟩))
    (fun os started H enc _ => fnExactSignHead_lifted os started H enc)

theorem fnExactSignHead_holds : Rows.FnExactSignHeadCardSaid :=
  Claim7.holds_tied_plain_at .later [] [.data] true Rows.fnExactSignHeadCard.stood.harness Rows.fnExactSignHeadCard.stood.looks
    fnExactSignHead_row (fun _ h => by cases h) (by kernel_rfl) (fun _ h => by cases h) fnExactSignHead_row_tie rfl ⟨rfl, rfl⟩ (by kernel_rfl) rfl
    (fun f fn hf hfn => by
      obtain rfl : f = 6 := Option.some.inj ((show Tryd.prog.funcNamed "loop.example/g00565/laws.FnExactSignHead" = some 6 by kernel_rfl).symm.trans hf) |>.symm
      obtain rfl : fn = Tryd.f6 := (Option.some.inj (Tryd.func6.symm.trans hfn)).symm
      exact ⟨by kernel_rfl, fun j t ht => by
        rw [Tryd.params6] at ht
        have h3 : t = 23 ∨ t = 2 := by
          match j, ht with
          | 0, ht => simp at ht; simp [← ht]
          | 1, ht => simp at ht; simp [← ht]
          | 2, ht => simp at ht; simp [← ht]
          | _ + 3, ht => simp at ht
        rcases h3 with rfl | rfl
        all_goals exact (show Tryd.prog.wantsStandIn _ = false by kernel_rfl)⟩)
    (by kernel_rfl)
#print axioms fnExactSignHead_holds
end Go.Proofs.YtffidkoejlebeaaDoor
