/- At every slice of int64 and every int64 the program's GrowthOf answers as the specification's model of it, in memory of its own, and leaves the slice as it was; the table that begins pieces starts as the program's text lays it. -/
import Derived.Test.YtkjhcblfkpknlaaDoorIGrwP
import Derived.Test.YtkjhcblfkpknlaaDoorMarkI
import Derived.Test.YtkjhcblfkpknlaaDoorDoor
namespace Go.Proofs.YtkjhcblfkpknlaaDoor
open Go.ChangeShapes Go.WideShapes Go.ChangeAt Go.RowKit
set_option linter.unusedVariables false
set_option linter.unusedSimpArgs false

set_option maxHeartbeats 8000000 in
theorem fnExactGrowthOf_walk (w : World) (hT : Tab w) (a0 : Option Addr) (len0 cap0 : Nat) (z0 : List Int) (w0 : IsRow .i64 w a0 len0 cap0 z0) (a1 : Int) (w1 : (Lit.int .i64 a1).wf = true) :
    Calls Tryd.prog 10 #[.slice a0 len0 cap0, .int .i64 a1] w fun e w' => e = .returned (.bool true) ∧ Below w.heap.size w w' := by
  have H0 := Has.of_row w0
  have hlen := H0.1
  generalize z0.take len0 = ds at H0 hlen
  subst hlen
  clear w0
  by_cases hbig : 1048576 < ds.length
  · have hbig' : (1048576 : Int) < (ds.length : Int) := by omega
    go_enter Tryd.func10, Tryd.ntmps10
    go_wp2
    go_ret
    exact ⟨rfl, Below.refl _ _⟩
  · have hsm : ds.length ≤ 1048576 := by omega
    have hsm' : (ds.length : Int) ≤ 1048576 := by omega
    have hzl : (gwL ds a1).length ≤ 1048576 := Nat.le_trans (gwL_len ds a1) (by decide)
    have hmx : ds.length ≤ maxLen := by unfold maxLen; omega
    have SP : Hid (∀ (a : Option Addr) (x : World), Has x .i64 a ds.length ds → Calls Tryd.prog 54 #[.slice a ds.length ds.length, .int .i64 a1] x fun r w' => ∃ pa pc, r = .returned (.agg #[.int .i64 (gwC ds a1), .slice pa (gwL ds a1).length pc]) ∧ w'.ownsRow x.heap.size 2 1 (.slice pa (gwL ds a1).length pc) (gwL ds a1).length ((gwL ds a1).map (.int .i64)) ∧ Below x.heap.size x w') := fun a x h => specGrowthOf_any a ds.length ds a1 x h hsm (Nat.le_refl _) hmx
    have IM : Hid (∀ (a : Option Addr) (x : World), Tab x → Has x .i64 a ds.length ds → Calls Tryd.prog 44 #[.slice a ds.length ds.length, .int .i64 a1] x fun r w' => ∃ pa pc, r = .returned (.agg #[.int .i64 (gwC ds a1), .slice pa (gwL ds a1).length pc]) ∧ w'.ownsRow x.heap.size 2 1 (.slice pa (gwL ds a1).length pc) (gwL ds a1).length ((gwL ds a1).map (.int .i64)) ∧ Below x.heap.size x w') := fun a x t h => implGrowthOf_any a ds.length ds a1 x t h hsm (Nat.le_refl _) hmx
    have WF : Hid (_) := gwL_wf ds a1
    have WD : Hid (_) := H0.2.1
    clear hmx
    generalize gwL ds a1 = zs at SP IM WF hzl
    generalize gwC ds a1 = cd at SP IM
    have hne : ((1 + (zs.length : Int)) != (1 + (zs.length : Int))) = false := by simp
    have hge : (0 : Int) ≤ 1 + (zs.length : Int) := by omega
    have hgd : (0 : Int) ≤ 1 + (ds.length : Int) := by omega
    have HT : Hid (Tab w) := hT
    have AH : Hid (HasJ w.heap.size w a0 ds) := HasJ.of H0
    clear hT
    go_enter Tryd.func10, Tryd.ntmps10
    go_wp2_with fail
    refine (toInts_has a0 cap0 ds _ H0 hsm).mono ?_
    rintro r ua ⟨rfl, hba, Xa, ya⟩
    go_wp2_with fail
    refine (SP.out _ _ Xa).mono ?_
    rintro r u1 ⟨b1, e1, rfl, O1, hb1⟩
    have s1 := hb1.size
    have B1 : Below w.heap.size w u1 := hba.trans (hb1.mono hba.size)
    have I1 := HasJ.of (has_of_own O1 WF.out)
    clear hba hb1 O1 Xa H0
    go_wp2_with fail
    refine (toInts_any a0 ds.length cap0 ds _ ((AH.out.below (B1.alloc (by omega) _)).has (by simp; omega)) hsm).mono ?_
    rintro r ux ⟨rfl, Ox, hbx⟩
    have sx := hbx.size
    simp at sx
    have Dx : Below (u1.heap.size + 1) (u1.alloc (.cells #[.int .i64 cd, .slice b1 zs.length e1] 28)) ux := hbx.mono (by simp)
    have Ox : ux.ownsRow (u1.heap.size + 1) 2 1 (.slice (some ⟨u1.heap.size + 1, 0, none⟩) ds.length ds.length) ds.length (ds.map (.int .i64)) := by simpa using Ox
    have tx := own_lt Ox _ rfl
    simp at tx
    have FW : ∀ x : World, Below (u1.heap.size + 1) (u1.alloc (.cells #[.int .i64 cd, .slice b1 zs.length e1] 28)) x → Below w.heap.size w x := fun x h => (B1.alloc (by omega) (.cells #[.int .i64 cd, .slice b1 zs.length e1] 28)).trans (h.mono (by omega))
    have FI : ∀ x : World, Below (u1.heap.size + 1) (u1.alloc (.cells #[.int .i64 cd, .slice b1 zs.length e1] 28)) x → HasJ u1.heap.size x b1 zs := fun x h => (I1.below ((Below.refl _ _).alloc (Nat.le_refl _) (.cells #[.int .i64 cd, .slice b1 zs.length e1] 28))).below (h.mono (by omega))
    have FV : ∀ x : World, Below (u1.heap.size + 1) (u1.alloc (.cells #[.int .i64 cd, .slice b1 zs.length e1] 28)) x → VarAt x u1.heap.size cd b1 zs.length e1 := fun x h => (VarAt.new u1 cd b1 zs.length e1 28).below h (by omega)
    have FS : ∀ x : World, Below (u1.heap.size + 1) (u1.alloc (.cells #[.int .i64 cd, .slice b1 zs.length e1] 28)) x → u1.heap.size + 1 ≤ x.heap.size := fun x h => by have := h.size; simp at this; omega
    have FWH : Hid (_) := FW
    have FIH : Hid (_) := FI
    have FVH : Hid (_) := FV
    have FSH : Hid (_) := FS
    clear FW FI FV FS hbx I1 B1
    go_wp2_with fail
    refine (IM.out _ _ (HT.out.below (FWH.out _ Dx) (Nat.le_refl _)) (has_of_own Ox WD.out)).mono ?_
    rintro r u2 ⟨b2, e2, rfl, O2, hb2⟩
    have s2 := hb2.size
    have D2 : Below (u1.heap.size + 1) (u1.alloc (.cells #[.int .i64 cd, .slice b1 zs.length e1] 28)) u2 := Dx.trans (hb2.mono (by omega))
    have Ox2 := own_below Ox hb2
    have g2 := own_lt O2
    have O2b := own_base O2
    have P2 := has_of_own O2 WF.out
    have q2 : u1.heap.size < u2.heap.size := by omega
    obtain ⟨v50, v51⟩ := FVH.out _ D2
    clear Ox hb2 Dx
    go_wp2_with fail
    refine (eqIntsR_any cd b2 b1 e2 e1 zs _ (P2.alloc _) ((FIH.out _ (D2.alloc (by omega) _)).has (by simp; omega)) hzl).mono ?_
    rintro r u3 ⟨rfl, hb3⟩
    have s3 := hb3.size
    simp at s3
    have D3 : Below (u1.heap.size + 1) (u1.alloc (.cells #[.int .i64 cd, .slice b1 zs.length e1] 28)) u3 := (D2.alloc (by omega) (.cells #[.int .i64 cd, .slice b2 zs.length e2] 28)).trans (hb3.mono (by simp; omega))
    have V6 := (VarAt.new u2 cd b2 zs.length e2 28).below hb3 (by simp)
    have Ox3 := own_below (own_below Ox2 ((Below.refl _ _).alloc (Nat.le_refl _) (.cells #[.int .i64 cd, .slice b2 zs.length e2] 28))) hb3
    have O3 := own_below (own_below O2 ((Below.refl _ _).alloc (Nat.le_refl _) (.cells #[.int .i64 cd, .slice b2 zs.length e2] 28))) hb3
    clear v50 v51 Ox2 O2 hb3 P2 D2
    go_wp2_with fail
    refine (toInts_has a0 cap0 ds _ ((AH.out.below (FWH.out _ D3)).has (by have := FSH.out _ D3; omega)) hsm).mono ?_
    rintro r uc ⟨rfl, hbc, Xc, yc⟩
    have sc := hbc.size
    have Oxc := own_below Ox3 hbc
    have Oc := own_below O3 hbc
    have Dc : Below (u1.heap.size + 1) (u1.alloc (.cells #[.int .i64 cd, .slice b1 zs.length e1] 28)) uc := D3.trans (hbc.mono (by omega))
    have V6c := V6.below hbc (by omega)
    clear Ox3 O3 D3 V6
    go_wp2_with fail
    refine (eqInts_any _ _ _ _ ds _ (has_of_own Oxc WD.out) (Xc.below (Below.refl _ _) (Nat.le_refl _)) hsm).mono ?_
    rintro r ud ⟨rfl, hbd⟩
    have sd := hbd.size
    have Oxd := own_below Oxc hbd
    have Od := own_below Oc hbd
    have Dd : Below (u1.heap.size + 1) (u1.alloc (.cells #[.int .i64 cd, .slice b1 zs.length e1] 28)) ud := Dc.trans (hbd.mono (by omega))
    have V6d := V6c.below hbd (by omega)
    clear Oxc Oc Dc V6c Xc hbc hbd
    go_wp2_with fail
    refine (markInt64S_any _ _ _ 1 ds _ Oxd (by omega) (by omega) (by omega)).mono ?_
    rintro r ue ⟨rfl, Oxe, hme⟩
    have se := hme.size
    have De : Below (u1.heap.size + 1) (u1.alloc (.cells #[.int .i64 cd, .slice b1 zs.length e1] 28)) ue := Dd.trans (hme.below (fun ad had => by simp at had; subst had; exact Nat.le_refl _))
    have Oe := hme.own Od (fun ad had => by simp at had; subst had; simpa using tx)
    have V6e := V6d.mk hme (fun ad had => by simp at had; subst had; show u2.heap.size ≠ u1.heap.size + 1; omega)
    clear Oxe Oxd Od Dd V6d hme
    obtain ⟨v60, v61⟩ := V6e
    obtain ⟨v50, v51⟩ := FVH.out _ De
    go_wp2_with fail
    refine (eqIntsR_any cd b2 b1 e2 e1 zs _ (has_of_own Oe WF.out) ((FIH.out _ De).has (by omega)) hzl).mono ?_
    rintro r uf ⟨rfl, hbf⟩
    have sf := hbf.size
    have Df : Below (u1.heap.size + 1) (u1.alloc (.cells #[.int .i64 cd, .slice b1 zs.length e1] 28)) uf := De.trans (hbf.mono (by omega))
    have V6f := (VarAt.below ⟨v60, v61⟩ hbf (by omega))
    have Of := own_below Oe hbf
    clear v50 v51 v60 v61 De Oe hbf
    obtain ⟨v60, v61⟩ := V6f
    go_wp2_with fail
    refine (markIntsR_any _ cd b2 e2 zs _ Of (by omega)).mono ?_
    rintro r u4 ⟨rfl, O4, hm4⟩
    have s4 := hm4.size
    simp at s4
    have D4 : Below (u1.heap.size + 1) (u1.alloc (.cells #[.int .i64 cd, .slice b1 zs.length e1] 28)) u4 := (Df.alloc (by omega) (.cells #[.int .i64 cd, .slice b2 zs.length e2] 28)).trans (hm4.below (fun ad had => by have := O2b ad had; omega))
    have V6 := (VarAt.below ⟨v60, v61⟩ ((Below.refl uf.heap.size uf).alloc (Nat.le_refl _) (.cells #[.int .i64 cd, .slice b2 zs.length e2] 28)) (by omega)).mk hm4 (fun ad had => by have := g2 ad had; omega)
    have P4 := has_of_own O4 (markN_wf 1 zs.length (by omega) (by omega) (by omega))
    clear v60 v61 Of hm4 Df
    obtain ⟨v60, v61⟩ := V6
    go_wp2_with fail
    refine (heldIntsR_any cd b2 e2 zs.length _ P4 (by omega)).mono ?_
    rintro r u5 ⟨rfl, hb5⟩
    have s5 := hb5.size
    have V6 := (VarAt.below ⟨v60, v61⟩ hb5 (by omega))
    have D5 : Below (u1.heap.size + 1) (u1.alloc (.cells #[.int .i64 cd, .slice b1 zs.length e1] 28)) u5 := D4.trans (hb5.mono (by omega))
    have O5 := own_below O4 hb5
    clear v60 v61 O4 hb5 D4 P4
    go_wp2_with fail
    refine (toInts_has a0 cap0 ds _ ((AH.out.below (FWH.out _ D5)).has (by have := (FWH.out _ D5).size; omega)) hsm).mono ?_
    rintro r ug ⟨rfl, hbg, Xg, yg⟩
    have sg := hbg.size
    have Og := own_below O5 hbg
    have Dg : Below (u1.heap.size + 1) (u1.alloc (.cells #[.int .i64 cd, .slice b1 zs.length e1] 28)) ug := D5.trans (hbg.mono (by omega))
    have V6g := V6.below hbg (by omega)
    clear O5 D5 V6 hbg
    go_wp2_with fail
    refine (IM.out _ _ (HT.out.below (FWH.out _ Dg) (Nat.le_refl _)) Xg).mono ?_
    rintro r u6 ⟨b3, e3, rfl, O6, hb6⟩
    have s6 := hb6.size
    have V6 := V6g.below hb6 (by omega)
    have D6 : Below (u1.heap.size + 1) (u1.alloc (.cells #[.int .i64 cd, .slice b1 zs.length e1] 28)) u6 := Dg.trans (hb6.mono (by omega))
    have Og6 := own_below Og hb6
    have P6 := has_of_own O6 WF.out
    clear Xg Og Dg V6g hb6
    obtain ⟨v50, v51⟩ := FVH.out _ D6
    have q5 : u1.heap.size < u6.heap.size := by omega
    go_wp2_with fail
    refine (eqIntsR_any cd b3 b1 e3 e1 zs _ (P6.alloc _) ((FIH.out _ (D6.alloc (by omega) _)).has (by simp; omega)) hzl).mono ?_
    rintro r u7 ⟨rfl, hb7⟩
    have s7 := hb7.size
    simp at s7
    have V6' := (V6.below ((Below.refl u6.heap.size u6).alloc (Nat.le_refl _) (.cells #[.int .i64 cd, .slice b3 zs.length e3] 28)) (by omega)).below hb7 (by simp; omega)
    have D7 : Below (u1.heap.size + 1) (u1.alloc (.cells #[.int .i64 cd, .slice b1 zs.length e1] 28)) u7 := (D6.alloc (by omega) (.cells #[.int .i64 cd, .slice b3 zs.length e3] 28)).trans (hb7.mono (by simp; omega))
    have O7 := own_below (own_below Og6 ((Below.refl _ _).alloc (Nat.le_refl _) (.cells #[.int .i64 cd, .slice b3 zs.length e3] 28))) hb7
    have P7 := has_of_own O7 (markN_wf 1 zs.length (by omega) (by omega) (by omega))
    clear v50 v51 V6 Og6 hb7 D6
    obtain ⟨v60, v61⟩ := V6'
    go_wp2_with fail
    refine (heldIntsR_any cd b2 e2 zs.length _ P7 (by omega)).mono ?_
    rintro r u8 ⟨rfl, hb8⟩
    go_wp2
    go_ret
    exact ⟨rfl, (FWH.out _ D7).trans (hb8.mono (by have := (FWH.out _ D7).size; omega))⟩

set_option maxRecDepth 100000 in
theorem fnExactGrowthOf_lifted (os : Os) (started : os.Started) (H : Type) (enc : TypeId × Value → H) :
    ReturnsInHanded {} Tryd.checked os 10 .any (fun w args => (Rows.fnExactGrowthOfSpec.pre enc Tryd.prog Tryd.f10 [] false w args ∧ laidMetH Tryd.prog [("loop.example/g00565/impl.pieceStarts", Rows.laid_loop_example_g00565_impl_pieceStarts)] w) ∧ sizedMet enc Tryd.prog Tryd.f10 (OpenSpec.ofChange Rows.fnExactGrowthOfSpec) false w args) (Rows.fnExactGrowthOfSpec.post enc Tryd.prog Tryd.f10 false true false false) := by
  refine returnsInHanded_of_change_and (C := Tryd.checked) (X := fun w _ => laidMetH Tryd.prog [("loop.example/g00565/impl.pieceStarts", Rows.laid_loop_example_g00565_impl_pieceStarts)] w) (fun _ _ _ hh h => h.of_heap hh) own started (by kernel_rfl) Tryd.func10
    (ChangeSpec.witness_shaped (enc := enc) (C := Tryd.checked) (os := os) (X := fun w _ => laidMetH Tryd.prog [("loop.example/g00565/impl.pieceStarts", Rows.laid_loop_example_g00565_impl_pieceStarts)] w) false (World.doorLaid Tryd.prog 400 os) #[.slice none 0 0, .int .i64 0] 8 rfl (World.shaped_of_RefB (by kernel_rfl) (by kernel_rfl)) (by kernel_rfl) (by kernel_rfl) (by kernel_rfl) (door_met os _)) ?_
  intro W base args ds gs before hval0 hW _ _ hL _
  have hval : ∀ (j : Nat) t v, Tryd.f10.params[j]? = some t → args[j]? = some v → Value.okWide Tryd.prog W .any base t v := hval0
  have hW' := hW
  obtain ⟨p, q, hA0, hV, rfl, hfz, hnd⟩ := hW
  have hA : DataW.TrodAll enc Tryd.prog W 0 (fun _ => true) true Tryd.f10.params.toList args.toList ds p := hA0
  rw [Tryd.params10] at hA hval
  obtain ⟨v0, vs0, d0, ds0, p0, q0, hargs, rfl, rfl, h0, r0⟩ := trodAll_cons hA
  obtain ⟨v1, vs1, d1, ds1, p1, q1, rfl, rfl, rfl, h1, r1⟩ := trodAll_cons r0
  obtain ⟨rfl, rfl, rfl⟩ := trodAll_nil r1
  obtain rfl : args = #[v0, v1] := by cases args; simp_all
  obtain ⟨g, rfl⟩ : ∃ g, gs = [g] := by obtain ⟨_, _, _, _, d, _, e, _⟩ := trodVars_one hV; exact ⟨d, e⟩
  have g0 := h0
  have lt0 : ∀ x ∈ p0, x.block < W.heap.size := by obtain ⟨m, hm⟩ := g0; exact DataW.trod_lt m _ _ _ hm
  have g1 := h1
  have lt1 : ∀ x ∈ p1, x.block < W.heap.size := by obtain ⟨m, hm⟩ := g1; exact DataW.trod_lt m _ _ _ hm
  obtain ⟨a0, len0, cap0, rfl⟩ := okWide_slice Tryd.underlying24 (hval 0 24 v0 rfl rfl)
  obtain ⟨z0, w0⟩ : ∃ zs, IsRow .i64 W a0 len0 cap0 zs := by
    obtain ⟨fuel, hf⟩ := h0
    rcases open_ints Tryd.underlying24 Tryd.underlying2 (by kernel_rfl) hf with ⟨hcs, _⟩ | ⟨x, l, c, zs, hcs, _, hl, hm, hz, _, hcell, hwz⟩
    · simp [Value.cells] at hcs
      obtain ⟨rfl, rfl, rfl⟩ := hcs
      exact ⟨[], .inl ⟨rfl, rfl, rfl, rfl⟩⟩
    · simp [Value.cells] at hcs
      obtain ⟨rfl, rfl, rfl⟩ := hcs
      exact ⟨zs, .inr ⟨_, rfl, hl, hm, by simpa using hz, hcell, hwz⟩⟩
  obtain ⟨a1, rfl, rfl, rfl, w1⟩ := open_int Tryd.underlying2 (hval 1 2 v1 rfl rfl) h1
  clear hA0 hval0
  refine (fnExactGrowthOf_walk W (tab_of_laid hL) a0 len0 cap0 z0 w0 a1 w1).mono fun e W' ⟨he, bel⟩ => ?_
  subst he
  exact ⟨_, rfl, _, _, _, [], _, _, hW', trodAll_mk1 (shut_bool Tryd.underlying4 _), (trodAll_cons_mk (Below.trod laidOut (by kernel_rfl) (of_decide_eq_true (by kernel_rfl)) g0 bel lt0) (trodAll_cons_mk (Below.trod laidOut (by kernel_rfl) (of_decide_eq_true (by kernel_rfl)) g1 bel lt1) trodAll_mk0)), Below.trodVars laidOut bel (by kernel_rfl) hV, bel.frame _, fun h => by cases h⟩

theorem fnExactGrowthOf_row : Rows.FnExactGrowthOfSaid :=
  OpenClaim.holds_of_wide 10 Tryd.f10 rfl rfl rfl rfl rfl rfl rfl ⟨rfl, rfl, rfl, rfl, rfl⟩ rfl rfl rfl rfl rfl (by kernel_rfl) Tryd.func10 (by kernel_rfl)
    (of_decide_eq_true (by kernel_rfl)) (by unfold Func.isWrapper; first | (rw [if_pos (by decide +kernel)]; kernel_rfl) | (rw [if_neg (by decide +kernel)]; exact ⟨rfl, rfl⟩))
    (fun os started H enc _ => fnExactGrowthOf_lifted os started H enc)

theorem fnExactGrowthOf_holds : Rows.FnExactGrowthOfCardSaid :=
  Claim7.holds_tied_plain_at .later [] [.data] true Rows.fnExactGrowthOfCard.stood.harness false
    fnExactGrowthOf_row (fun _ h => by cases h) (by kernel_rfl) (fun _ h => by cases h) fnExactGrowthOf_row_tie rfl ⟨rfl, rfl⟩ (by kernel_rfl) rfl
    (fun f fn hf hfn => by
      obtain rfl : f = 10 := Option.some.inj ((show Tryd.prog.funcNamed "loop.example/g00565/laws.FnExactGrowthOf" = some 10 by kernel_rfl).symm.trans hf) |>.symm
      obtain rfl : fn = Tryd.f10 := (Option.some.inj (Tryd.func10.symm.trans hfn)).symm
      exact ⟨by kernel_rfl, fun j t ht => by
        rw [Tryd.params10] at ht
        have h3 : t = 2 ∨ t = 24 := by
          match j, ht with
          | 0, ht => simp at ht; simp [← ht]
          | 1, ht => simp at ht; simp [← ht]
          | _ + 2, ht => simp at ht
        rcases h3 with rfl | rfl
        all_goals exact (show Tryd.prog.wantsStandIn _ = false by kernel_rfl)⟩)
    (by kernel_rfl)
#print axioms fnExactGrowthOf_holds
end Go.Proofs.YtkjhcblfkpknlaaDoor
