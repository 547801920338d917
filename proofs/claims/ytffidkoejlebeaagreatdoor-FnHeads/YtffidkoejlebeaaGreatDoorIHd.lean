/- Contracts: the program's fault of a head, and of a signed one. -/
import Derived.Test.YtffidkoejlebeaaGreatDoorHdF
import Derived.Deep.DeepCutAuto
import Derived.Deep.RegionHeld3
import Derived.Deep.RegionHeld2
import Derived.Deep.RegionWith
namespace Go.Proofs.YtffidkoejlebeaaGreatDoor
open Go.ChangeShapes Go.WideShapes Go.ChangeAt Go.RowKit
set_option maxRecDepth 100000
set_option linter.unusedVariables false
set_option linter.unusedSimpArgs false

set_option maxHeartbeats 4000000 in
theorem hfault_any (z r m k : Int) (w : World) :
    Calls Tryz.prog 36 #[.agg #[.int .i64 z, .int .i64 r, .int .i64 m, .int .i64 k]] w fun e w' => e = .returned (.int .i64 (hdF z r m k)) ∧ Below w.heap.size w w' := by
  obtain ⟨E, hE⟩ : ∃ E, E = w.alloc (.cells #[.int .i64 z, .int .i64 r, .int .i64 m, .int .i64 k] 26) := ⟨_, rfl⟩
  have B0 : Below w.heap.size w E := by rw [hE]; exact (Below.refl _ _).alloc (Nat.le_refl _) _
  have GE : Blk E w.heap.size #[.int .i64 z, .int .i64 r, .int .i64 m, .int .i64 k] 26 := by rw [hE]; exact Blk.new _ _ _
  have k0 : E.cell? ⟨w.heap.size, 0, none⟩ = some (.int .i64 z) := (GE.cell 0).trans rfl
  have k1 : E.cell? ⟨w.heap.size, 1, none⟩ = some (.int .i64 r) := (GE.cell 1).trans rfl
  have k2 : E.cell? ⟨w.heap.size, 2, none⟩ = some (.int .i64 m) := (GE.cell 2).trans rfl
  have k3 : E.cell? ⟨w.heap.size, 3, none⟩ = some (.int .i64 k) := (GE.cell 3).trans rfl
  have hlt := GE.lt
  clear GE
  have IZ := isFrom_any z 24 E
  have IK := isIndex_any k E
  have SR := isSumF_any r E
  have SM := isSumF_any m E
  cases e1 : decide (0 ≤ z ∧ z ≤ 24) with
  | false =>
    have HC : Hid (hdF z r m k = 3) := by show _ = _; unfold hdF; rw [if_neg]; intro hh; have := hdB_iff.1 hh; exact absurd this.1 (of_decide_eq_false e1)
    rw [e1] at IZ
    clear e1 IK SR SM
    go_enter Tryz.func36, Tryz.ntmps36
    go_wp2_with fail
    simp only [← hE]
    clear hE
    refine (IZ).mono ?_
    rintro r u ⟨rfl, hu⟩; have hu2 := hu.symm; subst hu2; clear hu
    go_wp2
    go_ret
    exact ⟨ret_int HC.out.symm, B0⟩
  | true =>
    rw [e1] at IZ
    cases e2 : decide (0 ≤ r ∧ r ≤ 65520) with
    | false =>
      have HC : Hid (hdF z r m k = 3) := by show _ = _; unfold hdF; rw [if_neg]; intro hh; have := hdB_iff.1 hh; exact absurd this.2.1 (of_decide_eq_false e2)
      rw [e2] at SR
      clear e1 e2 IK SM
      go_enter Tryz.func36, Tryz.ntmps36
      go_wp2_with fail
      simp only [← hE]
      clear hE
      refine (IZ).mono ?_
      rintro r u ⟨rfl, hu⟩; have hu2 := hu.symm; subst hu2; clear hu
      go_wp2_with fail
      refine (SR).mono ?_
      rintro r u ⟨rfl, hu⟩; have hu2 := hu.symm; subst hu2; clear hu
      go_wp2
      go_ret
      exact ⟨ret_int HC.out.symm, B0⟩
    | true =>
      rw [e2] at SR
      cases e3 : decide (0 ≤ m ∧ m ≤ 65520) with
      | false =>
        have HC : Hid (hdF z r m k = 3) := by show _ = _; unfold hdF; rw [if_neg]; intro hh; have := hdB_iff.1 hh; exact absurd this.2.2.1 (of_decide_eq_false e3)
        rw [e3] at SM
        clear e1 e2 e3 IK
        go_enter Tryz.func36, Tryz.ntmps36
        go_wp2_with fail
        simp only [← hE]
        clear hE
        refine (IZ).mono ?_
        rintro r u ⟨rfl, hu⟩; have hu2 := hu.symm; subst hu2; clear hu
        go_wp2_with fail
        refine (SR).mono ?_
        rintro r u ⟨rfl, hu⟩; have hu2 := hu.symm; subst hu2; clear hu
        go_wp2_with fail
        refine (SM).mono ?_
        rintro r u ⟨rfl, hu⟩; have hu2 := hu.symm; subst hu2; clear hu
        go_wp2
        go_ret
        exact ⟨ret_int HC.out.symm, B0⟩
      | true =>
        rw [e3] at SM
        cases e4 : decide (0 ≤ k ∧ k ≤ 7) with
        | false =>
          have HC : Hid (hdF z r m k = 3) := by show _ = _; unfold hdF; rw [if_neg]; intro hh; have := hdB_iff.1 hh; exact absurd this.2.2.2 (of_decide_eq_false e4)
          rw [e4] at IK
          clear e1 e2 e3 e4
          go_enter Tryz.func36, Tryz.ntmps36
          go_wp2_with fail
          simp only [← hE]
          clear hE
          refine (IZ).mono ?_
          rintro r u ⟨rfl, hu⟩; have hu2 := hu.symm; subst hu2; clear hu
          go_wp2_with fail
          refine (SR).mono ?_
          rintro r u ⟨rfl, hu⟩; have hu2 := hu.symm; subst hu2; clear hu
          go_wp2_with fail
          refine (SM).mono ?_
          rintro r u ⟨rfl, hu⟩; have hu2 := hu.symm; subst hu2; clear hu
          go_wp2_with fail
          refine (IK).mono ?_
          rintro r u ⟨rfl, hu⟩; have hu2 := hu.symm; subst hu2; clear hu
          go_wp2
          go_ret
          exact ⟨ret_int HC.out.symm, B0⟩
        | true =>
          have HC : Hid (hdF z r m k = 0) := by show _ = _; unfold hdF; rw [if_pos]; exact hdB_iff.2 ⟨of_decide_eq_true e1, of_decide_eq_true e2, of_decide_eq_true e3, of_decide_eq_true e4⟩
          rw [e4] at IK
          clear e1 e2 e3 e4
          go_enter Tryz.func36, Tryz.ntmps36
          go_wp2_with fail
          simp only [← hE]
          clear hE
          refine (IZ).mono ?_
          rintro r u ⟨rfl, hu⟩; have hu2 := hu.symm; subst hu2; clear hu
          go_wp2_with fail
          refine (SR).mono ?_
          rintro r u ⟨rfl, hu⟩; have hu2 := hu.symm; subst hu2; clear hu
          go_wp2_with fail
          refine (SM).mono ?_
          rintro r u ⟨rfl, hu⟩; have hu2 := hu.symm; subst hu2; clear hu
          go_wp2_with fail
          refine (IK).mono ?_
          rintro r u ⟨rfl, hu⟩; have hu2 := hu.symm; subst hu2; clear hu
          go_wp2
          go_ret
          exact ⟨ret_int HC.out.symm, B0⟩

theorem implHeadFault_any (z r m k : Int) (w : World) :
    Calls Tryz.prog 25 #[.agg #[.int .i64 z, .int .i64 r, .int .i64 m, .int .i64 k]] w fun e w' => e = .returned (.int .i64 (hdF z r m k)) ∧ Below w.heap.size w w' := by
  have HF : Hid (∀ u : World, Calls Tryz.prog 36 #[.agg #[.int .i64 z, .int .i64 r, .int .i64 m, .int .i64 k]] u fun e w' => e = .returned (.int .i64 (hdF z r m k)) ∧ Below u.heap.size u w') := fun u => hfault_any z r m k u
  generalize hdF z r m k = cd at *
  go_enter Tryz.func25, Tryz.ntmps25
  go_wp2_with fail
  refine (HF.out _).mono ?_
  rintro e u ⟨rfl, hb⟩
  go_wp2
  go_ret
  exact ⟨rfl, ((Below.refl _ _).alloc (Nat.le_refl _) _).trans (hb.mono (by simp))⟩

set_option maxHeartbeats 2000000 in
theorem signedHeadOf_any (z r m k i : Int) (a b c : Option Addr) (ca cb cc : Nat) (sh ot p : List Int) (w : World) :
    Calls Tryz.prog 47 #[.agg #[.int .i64 z, .int .i64 r, .int .i64 m, .int .i64 k, .int .i64 i, .slice a sh.length ca, .slice b ot.length cb, .slice c p.length cc]] w fun e w' => e = .returned (.agg #[.int .i64 z, .int .i64 r, .int .i64 m, .int .i64 k, .int .i64 i, .slice a sh.length ca, .slice b ot.length cb, .slice c p.length cc]) ∧ Below w.heap.size w w' := by
  go_enter Tryz.func47, Tryz.ntmps47
  go_wp2
  refine bodyPost_ret (v := .agg #[.int .i64 z, .int .i64 r, .int .i64 m, .int .i64 k, .int .i64 i, .slice a sh.length ca, .slice b ot.length cb, .slice c p.length cc]) (by simp [results, Tryz.results47, go_sem]) rfl ⟨rfl, ?_⟩
  repeat (first | exact ((Below.refl _ _).alloc (Nat.le_refl _) _).alloc (by simp) _ | refine Below.setCell ?_ (by simp) _)

theorem sdF_ways (z r m k i : Int) (sh ot p : List Int) : sdF z r m k i sh ot p = if orC (hdF z r m k) (sgF i sh ot) = 0 then (if i = k then (if p.length ≤ 6 then suF p else 2) else 1) else orC (hdF z r m k) (sgF i sh ot) := by
  unfold sdF orC hdF
  by_cases h1 : hdB z r m k = true
  · rw [if_pos h1, if_pos h1, if_pos rfl]
  · have h3 : ¬ (3 : Int) = 0 := by decide
    simp only [if_neg h1, if_neg h3]

set_option maxHeartbeats 16000000 in
theorem signedFault_any (z r m k i : Int) (a b c : Option Addr) (ca cb cc : Nat) (sh ot p : List Int) (w : World) (hs : Has w .i64 a sh.length sh) (ho : Has w .i64 b ot.length ot) (hp : Has w .i64 c p.length p) (h1 : sh.length ≤ 1048576) (h2 : ot.length ≤ 1048576) (h3 : p.length ≤ 1048576) :
    Calls Tryz.prog 48 #[.agg #[.int .i64 z, .int .i64 r, .int .i64 m, .int .i64 k, .int .i64 i, .slice a sh.length ca, .slice b ot.length cb, .slice c p.length cc]] w fun e w' => e = .returned (.int .i64 (sdF z r m k i sh ot p)) ∧ Below w.heap.size w w' := by
  obtain ⟨E, hE⟩ : ∃ E, E = w.alloc (.cells #[.int .i64 z, .int .i64 r, .int .i64 m, .int .i64 k, .int .i64 i, .slice a sh.length ca, .slice b ot.length cb, .slice c p.length cc] 81) := ⟨_, rfl⟩
  have B0 : Below w.heap.size w E := by rw [hE]; exact (Below.refl _ _).alloc (Nat.le_refl _) _
  have GE : Blk E w.heap.size #[.int .i64 z, .int .i64 r, .int .i64 m, .int .i64 k, .int .i64 i, .slice a sh.length ca, .slice b ot.length cb, .slice c p.length cc] 81 := by rw [hE]; exact Blk.new _ _ _
  have FH : Hid (∀ wx : World, Below E.heap.size E wx → Calls Tryz.prog 36 #[.agg #[.int .i64 z, .int .i64 r, .int .i64 m, .int .i64 k]] wx fun e w' => e = .returned (.int .i64 (hdF z r m k)) ∧ Below wx.heap.size wx w') := fun wx _ => hfault_any z r m k wx
  have FS : Hid (∀ wx : World, Below E.heap.size E wx → Calls Tryz.prog 80 #[.agg #[.int .i64 i, .slice a sh.length ca, .slice b ot.length cb]] wx fun e w' => e = .returned (.int .i64 (sgF i sh ot)) ∧ Below wx.heap.size wx w') := fun wx h => implSignFault_any i a b ca cb sh ot wx (hs.below (B0.trans (h.mono B0.size)) (Nat.le_refl _)) (ho.below (B0.trans (h.mono B0.size)) (Nat.le_refl _)) h1 h2
  have FP : Hid (∀ wx : World, Below E.heap.size E wx → Calls Tryz.prog 81 #[.slice c p.length cc] wx fun e w' => e = .returned (.int .i64 (suF p)) ∧ w' = wx) := fun wx h => sumsFault_any c cc p wx (hp.below (B0.trans (h.mono B0.size)) (Nat.le_refl _)) h3
  have OB : Hid (∀ wx : World, Below E.heap.size E wx → Blk wx w.heap.size #[.int .i64 z, .int .i64 r, .int .i64 m, .int .i64 k, .int .i64 i, .slice a sh.length ca, .slice b ot.length cb, .slice c p.length cc] 81) := fun wx h => GE.below h GE.lt
  clear hs ho hp GE h1 h2
  have SW : Hid (sdF z r m k i sh ot p = if orC (hdF z r m k) (sgF i sh ot) = 0 then (if i = k then (if p.length ≤ 6 then suF p else 2) else 1) else orC (hdF z r m k) (sgF i sh ot)) := sdF_ways z r m k i sh ot p
  generalize sdF z r m k i sh ot p = RR at *
  generalize hdF z r m k = x at *
  generalize sgF i sh ot = y at *
  generalize suF p = t at *
  have e0 : ∀ wx : World, Below E.heap.size E wx → wx.cell? ⟨w.heap.size, 0, none⟩ = some (.int .i64 z) := fun wx h => ((OB.out _ h).cell 0).trans rfl
  have e1 : ∀ wx : World, Below E.heap.size E wx → wx.cell? ⟨w.heap.size, 1, none⟩ = some (.int .i64 r) := fun wx h => ((OB.out _ h).cell 1).trans rfl
  have e2 : ∀ wx : World, Below E.heap.size E wx → wx.cell? ⟨w.heap.size, 2, none⟩ = some (.int .i64 m) := fun wx h => ((OB.out _ h).cell 2).trans rfl
  have e3 : ∀ wx : World, Below E.heap.size E wx → wx.cell? ⟨w.heap.size, 3, none⟩ = some (.int .i64 k) := fun wx h => ((OB.out _ h).cell 3).trans rfl
  have e4 : ∀ wx : World, Below E.heap.size E wx → wx.cell? ⟨w.heap.size, 4, none⟩ = some (.int .i64 i) := fun wx h => ((OB.out _ h).cell 4).trans rfl
  have e5 : ∀ wx : World, Below E.heap.size E wx → wx.cell? ⟨w.heap.size, 5, none⟩ = some (.slice a sh.length ca) := fun wx h => ((OB.out _ h).cell 5).trans rfl
  have e6 : ∀ wx : World, Below E.heap.size E wx → wx.cell? ⟨w.heap.size, 6, none⟩ = some (.slice b ot.length cb) := fun wx h => ((OB.out _ h).cell 6).trans rfl
  have U0 : Below E.heap.size E E.drew := (Below.refl _ _).drew
  go_enter Tryz.func48, Tryz.ntmps48
  go_wp2_with fail
  simp only [← hE]
  clear hE
  go_cut [3] (fun s3 wx => s3 = .int .i64 (orC x y) ∧ Below E.heap.size E wx)
  case first =>
    clear SW OB FP
    go_region_held2 (fun wx => Below E.heap.size E wx)
      ((first | exact U0 | exact D2 | exact D1 | exact D2.alloc D2.size _ | assumption))
      ((first | (go_at_call 36; refine (FH.out _ U0).mono ?_; rintro _ ua ⟨rfl, hba⟩; have D1 : Below E.heap.size E ua := U0.trans (hba.mono U0.size)) | (go_at_call 80; refine (FS.out _ D1).mono ?_; rintro _ ub ⟨rfl, hbb⟩; have D2 : Below E.heap.size E ub := D1.trans (hbb.mono D1.size)) | (go_at_call 79; refine (cmpOr_any x y _ _ (by simp [go_sem]) (by simp [go_sem])).mono ?_; rintro _ uc ⟨rfl, huc⟩; have hu2 := huc.symm; subst hu2; clear huc) | fail))
    all_goals go_wp2_with fail
    all_goals go_meet
    all_goals exact ⟨rfl, by first | exact D2.alloc D2.size _ | exact D2⟩
  case rest =>
    obtain ⟨rfl, hcb⟩ := hcut
    generalize wc = Y at *
    have GY := OB.out Y hcb
    have k3 : Y.cell? ⟨w.heap.size, 3, none⟩ = some (.int .i64 k) := (GY.cell 3).trans rfl
    have k4 : Y.cell? ⟨w.heap.size, 4, none⟩ = some (.int .i64 i) := (GY.cell 4).trans rfl
    have k7 : Y.cell? ⟨w.heap.size, 7, none⟩ = some (.slice c p.length cc) := (GY.cell 7).trans rfl
    have FPY := FP.out Y hcb
    have hlt := GY.lt
    have BY : Below w.heap.size w Y := B0.trans (hcb.mono B0.size)
    have RW := SW.out
    clear e0 e1 e2 e3 e4 e5 e6 U0 OB FH FS FP GY SW hcb B0
    generalize orC x y = q at *
    by_cases hc : q = 0
    · have bo : (q != 0) = false := by simpa using hc
      rw [if_pos hc] at RW
      by_cases hik : i = k
      · have b1 : (i != k) = false := by simpa using hik
        rw [if_pos hik] at RW
        by_cases hp6 : p.length ≤ 6
        · rw [if_pos hp6] at RW
          have RH : Hid (RR = t) := RW
          have hp6' : (p.length : Int) ≤ 6 := by omega
          clear RW hc hik
          go_wp2_with fail
          refine FPY.mono ?_
          rintro r' u ⟨rfl, hu⟩; have hu2 := hu.symm; subst hu2; clear hu
          go_wp2
          go_ret
          exact ⟨ret_int RH.out.symm, BY⟩
        · rw [if_neg hp6] at RW
          have RH : Hid (RR = 2) := RW
          have hp6' : (6 : Int) < (p.length : Int) := by omega
          clear RW hc hik FPY
          go_wp2
          go_ret
          exact ⟨ret_int RH.out.symm, BY⟩
      · have b1 : (i != k) = true := by simpa using hik
        rw [if_neg hik] at RW
        have RH : Hid (RR = 1) := RW
        clear RW hc hik FPY
        go_wp2
        go_ret
        exact ⟨ret_int RH.out.symm, BY⟩
    · have bo : (q != 0) = true := by simpa using hc
      rw [if_neg hc] at RW
      have RH : Hid (RR = q) := RW
      clear RW hc FPY
      go_wp2
      go_ret
      exact ⟨ret_int RH.out.symm, BY⟩

set_option maxHeartbeats 2000000 in
theorem implSignedFault_any (z r m k i : Int) (a b c : Option Addr) (ca cb cc : Nat) (sh ot p : List Int) (w : World) (hs : Has w .i64 a sh.length sh) (ho : Has w .i64 b ot.length ot) (hp : Has w .i64 c p.length p) (h1 : sh.length ≤ 1048576) (h2 : ot.length ≤ 1048576) (h3 : p.length ≤ 1048576) :
    Calls Tryz.prog 20 #[.agg #[.int .i64 z, .int .i64 r, .int .i64 m, .int .i64 k, .int .i64 i, .slice a sh.length ca, .slice b ot.length cb, .slice c p.length cc]] w fun e w' => e = .returned (.int .i64 (sdF z r m k i sh ot p)) ∧ Below w.heap.size w w' := by
  have SF : Hid (∀ u : World, Below w.heap.size w u → Calls Tryz.prog 48 #[.agg #[.int .i64 z, .int .i64 r, .int .i64 m, .int .i64 k, .int .i64 i, .slice a sh.length ca, .slice b ot.length cb, .slice c p.length cc]] u fun e w' => e = .returned (.int .i64 (sdF z r m k i sh ot p)) ∧ Below u.heap.size u w') := fun u h => signedFault_any z r m k i a b c ca cb cc sh ot p u (hs.below h (Nat.le_refl _)) (ho.below h (Nat.le_refl _)) (hp.below h (Nat.le_refl _)) h1 h2 h3
  have SO : Hid (∀ u : World, Calls Tryz.prog 47 #[.agg #[.int .i64 z, .int .i64 r, .int .i64 m, .int .i64 k, .int .i64 i, .slice a sh.length ca, .slice b ot.length cb, .slice c p.length cc]] u fun e w' => e = .returned (.agg #[.int .i64 z, .int .i64 r, .int .i64 m, .int .i64 k, .int .i64 i, .slice a sh.length ca, .slice b ot.length cb, .slice c p.length cc]) ∧ Below u.heap.size u w') := fun u => signedHeadOf_any z r m k i a b c ca cb cc sh ot p u
  generalize sdF z r m k i sh ot p = RR at *
  clear hs ho hp h1 h2 h3
  go_enter Tryz.func20, Tryz.ntmps20
  go_wp2_with fail
  refine (SO.out _).mono ?_
  rintro e u ⟨rfl, hb⟩
  have B1 : Below w.heap.size w u := ((Below.refl _ _).alloc (Nat.le_refl _) _).trans (hb.mono (by simp))
  go_wp2_with fail
  refine (SF.out _ B1).mono ?_
  rintro e u2 ⟨rfl, hb2⟩
  go_wp2
  go_ret
  exact ⟨rfl, B1.trans (hb2.mono B1.size)⟩

end Go.Proofs.YtffidkoejlebeaaGreatDoor
