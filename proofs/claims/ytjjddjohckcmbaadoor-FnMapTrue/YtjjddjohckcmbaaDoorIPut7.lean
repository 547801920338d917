/- Contract of the program's chapter 7: a slot that is put. -/
import Derived.Test.YtjjddjohckcmbaaDoorIFind
import Derived.Test.YtjjddjohckcmbaaDoorSPut
namespace Go.Proofs.YtjjddjohckcmbaaDoor
open Go.ChangeShapes Go.WideShapes Go.ChangeAt Go.RowKit
set_option linter.unusedVariables false
set_option linter.unusedSimpArgs false

open Go.Maps (Keyed int_keyed keyOf_int_mk)
theorem put_map {l : List Sl} {x y : Int} : (fun j => if x = j then some y else (fun j => if x = j then none else slFind l j) j) = fun k => if (x, y).1 = k then some (x, y).2 else slFind l k := by
  funext j
  show (if x = j then some y else if x = j then none else slFind l j) = if x = j then some y else slFind l j
  split <;> rfl

set_option maxHeartbeats 2000000 in
theorem implPutSlot_any (a : Option Addr) (c : Nat) (l : List Sl) (x y : Int) (w : World) (h : HasS w a l) (hl : l.length ≤ 1048576) (hxw : (Lit.int .i64 x).wf = true) (hyw : (Lit.int .i64 y).wf = true) :
    Calls Tryd.prog 29 #[.slice a l.length c, .agg #[.int .i64 x, .int .i64 y]] w fun r w' => ∃ a' c', r = .returned (.agg #[.int .i64 (puC l (x, y)), .slice a' (puL l (x, y)).length c']) ∧ OwnS w' w.heap.size (.slice a' (puL l (x, y)).length c') (puL l (x, y)) ∧ Below w.heap.size w w' := by
  obtain ⟨E, hE⟩ : ∃ E, E = (w.alloc (.cells #[.int .i64 x, .int .i64 y] 50)).alloc (.cells #[.int .i64 0, .slice none 0 0] 54) := ⟨_, rfl⟩
  have zE : E.heap.size = w.heap.size + 2 := by rw [hE]; simp
  have B0 : Below w.heap.size w E := by rw [hE]; exact ((Below.refl _ _).alloc (Nat.le_refl _) _).alloc (by simp) _
  have h' : HasS E a l := by rw [hE]; exact (h.alloc _).alloc _
  have XE : Blk E w.heap.size #[.int .i64 x, .int .i64 y] 50 := by
    rw [hE]; exact (Blk.new w _ 50).below ((Below.refl _ _).alloc (Nat.le_refl _) _) (by simp)
  have RE : Blk E (w.heap.size + 1) #[.int .i64 0, .slice none 0 0] 54 := by
    have := Blk.new (w.alloc (.cells #[.int .i64 x, .int .i64 y] 50)) #[.int .i64 0, .slice none 0 0] 54
    rw [World.size_alloc] at this
    rw [hE]; exact this
  have SF : Hid (∀ u : World, HasS u a l → Calls Tryd.prog 20 #[.slice a l.length c] u fun r w' => r = .returned (.int .i64 (slF l)) ∧ Below u.heap.size u w') := fun u hu => implSlotsFault_any a c l u hu hl
  have IR : Hid (∀ u : World, Calls Tryd.prog 66 #[.agg #[.int .i64 x, .int .i64 y]] u fun r w' => r = .returned (.bool (slOk (x, y))) ∧ Below u.heap.size u w') := isInRange_any x y
  have hnil : puC l (x, y) ≠ 0 → puL l (x, y) = [] := puL_nil
  by_cases hc : slF l = 0
  · have z0 : w.heap.size < E.heap.size ∧ w.heap.size + 1 < E.heap.size := by omega
    obtain ⟨hl12, hall, hr⟩ := slF_zero hc
    have hf0 : (slF l != 0) = false := by simpa using hc
    cases hso : slOk (x, y) with
    | false =>
      have e1 : puC l (x, y) = 3 := by unfold puC; rw [if_pos hc, hso]; rfl
      rw [hso] at IR
      rw [hnil (by rw [e1]; decide), e1]
      rw [hc] at SF
      clear hnil hall hr hl12 hso hf0 hc e1
      go_enter Tryd.func29, Tryd.ntmps29
      go_wp2_with fail
      simp only [← hE]
      clear hE
      refine (SF.out _ h').mono ?_
      rintro r u1 ⟨rfl, hb1⟩
      have B1 := B0.trans (hb1.mono (by omega))
      have X1 := XE.below hb1 (by omega)
      have R1 := RE.below hb1 (by omega)
      have x0 : u1.cell? ⟨w.heap.size, 0, none⟩ = some (.int .i64 x) := (X1.cell 0).trans rfl
      have x1 : u1.cell? ⟨w.heap.size, 1, none⟩ = some (.int .i64 y) := (X1.cell 1).trans rfl
      have z1 := hb1.size
      clear h' XE RE
      go_wp2_with fail
      refine (IR.out _).mono ?_
      rintro r u2 ⟨rfl, hb2⟩
      have B2 := B1.trans (hb2.mono (by omega))
      have R2 := R1.below hb2 (by omega)
      have k0 : u2.cell? ⟨w.heap.size + 1, 0, none⟩ = some (.int .i64 0) := (R2.cell 0).trans rfl
      have k1 : u2.cell? ⟨w.heap.size + 1, 1, none⟩ = some (.slice none 0 0) := (R2.cell 1).trans rfl
      have f0 := R2.frozen 0
      have f1 := R2.frozen 1
      clear R1 R2 X1 hb1 hb2 x0 x1
      go_wp2
      refine bodyPost_ret (v := .agg #[.int .i64 3, .slice none 0 0]) (by simp [results, Tryd.results29, go_sem, k0, k1]) rfl ⟨none, 0, rfl, nil_ownS _ _, ?_⟩
      exact (B2.setCell (by show w.heap.size ≤ w.heap.size + 1; omega) _).setCell (by show w.heap.size ≤ w.heap.size + 1; omega) _
    | true =>
      have hln : (slPut l (x, y)).length = l.length + (if (slFind l x).isSome = true then 0 else 1) := slPut_len (s := (x, y)) hr
      have HFIN : Hid (¬ 12 < (slPut l (x, y)).length → puC l (x, y) = 0 ∧ puL l (x, y) = slPut l (x, y)) := fun h12 => by
        refine ⟨?_, ?_⟩
        · unfold puC; rw [if_pos hc, if_pos hso, if_neg h12]
        · unfold puL; rw [if_pos ⟨hc, hso, h12⟩]
      have HFUL : Hid (12 < (slPut l (x, y)).length → puC l (x, y) = 10 ∧ puL l (x, y) = []) := fun h12 => by
        have e : puC l (x, y) = 10 := by unfold puC; rw [if_pos hc, if_pos hso, if_pos h12]
        exact ⟨e, hnil (by rw [e]; decide)⟩
      have HRL : Hid (risL (fun j => if x = j then some y else (fun j => if x = j then none else slFind l j) j) 64 = slPut l (x, y)) := by
        show _ = _
        rw [put_map]
        exact risL_put hr hall hso
      have SM : Hid (∀ u : World, HasS u a l → Calls Tryd.prog 51 #[.slice a l.length c] u fun r w' => r = .returned (.map (some u.heap.size)) ∧ (∃ D, World.ownsMap w' Tryd.prog 2 (plainElem (H := Unit) Tryd.prog 2) u.heap.size 12 D ∧ MapD D (slFind l) l.length) ∧ Below u.heap.size u w' ∧ u.heap.size < w'.heap.size) := fun u hu => slotMapOf_any a c l u hu hl12 hr
      rw [hso] at IR
      rw [hc] at SF
      have hkey := keyOf_int_mk Tryd.underlying2 hxw
      have HY : Hid ((Lit.int .i64 y).wf = true) := hyw
      clear hnil hall hr hso hf0 hc
      go_enter Tryd.func29, Tryd.ntmps29
      go_wp2_with fail
      simp only [← hE]
      clear hE
      refine (SF.out _ h').mono ?_
      rintro r u1 ⟨rfl, hb1⟩
      have B1 := B0.trans (hb1.mono (by omega))
      have X1 := XE.below hb1 (by omega)
      have R1 := RE.below hb1 (by omega)
      have h1 := h'.below hb1 (Nat.le_refl _)
      have x0 : u1.cell? ⟨w.heap.size, 0, none⟩ = some (.int .i64 x) := (X1.cell 0).trans rfl
      have x1 : u1.cell? ⟨w.heap.size, 1, none⟩ = some (.int .i64 y) := (X1.cell 1).trans rfl
      have z1 := hb1.size
      clear h' XE RE
      go_wp2_with fail
      refine (IR.out _).mono ?_
      rintro r u2 ⟨rfl, hb2⟩
      have z2 := hb2.size
      have B2 := B1.trans (hb2.mono (by omega))
      have R2 := R1.below hb2 (by omega)
      have X2 := X1.below hb2 (by omega)
      have h2 := h1.below hb2 (Nat.le_refl _)
      clear R1 X1 h1 hb1 hb2 x0 x1
      go_wp2_with fail
      refine (SM.out _ h2).mono ?_
      rintro r u3 ⟨rfl, ⟨D, hown, hmd⟩, hb3, z3⟩
      have B3 := B2.trans (hb3.mono (by omega))
      have R3 := R2.below hb3 (by omega)
      have X3 := X2.below hb3 (by omega)
      have td := hown.tidy mapLaw
      have hmd1 := hmd.del td x
      have y0 : u3.cell? ⟨w.heap.size, 0, none⟩ = some (.int .i64 x) := (X3.cell 0).trans rfl
      have HMD : Hid (MapD (D.del (.int .i64 x)) (fun j => if x = j then none else slFind l j) (l.length - (if (slFind l x).isSome = true then 1 else 0))) := hmd1
      clear R2 X2 h2 hb3 hmd hmd1 td h
      obtain ⟨M, hM⟩ : ∃ M, M = u2.heap.size := ⟨_, rfl⟩
      simp only [← hM] at *
      have hsz := HMD.out.size
      obtain ⟨s, hs⟩ : ∃ s, s = l.length - (if (slFind l x).isSome = true then 1 else 0) := ⟨_, rfl⟩
      rw [← hs] at hsz HMD
      have HSW : Hid ((12 < (slPut l (x, y)).length ↔ s = 12) ∧ s ≤ 12) := by
        show _ ∧ _
        rw [hln, hs]
        cases (slFind l x).isSome <;> simp <;> omega
      clear hln hs hl12
      have hwM : w.heap.size ≠ M := by omega
      have hwM1 : w.heap.size + 1 ≠ M := by omega
      have FT : Hid (∀ w1 : World, u3.mapTurned w1 M → Fr (fun k => k = M) u3 w1) := fun w1 ht => Fr.of_grown ht.grown (fun k e => by cases e; rfl)
      have BT : Hid (∀ w1 : World, u3.mapTurned w1 M → Below w.heap.size w w1) := fun w1 ht => B3.trans ((FT.out w1 ht).below (fun k e => by omega) (by omega))
      have RT : Hid (∀ w1 : World, u3.mapTurned w1 M → Blk w1 (w.heap.size + 1) #[.int .i64 0, .slice none 0 0] 54) := fun w1 ht => R3.fr (FT.out w1 ht) hwM1
      have KT : Hid (∀ w1 : World, u3.mapTurned w1 M → (w1.cell? ⟨w.heap.size, 0, none⟩ = some (.int .i64 x) ∧ w1.cell? ⟨w.heap.size, 1, none⟩ = some (.int .i64 y)) ∧ (w1.cell? ⟨w.heap.size + 1, 0, none⟩ = some (.int .i64 0) ∧ w1.cell? ⟨w.heap.size + 1, 1, none⟩ = some (.slice none 0 0)) ∧ w1.frozen? ⟨w.heap.size + 1, 0, none⟩ = false ∧ w1.frozen? ⟨w.heap.size + 1, 1, none⟩ = false) := fun w1 ht => by
        have X4 := X3.fr (FT.out w1 ht) hwM
        have R4 := RT.out w1 ht
        exact ⟨⟨(X4.cell 0).trans rfl, (X4.cell 1).trans rfl⟩, ⟨(R4.cell 0).trans rfl, (R4.cell 1).trans rfl⟩, R4.frozen 0, R4.frozen 1⟩
      clear X3 R3 B3 B2 B1 B0
      by_cases hfu : s = 12
      · subst hfu
        have HQ : Hid (puC l (x, y) = 10 ∧ puL l (x, y) = []) := HFUL.out (HSW.out.1.2 rfl)
        clear HRL HFIN HFUL HSW HMD
        go_wp2_with (first | (at_delete; refine wpList_delete_own _ rfl _ _ 82 2 rfl 2 mapLaw Tryd.underlying82 _ M 12 D rfl hown _ _ rfl hkey ?_; intro w1 hown1 hturn1; obtain ⟨⟨x0, x1⟩, ⟨k0, k1⟩, f0, f1⟩ := KT.out w1 hturn1) | (at_len; refine wpList_len_own _ rfl _ 82 rfl 2 2 Tryd.underlying82 _ M 12 _ rfl hown1 ?_; rw [hsz]) | go_in)
        have B4 := BT.out _ hturn1
        refine bodyPost_ret (v := .agg #[.int .i64 10, .slice none 0 0]) (by simp [results, Tryd.results29, go_sem, k0, k1]) rfl ⟨none, 0, by rw [HQ.out.1, HQ.out.2]; rfl, by rw [HQ.out.2]; exact nil_ownS _ _, ?_⟩
        exact (B4.setCell (by show w.heap.size ≤ w.heap.size + 1; omega) _).setCell (by show w.heap.size ≤ w.heap.size + 1; omega) _
      · have hsi : ((s : Int) == 12) = false := by simp; omega
        have HQ : Hid (puC l (x, y) = 0 ∧ puL l (x, y) = slPut l (x, y)) := HFIN.out (fun e => hfu (HSW.out.1.1 e))
        have HM2 : Hid (Maps.Tidy (D.del (.int .i64 x)) → MapD ((D.del (.int .i64 x)).put (.int .i64 x) (.lit (.int .i64 y))) (fun j => if x = j then some y else (fun j => if x = j then none else slFind l j) j) (s + 1)) := fun ht => HMD.out.put ht x y (by simp)
        clear HFIN HFUL HSW HMD
        go_wp2_with (first | (at_delete; refine wpList_delete_own _ rfl _ _ 82 2 rfl 2 mapLaw Tryd.underlying82 _ M 12 D rfl hown _ _ rfl hkey ?_; intro w1 hown1 hturn1; obtain ⟨⟨x0, x1⟩, ⟨k0, k1⟩, f0, f1⟩ := KT.out w1 hturn1) | (at_len; refine wpList_len_own _ rfl _ 82 rfl 2 2 Tryd.underlying82 _ M 12 _ rfl hown1 ?_; rw [hsz]) | (at_mapUpdate; refine wpList_mapUpdate_own _ rfl _ _ _ 82 rfl 2 2 mapLaw Tryd.underlying82 _ M 12 _ rfl hown1 (by unfold maxLen; omega) _ _ _ rfl rfl hkey _ [] (plainElem_int Tryd.underlying2 HY.out) ?_; intro w4 hown4 hgrow4) | fail)
        have FM4 : Fr (fun k => k = M) w1 w4 := Fr.of_grown hgrow4 (fun k e => by cases e; rfl)
        have s4 := (FT.out _ hturn1).size
        have B5 : Below w.heap.size w w4 := (BT.out _ hturn1).trans (FM4.below (fun k e => by omega) (by omega))
        have R5 := (RT.out _ hturn1).fr FM4 hwM1
        have s5 := FM4.size
        have RS := rising_any M (12 + 1) (s + 1) _ _ w4 hown4 (HM2.out (hown1.tidy mapLaw))
        rw [HRL.out] at RS
        have RH : Hid (Calls Tryd.prog 72 #[.map (some M)] w4 fun r w' => ∃ a' c', r = .returned (.slice a' (slPut l (x, y)).length c') ∧ OwnS w' w4.heap.size (.slice a' (slPut l (x, y)).length c') (slPut l (x, y)) ∧ Below w4.heap.size w4 w') := RS
        clear RS HM2 HRL FM4 hgrow4 hown4 hown1 x0 x1 k0 k1 f0 f1 hturn1
        refine RH.out.mono ?_
        rintro r u6 ⟨a', c', rfl, O6, hb6⟩
        have B6 := B5.trans (hb6.mono (by omega))
        have R6 := R5.below hb6 (by omega)
        have k0 : u6.cell? ⟨w.heap.size + 1, 0, none⟩ = some (.int .i64 0) := (R6.cell 0).trans rfl
        have k1 : u6.cell? ⟨w.heap.size + 1, 1, none⟩ = some (.slice none 0 0) := (R6.cell 1).trans rfl
        have f0 := R6.frozen 0
        have f1 := R6.frozen 1
        have OH : Hid (OwnS u6 w4.heap.size (.slice a' (slPut l (x, y)).length c') (slPut l (x, y))) := O6
        clear R5 R6 hb6 O6 RH
        go_wp2
        refine bodyPost_ret (v := .agg #[.int .i64 0, .slice a' (slPut l (x, y)).length c']) (by simp [results, Tryd.results29, go_sem, k0, k1]) rfl ⟨a', c', by rw [HQ.out.1, HQ.out.2], by rw [HQ.out.2]; exact own2_mono (own2_set (own2_set OH.out (by omega) _) (by omega) _) (by omega), ?_⟩
        exact (B6.setCell (by show w.heap.size ≤ w.heap.size + 1; omega) _).setCell (by show w.heap.size ≤ w.heap.size + 1; omega) _
  · have e1 : puC l (x, y) = slF l := by unfold puC; rw [if_neg hc]
    rw [hnil (by rw [e1]; exact hc), e1]
    have hc' : (slF l != 0) = true := by simpa using hc
    clear hnil e1 XE IR
    generalize slF l = cc at *
    go_enter Tryd.func29, Tryd.ntmps29
    go_wp2_with fail
    simp only [← hE]
    clear hE
    refine (SF.out _ h').mono ?_
    rintro r u1 ⟨rfl, hb1⟩
    have B1 := B0.trans (hb1.mono (by omega))
    have R1 := RE.below hb1 (by omega)
    have k0 : u1.cell? ⟨w.heap.size + 1, 0, none⟩ = some (.int .i64 0) := (R1.cell 0).trans rfl
    have k1 : u1.cell? ⟨w.heap.size + 1, 1, none⟩ = some (.slice none 0 0) := (R1.cell 1).trans rfl
    have f0 := R1.frozen 0
    have f1 := R1.frozen 1
    clear R1 RE hb1
    go_wp2
    refine bodyPost_ret (v := .agg #[.int .i64 cc, .slice none 0 0]) (by simp [results, Tryd.results29, go_sem, k0, k1]) rfl ⟨none, 0, rfl, nil_ownS _ _, ?_⟩
    exact (B1.setCell (by show w.heap.size ≤ w.heap.size + 1; omega) _).setCell (by show w.heap.size ≤ w.heap.size + 1; omega) _

end Go.Proofs.YtjjddjohckcmbaaDoor
