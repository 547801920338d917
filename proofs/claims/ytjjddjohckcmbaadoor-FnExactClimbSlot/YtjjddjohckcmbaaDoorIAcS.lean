/- Contracts of the program's chapter 7: the root of a rise, the root of a map. Contracts of the program's chapter 7: a slot climbed. Contract of the program's chapter 7: a slot accepted. -/
import Derived.Test.YtjjddjohckcmbaaDoorINd
import Derived.Test.YtjjddjohckcmbaaDoorIFind
import Derived.Test.YtjjddjohckcmbaaDoorSlQ
namespace Go.Proofs.YtjjddjohckcmbaaDoor
open Go.ChangeShapes Go.WideShapes Go.ChangeAt Go.RowKit
set_option linter.unusedVariables false
set_option linter.unusedSimpArgs false

theorem idxN5 (f : Nat → Int × Int) (w : World) : (Instr.index 122 (.agg #[Value.int .i64 (f 0).1, Value.int .i64 (f 0).2, Value.bool false, Value.int .i64 (f 1).1, Value.int .i64 (f 1).2, Value.bool false, Value.int .i64 (f 2).1, Value.int .i64 (f 2).2, Value.bool false, Value.int .i64 (f 3).1, Value.int .i64 (f 3).2, Value.bool false, Value.int .i64 (f 4).1, Value.int .i64 (f 4).2, Value.bool false, Value.int .i64 (f 5).1, Value.int .i64 (f 5).2, Value.bool false]) (.int .i64 5)).run Tryd.prog w = .ok (.agg #[.int .i64 (f 5).1, .int .i64 (f 5).2, .bool false]) w := by kernel_rfl

set_option maxRecDepth 100000 in
set_option maxHeartbeats 2000000 in
theorem root_any (key : Int) (la : Option Addr) (lc : Nat) (zs : List Int) (pb po pc : Nat) (p : List Int) (w : World) (hT : Tab w) (hk : 0 ≤ key ∧ key ≤ 63) (hlf : Has w .u8 la zs.length zs) (hl4 : zs.length ≤ 4) (hp : Has w .i64 (some ⟨pb, po, none⟩) 6 p) (hall : allS p = true) :
    Calls Tryd.prog 56 #[.agg #[.int .i64 key, .slice la zs.length lc, .slice (some ⟨pb, po, none⟩) 6 pc]] w fun r w' => r = .returned (.int .i64 (mpC key (sumL zs) p 6)) ∧ Below w.heap.size w w' := by
  obtain ⟨E, hE⟩ : ∃ E, E = w.alloc (.cells #[.int .i64 key, .slice la zs.length lc, .slice (some ⟨pb, po, none⟩) 6 pc] 80) := ⟨_, rfl⟩
  have EW : Below w.heap.size w E := by rw [hE]; exact (Below.refl _ _).alloc (Nat.le_refl _) _
  have ND := nodes_any key la lc zs pb po pc p E (hT.below EW (Nat.le_refl _)) hk (hlf.below EW (Nat.le_refl _)) hl4 (hp.below EW (Nat.le_refl _)) hall
  have HS : Hid (mpC key (sumL zs) p 6 = nS (ndQ key (sumL zs) p 5).1 (ndQ key (sumL zs) p 5).2) := ndQ_sum key (sumL zs) p 5
  obtain ⟨hb1, hb2⟩ := ndQ_bd key (sum_bd zs) hall 5
  have TH : Hid (∀ u : World, Below w.heap.size w u → Tab u) := fun u hu => hT.below hu (Nat.le_refl _)
  rw [nd_all] at ND
  generalize ndQ key (sumL zs) p = f at *
  have IX := idxN5 f
  clear hT hlf hp hall hk hl4
  go_enter Tryd.func56, Tryd.ntmps56
  go_wp2_with fail
  simp only [← hE]
  clear hE
  refine ND.mono ?_
  rintro r u1 ⟨rfl, h1⟩
  have B1 : Below w.heap.size w u1 := EW.trans (h1.mono EW.size)
  have T1 := TH.out _ B1
  clear h1 ND EW
  go_wp2_with fail
  refine (joined_any (f 5).1 (f 5).2 false _ T1 hb1 (fun _ => hb2)).mono ?_
  rintro r u2 ⟨rfl, h2⟩
  have B2 := B1.trans (h2.mono B1.size)
  clear h2 T1
  go_wp2
  go_ret
  exact ⟨by rw [HS.out]; rfl, B2⟩

theorem root_of (key : Int) (la : Option Addr) (lc : Nat) (zs : List Int) (pa : Option Addr) (pc : Nat) (p : List Int) (w : World) (hT : Tab w) (hk : 0 ≤ key ∧ key ≤ 63) (hlf : Has w .u8 la zs.length zs) (hl4 : zs.length ≤ 4) (hp : Has w .i64 pa p.length p) (h6 : p.length = 6) (hall : allS p = true) :
    Calls Tryd.prog 56 #[.agg #[.int .i64 key, .slice la zs.length lc, .slice pa p.length pc]] w fun r w' => r = .returned (.int .i64 (mpC key (sumL zs) p 6)) ∧ Below w.heap.size w w' := by
  rcases hp.2.2 with h0 | ⟨b, o, e, h, _⟩
  · omega
  · subst e
    rw [h6] at hp ⊢
    exact root_any key la lc zs b o pc p w hT hk hlf hl4 hp hall

set_option maxHeartbeats 2000000 in
theorem implMapRoot_any (a : Option Addr) (c : Nat) (l : List Sl) (w : World) (hT : Tab w) (h : HasS w a l) (hl : l.length ≤ 1048576) :
    Calls Tryd.prog 23 #[.slice a l.length c] w fun r w' => r = .returned (.agg #[.int .i64 (slF l), .int .i64 (mrV l)]) ∧ Below w.heap.size w w' := by
  obtain ⟨E, hE⟩ : ∃ E, E = w.alloc (.cells #[.int .i64 0, .int .i64 0] 34) := ⟨_, rfl⟩
  have zE : E.heap.size = w.heap.size + 1 := by rw [hE]; simp
  have B0 : Below w.heap.size w E := by rw [hE]; exact (Below.refl _ _).alloc (Nat.le_refl _) _
  have h' : HasS E a l := by rw [hE]; exact h.alloc _
  have RE : Blk E w.heap.size #[.int .i64 0, .int .i64 0] 34 := by rw [hE]; exact Blk.new _ _ _
  have SF : Hid (∀ u : World, HasS u a l → Calls Tryd.prog 20 #[.slice a l.length c] u fun r w' => r = .returned (.int .i64 (slF l)) ∧ Below u.heap.size u w') := fun u hu => implSlotsFault_any a c l u hu hl
  have TH : Hid (∀ u : World, Below w.heap.size w u → Tab u) := fun u hu => hT.below hu (Nat.le_refl _)
  clear hT h
  by_cases hc : slF l = 0
  · obtain ⟨hl12, hall, hr⟩ := slF_zero hc
    have HQ : Hid (slF l = 0 ∧ mrV l = mpN l 6 0) := ⟨hc, by unfold mrV; rw [if_pos hc]⟩
    have SM : Hid (∀ u : World, HasS u a l → Calls Tryd.prog 51 #[.slice a l.length c] u fun r w' => r = .returned (.map (some u.heap.size)) ∧ (∃ D, World.ownsMap w' Tryd.prog 2 (plainElem (H := Unit) Tryd.prog 2) u.heap.size 12 D ∧ MapD D (slFind l) l.length) ∧ Below u.heap.size u w' ∧ u.heap.size < w'.heap.size) := fun u hu => slotMapOf_any a c l u hu hl12 hr
    have RO : Hid (∀ (u : World) (D : DataW Unit) (b : Nat), Tab u → World.ownsMap u Tryd.prog 2 (plainElem (H := Unit) Tryd.prog 2) b 12 D → MapD D (slFind l) l.length → Calls Tryd.prog 52 #[.map (some b), .int .i64 0] u fun r w' => ∃ a1 c1 a2 c2, r = .returned (.agg #[.int .i64 0, .slice a1 (slLeaf l 0).length c1, .slice a2 (mpP l 0).length c2]) ∧ OwnB w' u.heap.size a1 c1 (slLeaf l 0) ∧ OwnI w' u.heap.size (.slice a2 (mpP l 0).length c2) (mpP l 0) ∧ Below u.heap.size u w') := fun u D b ht ho hm => riseOf_any b 12 l.length D l 0 u ht ho hm hall ⟨by omega, by omega⟩
    have LW : Hid (∀ n ∈ slLeaf l 0, (Lit.int .u8 n).wf = true) := slLeaf_wf hall ⟨by omega, by omega⟩
    have RT : Hid (∀ (u : World) (a1 : Option Addr) (c1 : Nat) (a2 : Option Addr) (c2 : Nat), Tab u → Has u .u8 a1 (slLeaf l 0).length (slLeaf l 0) → Has u .i64 a2 (mpP l 0).length (mpP l 0) → Calls Tryd.prog 56 #[.agg #[.int .i64 0, .slice a1 (slLeaf l 0).length c1, .slice a2 (mpP l 0).length c2]] u fun r w' => r = .returned (.int .i64 (mpN l 6 0)) ∧ Below u.heap.size u w') := fun u a1 c1 a2 c2 ht h1 h2 => by
      have := root_of 0 a1 c1 (slLeaf l 0) a2 c2 (mpP l 0) u ht ⟨by omega, by omega⟩ h1 (slLeaf_len l 0) h2 (mpP_len l 0) (mpP_all l 0)
      rw [mpC_root (by omega) (by omega)] at this
      exact this
    rw [hc] at SF
    clear hall hr hl12 hc
    go_enter Tryd.func23, Tryd.ntmps23
    go_wp2_with fail
    simp only [← hE]
    clear hE
    refine (SF.out _ h').mono ?_
    rintro r u1 ⟨rfl, hb1⟩
    have z1 := hb1.size
    have h1 := h'.below hb1 (Nat.le_refl _)
    have R1 := RE.below hb1 (by omega)
    have B1 := B0.trans (hb1.mono (by omega))
    clear RE h' hb1
    go_wp2_with fail
    refine (SM.out _ h1).mono ?_
    rintro r u3 ⟨rfl, ⟨D, hown, hmd⟩, hb3, z3⟩
    have R3 := R1.below hb3 (by omega)
    have B3 := B1.trans (hb3.mono (by omega))
    have RO3 := RO.out u3 D u1.heap.size (TH.out _ B3) hown hmd
    clear R1 h1 hb3 hown hmd RO SM
    go_wp2_with fail
    refine RO3.mono ?_
    rintro r u4 ⟨a1, c1, a2, c2, rfl, O3, O4, hb4⟩
    have z4 := hb4.size
    have R4 := R3.below hb4 (by omega)
    have B4 := B3.trans (hb4.mono (by omega))
    have RT4 := RT.out u4 a1 c1 a2 c2 (TH.out _ B4) (has_of_own O3 LW.out) (has_of_own O4 (mpP_wf l 0))
    clear R3 hb4 O3 O4 RO3 RT LW
    go_wp2_with fail
    refine RT4.mono ?_
    rintro r u5 ⟨rfl, hb5⟩
    have R5 := R4.below hb5 (by omega)
    have B5 := B4.trans (hb5.mono (by omega))
    have k0 : u5.cell? ⟨w.heap.size, 0, none⟩ = some (.int .i64 0) := (R5.cell 0).trans rfl
    have k1 : u5.cell? ⟨w.heap.size, 1, none⟩ = some (.int .i64 0) := (R5.cell 1).trans rfl
    have f0 := R5.frozen 0
    have f1 := R5.frozen 1
    clear R4 R5 hb5 RT4
    go_wp2
    refine bodyPost_ret (v := .agg #[.int .i64 0, .int .i64 (mpN l 6 0)]) (by simp [results, Tryd.results23, go_sem, k0, k1]) rfl ⟨by rw [HQ.out.1, HQ.out.2], ?_⟩
    exact (B5.setCell (Nat.le_refl _) _).setCell (Nat.le_refl _) _
  · have e1 : mrV l = 0 := by unfold mrV; rw [if_neg hc]
    have hc' : (slF l != 0) = true := by simpa using hc
    rw [e1]
    generalize slF l = cc at *
    go_enter Tryd.func23, Tryd.ntmps23
    go_wp2_with fail
    simp only [← hE]
    clear hE
    refine (SF.out _ h').mono ?_
    rintro r u1 ⟨rfl, hb1⟩
    have B1 := B0.trans (hb1.mono (by omega))
    have R1 := RE.below hb1 (by omega)
    have k0 : u1.cell? ⟨w.heap.size, 0, none⟩ = some (.int .i64 0) := (R1.cell 0).trans rfl
    have k1 : u1.cell? ⟨w.heap.size, 1, none⟩ = some (.int .i64 0) := (R1.cell 1).trans rfl
    have f0 := R1.frozen 0
    have f1 := R1.frozen 1
    clear R1 RE hb1
    go_wp2
    refine bodyPost_ret (v := .agg #[.int .i64 cc, .int .i64 0]) (by simp [results, Tryd.results23, go_sem, k0, k1]) rfl ⟨rfl, ?_⟩
    exact (B1.setCell (Nat.le_refl _) _).setCell (Nat.le_refl _) _

end Go.Proofs.YtjjddjohckcmbaaDoor

namespace Go.Proofs.YtjjddjohckcmbaaDoor
open Go.ChangeShapes Go.WideShapes Go.ChangeAt Go.RowKit
set_option linter.unusedVariables false
set_option linter.unusedSimpArgs false

set_option maxHeartbeats 2000000 in
theorem climbFault_any (k v : Int) (t : Bool) (a : Option Addr) (c : Nat) (p : List Int) (w : World) (h : Has w .i64 a p.length p) (hl : p.length ≤ 1048576) :
    Calls Tryd.prog 54 #[.int .i64 k, .bool t, .int .i64 v, .slice a p.length c] w fun r w' => r = .returned (.int .i64 (clF k t v p)) ∧ w' = w := by
  have MK := isMapKey_any k w
  have IS := isSum_any v w
  have rest : slotOk k t v → Hid (clF k t v p = if p.length = 6 then suF p else 8) := fun ok => by
    show _ = _
    by_cases h6 : p.length = 6
    · rw [if_pos h6, clF_all ok h6]; rfl
    · rw [if_neg h6, clF_len ok h6]
  have SU : Hid (Calls Tryd.prog 90 #[.slice a p.length c] w fun r w' => r = .returned (.int .i64 (suF p)) ∧ w' = w) := sumsFault_any a c p w h hl
  clear h
  refine clF_ways (k := k) (v := v) (t := t) _ (fun h1 => ?_) (fun h1 h2 h3 => ?_) (fun h1 h2 h3 => ?_) (fun h1 h2 h3 ok => ?_) (fun h1 h2 h3 ok => ?_)
  · rw [clF_key h1]
    rw [h1] at MK
    clear SU rest IS
    go_enter Tryd.func54, Tryd.ntmps54
    go_wp2_with (go_at_call 50; refine MK.mono ?_; rintro r u ⟨rfl, rfl⟩)
    go_ret
    exact ⟨rfl, rfl⟩
  · subst h2
    rw [clF_val h3]
    rw [h1] at MK
    rw [h3] at IS
    clear SU rest
    go_enter Tryd.func54, Tryd.ntmps54
    go_wp2_with (first | (go_at_call 50; refine MK.mono ?_; rintro r u ⟨rfl, rfl⟩) | (go_at_call 89; refine IS.mono ?_; rintro r u ⟨rfl, rfl⟩))
    go_ret
    exact ⟨rfl, rfl⟩
  · subst h2
    rw [clF_none h3]
    rw [h1] at MK
    have h3' : (v != 0) = true := by simpa using h3
    clear SU rest IS
    go_enter Tryd.func54, Tryd.ntmps54
    go_wp2_with (go_at_call 50; refine MK.mono ?_; rintro r u ⟨rfl, rfl⟩)
    go_ret
    exact ⟨rfl, rfl⟩
  · have R := rest ok
    subst h2
    rw [h1] at MK
    rw [h3] at IS
    clear rest ok
    by_cases h6 : p.length = 6
    · have RQ : Hid (clF k true v p = suF p) := by show _ = _; rw [R.out, if_pos h6]
      have h6' : ((p.length : Int) != 6) = false := by simp; omega
      clear R h6
      go_enter Tryd.func54, Tryd.ntmps54
      go_wp2_with (first | (go_at_call 50; refine MK.mono ?_; rintro r u ⟨rfl, rfl⟩) | (go_at_call 89; refine IS.mono ?_; rintro r u ⟨rfl, rfl⟩) | (go_at_call 90; refine SU.out.mono ?_; rintro r u ⟨rfl, rfl⟩))
      go_ret
      exact ⟨ret_int RQ.out.symm, rfl⟩
    · have RQ : Hid (clF k true v p = 8) := by show _ = _; rw [R.out, if_neg h6]
      have h6' : ((p.length : Int) != 6) = true := by simp; omega
      clear R SU h6
      go_enter Tryd.func54, Tryd.ntmps54
      go_wp2_with (first | (go_at_call 50; refine MK.mono ?_; rintro r u ⟨rfl, rfl⟩) | (go_at_call 89; refine IS.mono ?_; rintro r u ⟨rfl, rfl⟩))
      go_ret
      exact ⟨ret_int RQ.out.symm, rfl⟩
  · have R := rest ok
    subst h2
    subst h3
    rw [h1] at MK
    clear rest ok IS
    by_cases h6 : p.length = 6
    · have RQ : Hid (clF k false 0 p = suF p) := by show _ = _; rw [R.out, if_pos h6]
      have h6' : ((p.length : Int) != 6) = false := by simp; omega
      clear R h6
      go_enter Tryd.func54, Tryd.ntmps54
      go_wp2_with (first | (go_at_call 50; refine MK.mono ?_; rintro r u ⟨rfl, rfl⟩) | (go_at_call 90; refine SU.out.mono ?_; rintro r u ⟨rfl, rfl⟩))
      go_ret
      exact ⟨ret_int RQ.out.symm, rfl⟩
    · have RQ : Hid (clF k false 0 p = 8) := by show _ = _; rw [R.out, if_neg h6]
      have h6' : ((p.length : Int) != 6) = true := by simp; omega
      clear R SU h6
      go_enter Tryd.func54, Tryd.ntmps54
      go_wp2_with (go_at_call 50; refine MK.mono ?_; rintro r u ⟨rfl, rfl⟩)
      go_ret
      exact ⟨ret_int RQ.out.symm, rfl⟩

set_option maxHeartbeats 2000000 in
theorem riseBy_any (k v : Int) (t : Bool) (a : Option Addr) (n c : Nat) (w : World) (hT : Tab w) (hk : 0 ≤ k ∧ k ≤ 63) (hv : t = true → 0 ≤ v ∧ v ≤ 65520) :
    Calls Tryd.prog 55 #[.int .i64 k, .bool t, .int .i64 v, .slice a n c] w fun r w' => ∃ a' c', r = .returned (.agg #[.int .i64 k, .slice a' (lfB k t v).length c', .slice a n c]) ∧ OwnB w' w.heap.size a' c' (lfB k t v) ∧ Below w.heap.size w w' := by
  obtain ⟨E, hE⟩ : ∃ E, E = w.alloc (.cells #[.int .i64 0, .slice none 0 0, .slice none 0 0] 80) := ⟨_, rfl⟩
  have zE : E.heap.size = w.heap.size + 1 := by rw [hE]; simp
  have B0 : Below w.heap.size w E := by rw [hE]; exact (Below.refl _ _).alloc (Nat.le_refl _) _
  have RE : Blk E w.heap.size #[.int .i64 0, .slice none 0 0, .slice none 0 0] 80 := by rw [hE]; exact Blk.new _ _ _
  have LF := leafOf_any k v t E (hT.below B0 (Nat.le_refl _)) hk hv
  generalize lfB k t v = zs at *
  clear hT
  go_enter Tryd.func55, Tryd.ntmps55
  go_wp2_with fail
  simp only [← hE]
  clear hE
  refine LF.mono ?_
  rintro r u1 ⟨a', c', rfl, O1, hb1⟩
  have B1 := B0.trans (hb1.mono (by omega))
  have R1 := RE.below hb1 (by omega)
  have k0 : u1.cell? ⟨w.heap.size, 0, none⟩ = some (.int .i64 0) := (R1.cell 0).trans rfl
  have k1 : u1.cell? ⟨w.heap.size, 1, none⟩ = some (.slice none 0 0) := (R1.cell 1).trans rfl
  have k2 : u1.cell? ⟨w.heap.size, 2, none⟩ = some (.slice none 0 0) := (R1.cell 2).trans rfl
  have f0 := R1.frozen 0
  have f1 := R1.frozen 1
  have f2 := R1.frozen 2
  have OH : Hid (OwnB u1 E.heap.size a' c' zs) := O1
  clear R1 RE hb1 O1 LF
  go_wp2
  refine bodyPost_ret (v := .agg #[.int .i64 k, .slice a' zs.length c', .slice a n c]) (by simp [results, Tryd.results55, go_sem, k0, k1, k2]) rfl ⟨a', c', rfl, ?_, ?_⟩
  · exact own_mono (own_set (own_set (own_set OH.out (by omega) _) (by omega) _) (by omega) _) (by omega)
  · exact ((B1.setCell (Nat.le_refl _) _).setCell (Nat.le_refl _) _).setCell (Nat.le_refl _) _

set_option maxHeartbeats 2000000 in
theorem implClimbSlot_any (k v : Int) (t : Bool) (a : Option Addr) (c : Nat) (p : List Int) (w : World) (hT : Tab w) (h : Has w .i64 a p.length p) (hl : p.length ≤ 1048576) :
    Calls Tryd.prog 14 #[.int .i64 k, .bool t, .int .i64 v, .slice a p.length c] w fun r w' => r = .returned (.agg #[.int .i64 (clF k t v p), .int .i64 (clW k t v p)]) ∧ Below w.heap.size w w' := by
  obtain ⟨E, hE⟩ : ∃ E, E = w.alloc (.cells #[.int .i64 0, .int .i64 0] 34) := ⟨_, rfl⟩
  have zE : E.heap.size = w.heap.size + 1 := by rw [hE]; simp
  have B0 : Below w.heap.size w E := by rw [hE]; exact (Below.refl _ _).alloc (Nat.le_refl _) _
  have h' : Has E .i64 a p.length p := h.below B0 (Nat.le_refl _)
  have RE : Blk E w.heap.size #[.int .i64 0, .int .i64 0] 34 := by rw [hE]; exact Blk.new _ _ _
  have CF := climbFault_any k v t a c p E h' hl
  have k0 : E.cell? ⟨w.heap.size, 0, none⟩ = some (.int .i64 0) := (RE.cell 0).trans rfl
  have k1 : E.cell? ⟨w.heap.size, 1, none⟩ = some (.int .i64 0) := (RE.cell 1).trans rfl
  have f0 := RE.frozen 0
  have f1 := RE.frozen 1
  by_cases hc : clF k t v p = 0
  · obtain ⟨hk, hv, hn, h6, hall⟩ := clF_zero hc
    have HQ : Hid (clF k t v p = 0 ∧ clW k t v p = mpC k (sumL (lfB k t v)) p 6) := ⟨hc, by unfold clW; rw [if_pos hc]⟩
    have RB := riseBy_any k v t a p.length c E (hT.below B0 (Nat.le_refl _)) hk (fun _ => hv)
    have LW : Hid (∀ n ∈ lfB k t v, (Lit.int .u8 n).wf = true) := lfB_wf t hk hv
    have RT : Hid (∀ (u : World) (a1 : Option Addr) (c1 : Nat), Below w.heap.size w u → Has u .u8 a1 (lfB k t v).length (lfB k t v) → Calls Tryd.prog 56 #[.agg #[.int .i64 k, .slice a1 (lfB k t v).length c1, .slice a p.length c]] u fun r w' => r = .returned (.int .i64 (mpC k (sumL (lfB k t v)) p 6)) ∧ Below u.heap.size u w') := fun u a1 c1 hu h1 => root_of k a1 c1 (lfB k t v) a c p u (hT.below hu (Nat.le_refl _)) hk h1 (lfB_len k v t) (h.below hu (Nat.le_refl _)) h6 hall
    rw [hc] at CF
    clear hc hk hv hn h6 hall h h' hT k0 k1 f0 f1
    go_enter Tryd.func14, Tryd.ntmps14
    go_wp2_with fail
    simp only [← hE]
    clear hE
    refine CF.mono ?_
    rintro r u1 ⟨rfl, hu1⟩
    subst hu1
    go_wp2_with fail
    refine RB.mono ?_
    rintro r u2 ⟨a1, c1, rfl, O2, hb2⟩
    have z2 := hb2.size
    have R2 := RE.below hb2 (by omega)
    have B2 := B0.trans (hb2.mono (by omega))
    have RT2 := RT.out u2 a1 c1 B2 (has_of_own O2 LW.out)
    clear RE hb2 O2 RB RT LW CF
    go_wp2_with fail
    refine RT2.mono ?_
    rintro r u3 ⟨rfl, hb3⟩
    have R3 := R2.below hb3 (by omega)
    have B3 := B2.trans (hb3.mono (by omega))
    have k0 : u3.cell? ⟨w.heap.size, 0, none⟩ = some (.int .i64 0) := (R3.cell 0).trans rfl
    have k1 : u3.cell? ⟨w.heap.size, 1, none⟩ = some (.int .i64 0) := (R3.cell 1).trans rfl
    have f0 := R3.frozen 0
    have f1 := R3.frozen 1
    clear R2 R3 hb3 RT2
    go_wp2
    refine bodyPost_ret (v := .agg #[.int .i64 0, .int .i64 (mpC k (sumL (lfB k t v)) p 6)]) (by simp [results, Tryd.results14, go_sem, k0, k1]) rfl ⟨by rw [HQ.out.1, HQ.out.2], ?_⟩
    exact (B3.setCell (Nat.le_refl _) _).setCell (Nat.le_refl _) _
  · have hc' : (clF k t v p != 0) = true := by simpa using hc
    rw [clW_zero hc]
    generalize clF k t v p = cc at *
    clear h h' hT RE
    go_enter Tryd.func14, Tryd.ntmps14
    go_wp2_with fail
    simp only [← hE]
    clear hE
    refine CF.mono ?_
    rintro r u1 ⟨rfl, hu1⟩
    subst hu1
    go_wp2
    refine bodyPost_ret (v := .agg #[.int .i64 cc, .int .i64 0]) (by simp [results, Tryd.results14, go_sem, k0, k1]) rfl ⟨rfl, ?_⟩
    exact (B0.setCell (Nat.le_refl _) _).setCell (Nat.le_refl _) _

end Go.Proofs.YtjjddjohckcmbaaDoor

namespace Go.Proofs.YtjjddjohckcmbaaDoor
open Go.ChangeShapes Go.WideShapes Go.ChangeAt Go.RowKit
set_option linter.unusedVariables false
set_option linter.unusedSimpArgs false

theorem eqlR (a b c d : Int) (w : World) : (binOp BinOp.eql 34 (.agg #[.int .i64 a, .int .i64 b]) (.agg #[.int .i64 c, .int .i64 d])).run Tryd.prog w = .ok (.bool (decide (a = c ∧ b = d))) w := by
  by_cases h1 : a = c <;> by_cases h2 : b = d <;> simp [go_sem, h1, h2]

set_option maxHeartbeats 1000000 in
theorem implAcceptSlot_any (k v : Int) (t : Bool) (a : Option Addr) (c : Nat) (p : List Int) (root : Int) (w : World) (hT : Tab w) (h : Has w .i64 a p.length p) (hl : p.length ≤ 1048576) :
    Calls Tryd.prog 17 #[.int .i64 k, .bool t, .int .i64 v, .slice a p.length c, .int .i64 root] w fun r w' => r = .returned (.bool (decide (clF k t v p = 0 ∧ clW k t v p = root))) ∧ Below w.heap.size w w' := by
  have CS := implClimbSlot_any k v t a c p w hT h hl
  have EQ := eqlR
  generalize clF k t v p = cd at *
  generalize clW k t v p = cv at *
  clear h hT
  go_enter Tryd.func17, Tryd.ntmps17
  go_wp2_with fail
  refine CS.mono ?_
  rintro r u1 ⟨rfl, hb1⟩
  go_wp2
  go_ret
  exact ⟨ret_bool (by show (decide (cd = 0) && decide (cv = root)) = _; rw [Bool.eq_iff_iff]; simp), hb1⟩

end Go.Proofs.YtjjddjohckcmbaaDoor
