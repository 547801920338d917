/- Contracts: the model's MapClash. -/
import Derived.Test.YtjkehgnelfgoaaaDoorSClK
namespace Go.Proofs.YtjkehgnelfgoaaaDoor
open Go.ChangeShapes Go.WideShapes Go.ChangeAt Go.RowKit
set_option maxRecDepth 100000
set_option linter.unusedVariables false
set_option linter.unusedSimpArgs false

/-- The code of MapClash. -/
def mkC (l : List Sl) (k : Int) (t : Bool) (v : Int) (p : List Int) : Int := if slF l = 0 then (if clF k t v p = 0 then (if clW k t v p = mpN l 6 0 then 0 else 8) else clF k t v p) else slF l
/-- The clash of MapClash. -/
def mkX (l : List Sl) (k : Int) (t : Bool) (v : Int) (p : List Int) : Cl := if mkC l k t v p = 0 then mpK l k t v p 6 else none
theorem mkX_none {l : List Sl} {k v : Int} {t : Bool} {p : List Int} {c : Int} (h : mkC l k t v p = c) (hc : c ≠ 0) : mkX l k t v p = none := by unfold mkX; rw [if_neg (by rw [h]; exact hc)]
theorem mkC_zero {l : List Sl} {k v : Int} {t : Bool} {p : List Int} (h : mkC l k t v p = 0) : slF l = 0 ∧ clF k t v p = 0 ∧ clW k t v p = mpN l 6 0 := by
  unfold mkC at h
  split at h
  · split at h
    · split at h
      · exact ⟨‹_›, ‹_›, ‹_›⟩
      · omega
    · omega
  · omega
theorem mkX_some (l : List Sl) (k v : Int) (t : Bool) (p : List Int) : ∀ x, mkX l k t v p = some x → isCl x := by
  intro x h
  unfold mkX at h
  split at h
  · obtain ⟨h1, h2, _⟩ := mkC_zero ‹_›
    obtain ⟨k1, k2, _, _, k5⟩ := clF_zero h2
    exact mpK_some (slF_zero h1).2.1 k1 k2 k5 6 h
  · cases h

set_option maxHeartbeats 8000000 in
theorem specMapClash_any (a : Option Addr) (c : Nat) (l : List Sl) (k v : Int) (t : Bool) (q : Option Addr) (cq : Nat) (p : List Int) (w : World) (h : HasS w a l) (hl : l.length ≤ 1048576) (hp : Has w .i64 q p.length p) (hlp : p.length ≤ 1048576) (hcq : p.length ≤ cq) (hm : cq ≤ maxLen) :
    Calls Tryd.prog 27 #[.slice a l.length c, .int .i64 k, .bool t, .int .i64 v, .slice q p.length cq] w fun r w' => ∃ a1 c1 a2 c2, r = .returned (.agg #[.int .i64 (mkC l k t v p), .bool (mkX l k t v p).isSome, .slice a1 (clA (mkX l k t v p)).length c1, .slice a2 (clB (mkX l k t v p)).length c2]) ∧ OwnC w' w.heap.size a1 a2 c1 c2 (clA (mkX l k t v p)) (clB (mkX l k t v p)) ∧ Below w.heap.size w w' := by
  obtain ⟨E, hE⟩ : ∃ E, E = w.alloc (.cells #[.int .i64 0, .bool false, .slice none 0 0, .slice none 0 0] 47) := ⟨_, rfl⟩
  have RE : Blk E w.heap.size #[.int .i64 0, .bool false, .slice none 0 0, .slice none 0 0] 47 := by rw [hE]; exact Blk.new _ _ _
  have B0 : Below w.heap.size w E := by rw [hE]; exact (Below.refl _ _).alloc (Nat.le_refl _) _
  have LF := l7Fault_any a c l E (h.below B0 (Nat.le_refl _)) hl
  have CS : Hid (∀ u : World, Below w.heap.size w u → Calls Tryd.prog 12 #[.int .i64 k, .bool t, .int .i64 v, .slice q p.length cq] u fun r w' => r = .returned (.agg #[.int .i64 (clF k t v p), .int .i64 (clW k t v p)]) ∧ Below u.heap.size u w') := fun u hu => specClimbSlot_any k v t q cq p u (hp.below hu (Nat.le_refl _)) hlp
  by_cases hs : slF l = 0
  case neg =>
    have e : mkC l k t v p = slF l := by unfold mkC; rw [if_neg hs]
    rw [e, mkX_none e hs]
    have hs' : (slF l != 0) = true := by simpa using hs
    generalize slF l = sc at *
    clear CS h hp e hs
    go_enter Tryd.func27, Tryd.ntmps27
    go_wp2_with fail
    simp only [← hE]
    clear hE
    refine LF.mono ?_
    rintro r u1 ⟨rfl, hb1⟩
    have B1 := B0.trans (hb1.mono B0.size)
    replace RE := RE.below hb1 RE.lt
    have r0 : u1.cell? ⟨w.heap.size, 0, none⟩ = some (.int .i64 0) := (RE.cell 0).trans rfl
    have r1 : u1.cell? ⟨w.heap.size, 1, none⟩ = some (.bool false) := (RE.cell 1).trans rfl
    have r2 : u1.cell? ⟨w.heap.size, 2, none⟩ = some (.slice none 0 0) := (RE.cell 2).trans rfl
    have r3 : u1.cell? ⟨w.heap.size, 3, none⟩ = some (.slice none 0 0) := (RE.cell 3).trans rfl
    have g0 := RE.frozen 0
    have g1 := RE.frozen 1
    have g2 := RE.frozen 2
    have g3 := RE.frozen 3
    have rl := RE.lt
    clear LF hb1 RE
    go_wp2
    refine bodyPost_ret (v := .agg #[.int .i64 (sc), .bool false, .slice none 0 0, .slice none 0 0]) (by simp [results, Tryd.results27, go_sem, r0, r1, r2, r3]) rfl ⟨none, 0, none, 0, rfl, OwnC.nil _ _, ?_⟩
    exact ((((B1).setCell (Nat.le_refl _) _).setCell (Nat.le_refl _) _).setCell (Nat.le_refl _) _).setCell (Nat.le_refl _) _
  obtain ⟨_, ok, _⟩ := slF_zero hs
  rw [hs] at LF
  by_cases hcl : clF k t v p = 0
  case neg =>
    have e : mkC l k t v p = clF k t v p := by unfold mkC; rw [if_pos hs, if_neg hcl]
    rw [e, mkX_none e hcl]
    have hs' : (clF k t v p != 0) = true := by simpa using hcl
    generalize clF k t v p = sc at *
    generalize clW k t v p = sv at *
    clear h hp e hs hcl ok
    go_enter Tryd.func27, Tryd.ntmps27
    go_wp2_with fail
    simp only [← hE]
    clear hE
    refine LF.mono ?_
    rintro r u1 ⟨rfl, hb1⟩
    have B1 := B0.trans (hb1.mono B0.size)
    replace RE := RE.below hb1 RE.lt
    clear LF hb1
    go_wp2_with fail
    refine (CS.out _ B1).mono ?_
    rintro r u2 ⟨rfl, hb2⟩
    have B2 := B1.trans (hb2.mono B1.size)
    replace RE := RE.below hb2 RE.lt
    obtain ⟨Y, hY⟩ : ∃ Y, Y = u2.alloc (.cells #[.int .i64 sc, .int .i64 sv] 34) := ⟨_, rfl⟩
    obtain ⟨V, hV⟩ : ∃ V, V = u2.heap.size := ⟨_, rfl⟩
    have SV : Blk Y V #[.int .i64 sc, .int .i64 sv] 34 := by rw [hY, hV]; exact Blk.new _ _ _
    have bY : Below u2.heap.size u2 Y := by rw [hY]; exact (Below.refl _ _).alloc (Nat.le_refl _) _
    have BY := B2.trans (bY.mono B2.size)
    replace RE := RE.below bY RE.lt
    have s0 := SV.cell 0
    have sl := SV.lt
    simp at s0
    clear CS hb2 bY B1 B2 SV
    go_upto_region 5 with fail
    simp only [← hV, ← hY]
    clear hV hY
    have r0 : Y.cell? ⟨w.heap.size, 0, none⟩ = some (.int .i64 0) := (RE.cell 0).trans rfl
    have r1 : Y.cell? ⟨w.heap.size, 1, none⟩ = some (.bool false) := (RE.cell 1).trans rfl
    have r2 : Y.cell? ⟨w.heap.size, 2, none⟩ = some (.slice none 0 0) := (RE.cell 2).trans rfl
    have r3 : Y.cell? ⟨w.heap.size, 3, none⟩ = some (.slice none 0 0) := (RE.cell 3).trans rfl
    have g0 := RE.frozen 0
    have g1 := RE.frozen 1
    have g2 := RE.frozen 2
    have g3 := RE.frozen 3
    have rl := RE.lt
    clear RE
    go_wp2
    refine bodyPost_ret (v := .agg #[.int .i64 (sc), .bool false, .slice none 0 0, .slice none 0 0]) (by simp [results, Tryd.results27, go_sem, r0, r1, r2, r3]) rfl ⟨none, 0, none, 0, rfl, OwnC.nil _ _, ?_⟩
    exact ((((BY).setCell (Nat.le_refl _) _).setCell (Nat.le_refl _) _).setCell (Nat.le_refl _) _).setCell (Nat.le_refl _) _
  obtain ⟨k1, k2, k3, k4, k5⟩ := clF_zero hcl
  have ND : Hid (∀ u : World, Below w.heap.size w u → Calls Tryd.prog 49 #[.slice a l.length c, .int .i64 0, .int .i64 64] u fun r w' => r = .returned (.int .i64 (mpN l 6 0)) ∧ Below u.heap.size u w') := fun u hu => l7Node_any a c l hl ok 6 0 64 u (h.below hu (Nat.le_refl _)) (by decide) (by decide) (by decide) (by decide)
  have LB : Hid (∀ u : World, Below w.heap.size w u → Calls Tryd.prog 55 #[.int .i64 k, .bool t, .int .i64 v] u fun r w' => ∃ b cb, r = .returned (.slice b (lfB k t v).length cb) ∧ Has w' .u8 b (lfB k t v).length (lfB k t v) ∧ Below u.heap.size u w') := fun u _ => (l7Bytes_any k v t u k1 k2).mono fun r w' ⟨b, cb, e, O, hb⟩ => ⟨b, cb, e, has_of_own O (lfB_wf t k1 k2), hb⟩
  have CK : Hid (∀ (b : Option Addr) (cb : Nat) (u : World), Below w.heap.size w u → Has u .u8 b (lfB k t v).length (lfB k t v) → Calls Tryd.prog 66 #[.slice a l.length c, .int .i64 k, .slice b (lfB k t v).length cb, .slice q 6 cq] u fun r w' => ∃ a1 c1 a2 c2, r = .returned (.agg #[.bool (mpK l k t v p 6).isSome, .slice a1 (clA (mpK l k t v p 6)).length c1, .slice a2 (clB (mpK l k t v p 6)).length c2]) ∧ OwnC w' u.heap.size a1 a2 c1 c2 (clA (mpK l k t v p 6)) (clB (mpK l k t v p 6)) ∧ Below u.heap.size u w') := fun b cb u hu hb => l7Clash_any a c l k v t b cb q cq p u (h.below hu (Nat.le_refl _)) hl ok k1 k2 hb (hp.below hu (Nat.le_refl _)) k4 k5 ⟨by omega, hm⟩
  rw [hcl] at CS
  have EC : mkC l k t v p = if clW k t v p = mpN l 6 0 then 0 else 8 := by unfold mkC; rw [if_pos hs, if_pos hcl]
  have EX : mkC l k t v p = 0 → mkX l k t v p = mpK l k t v p 6 := fun e => by unfold mkX; rw [if_pos e]
  have EN : ∀ cc, mkC l k t v p = cc → cc ≠ 0 → mkX l k t v p = none := fun cc e hc => mkX_none e hc
  generalize mkC l k t v p = MC at *
  generalize mkX l k t v p = MX at *
  rw [k4] at CS ⊢
  by_cases hr : clW k t v p = mpN l 6 0
  case neg =>
    rw [if_neg hr] at EC
    have e1 := EN 8 EC (by decide)
    subst EC
    rw [e1]
    have hr' : (clW k t v p != mpN l 6 0) = true := by simpa using hr
    generalize clW k t v p = sv at *
    generalize mpN l 6 0 = rv at *
    clear EN EX LB CK h hp hs hcl ok hr k1 k2 k3 k4 k5 e1
    go_enter Tryd.func27, Tryd.ntmps27
    go_wp2_with fail
    simp only [← hE]
    clear hE
    refine LF.mono ?_
    rintro r u1 ⟨rfl, hb1⟩
    have B1 := B0.trans (hb1.mono B0.size)
    replace RE := RE.below hb1 RE.lt
    clear LF hb1
    go_wp2_with fail
    refine (CS.out _ B1).mono ?_
    rintro r u2 ⟨rfl, hb2⟩
    have B2 := B1.trans (hb2.mono B1.size)
    replace RE := RE.below hb2 RE.lt
    obtain ⟨Y, hY⟩ : ∃ Y, Y = u2.alloc (.cells #[.int .i64 0, .int .i64 sv] 34) := ⟨_, rfl⟩
    obtain ⟨V, hV⟩ : ∃ V, V = u2.heap.size := ⟨_, rfl⟩
    have SV : Blk Y V #[.int .i64 0, .int .i64 sv] 34 := by rw [hY, hV]; exact Blk.new _ _ _
    have bY : Below u2.heap.size u2 Y := by rw [hY]; exact (Below.refl _ _).alloc (Nat.le_refl _) _
    have BY := B2.trans (bY.mono B2.size)
    replace RE := RE.below bY RE.lt
    clear CS hb2 bY B1 B2
    go_upto_region 7 with fail
    simp only [← hV, ← hY]
    clear hV hY
    have hne : Nonempty (KeptW Y) := ⟨⟨Y, Below.refl _ _⟩⟩
    have KB : Hid (∀ d : KeptW Y, Below w.heap.size w d.wd) := fun d => BY.trans (d.hb.mono BY.size)
    have K1 := KeptW.cell (v := .int .i64 sv) ((SV.cell 1).trans rfl) SV.lt
    have REH : Hid (Blk Y w.heap.size #[.int .i64 0, .bool false, .slice none 0 0, .slice none 0 0] 47) := RE
    clear SV BY RE
    refine wp_region_kept (by kernel_rfl) (by kernel_rfl) ?_
    iterate 5 (go_big_quiet_step ((go_at_call 49; exact KeptW.calls (ND.out _ (KB.out _)))))
    refine wpQuiet_nil ?_
    rintro _ ⟨d, rfl⟩
    have RE := REH.out.below d.hb REH.out.lt
    have BD := KB.out d
    obtain ⟨X, hX⟩ : ∃ X, X = d.wd := ⟨_, rfl⟩
    rw [← hX] at RE BD ⊢
    clear hX
    have r0 : X.cell? ⟨w.heap.size, 0, none⟩ = some (.int .i64 0) := (RE.cell 0).trans rfl
    have r1 : X.cell? ⟨w.heap.size, 1, none⟩ = some (.bool false) := (RE.cell 1).trans rfl
    have r2 : X.cell? ⟨w.heap.size, 2, none⟩ = some (.slice none 0 0) := (RE.cell 2).trans rfl
    have r3 : X.cell? ⟨w.heap.size, 3, none⟩ = some (.slice none 0 0) := (RE.cell 3).trans rfl
    have g0 := RE.frozen 0
    have g1 := RE.frozen 1
    have g2 := RE.frozen 2
    have g3 := RE.frozen 3
    have rl := RE.lt
    clear RE REH
    go_wp2
    refine bodyPost_ret (v := .agg #[.int .i64 (8), .bool false, .slice none 0 0, .slice none 0 0]) (by simp [results, Tryd.results27, go_sem, r0, r1, r2, r3]) rfl ⟨none, 0, none, 0, rfl, OwnC.nil _ _, ?_⟩
    exact ((((BD).setCell (Nat.le_refl _) _).setCell (Nat.le_refl _) _).setCell (Nat.le_refl _) _).setCell (Nat.le_refl _) _
  rw [if_pos hr] at EC
  have e1 := EX EC
  subst EC
  rw [e1]
  have hr' : (clW k t v p != mpN l 6 0) = false := by simpa using hr
  generalize clW k t v p = sv at *
  generalize mpN l 6 0 = rv at *
  generalize mpK l k t v p 6 = X at *
  generalize lfB k t v = bs at *
  clear EN EX h hp hs hcl ok hr k1 k2 k3 k4 k5 e1
  go_enter Tryd.func27, Tryd.ntmps27
  go_wp2_with fail
  simp only [← hE]
  clear hE
  refine LF.mono ?_
  rintro r u1 ⟨rfl, hb1⟩
  have B1 := B0.trans (hb1.mono B0.size)
  replace RE := RE.below hb1 RE.lt
  clear LF hb1
  go_wp2_with fail
  refine (CS.out _ B1).mono ?_
  rintro r u2 ⟨rfl, hb2⟩
  have B2 := B1.trans (hb2.mono B1.size)
  replace RE := RE.below hb2 RE.lt
  obtain ⟨Y, hY⟩ : ∃ Y, Y = u2.alloc (.cells #[.int .i64 0, .int .i64 sv] 34) := ⟨_, rfl⟩
  obtain ⟨V, hV⟩ : ∃ V, V = u2.heap.size := ⟨_, rfl⟩
  have SV : Blk Y V #[.int .i64 0, .int .i64 sv] 34 := by rw [hY, hV]; exact Blk.new _ _ _
  have bY : Below u2.heap.size u2 Y := by rw [hY]; exact (Below.refl _ _).alloc (Nat.le_refl _) _
  have BY := B2.trans (bY.mono B2.size)
  replace RE := RE.below bY RE.lt
  clear CS hb2 bY B1 B2
  go_upto_region 7 with fail
  simp only [← hV, ← hY]
  clear hV hY
  have hne : Nonempty (KeptW Y) := ⟨⟨Y, Below.refl _ _⟩⟩
  have KB : Hid (∀ d : KeptW Y, Below w.heap.size w d.wd) := fun d => BY.trans (d.hb.mono BY.size)
  have K1 := KeptW.cell (v := .int .i64 sv) ((SV.cell 1).trans rfl) SV.lt
  have REH : Hid (Blk Y w.heap.size #[.int .i64 0, .bool false, .slice none 0 0, .slice none 0 0] 47) := RE
  clear SV BY RE
  refine wp_region_kept (by kernel_rfl) (by kernel_rfl) ?_
  iterate 5 (go_big_quiet_step ((go_at_call 49; exact KeptW.calls (ND.out _ (KB.out _)))))
  refine wpQuiet_nil ?_
  rintro _ ⟨d, rfl⟩
  have RE := REH.out.below d.hb REH.out.lt
  have BD := KB.out d
  obtain ⟨T, hT⟩ : ∃ X, X = d.wd := ⟨_, rfl⟩
  rw [← hT] at RE BD ⊢
  clear hT REH K1 KB ND hne
  go_wp2_with fail
  refine (LB.out _ BD).mono ?_
  rintro r u3 ⟨b, cb, rfl, HB, hb3⟩
  have B3 := BD.trans (hb3.mono BD.size)
  replace RE := RE.below hb3 RE.lt
  clear hb3
  go_wp2_with fail
  refine (CK.out _ _ _ B3 HB).mono ?_
  rintro r u4 ⟨a1, c1, a2, c2, rfl, O4, hb4⟩
  have B4 := B3.trans (hb4.mono B3.size)
  have zz := RE.lt
  replace RE := RE.below hb4 RE.lt
  have OH : Hid (OwnC u4 (w.heap.size + 1) a1 a2 c1 c2 (clA X) (clB X)) := O4.mono (by omega)
  have BH : Hid (Below w.heap.size w u4) := B4
  clear zz
  have r0 : u4.cell? ⟨w.heap.size, 0, none⟩ = some (.int .i64 0) := (RE.cell 0).trans rfl
  have r1 : u4.cell? ⟨w.heap.size, 1, none⟩ = some (.bool false) := (RE.cell 1).trans rfl
  have r2 : u4.cell? ⟨w.heap.size, 2, none⟩ = some (.slice none 0 0) := (RE.cell 2).trans rfl
  have r3 : u4.cell? ⟨w.heap.size, 3, none⟩ = some (.slice none 0 0) := (RE.cell 3).trans rfl
  have g0 := RE.frozen 0
  have g1 := RE.frozen 1
  have g2 := RE.frozen 2
  have g3 := RE.frozen 3
  have rl := RE.lt
  clear RE O4 B4 B3 hb4 HB LB CK BD
  go_wp2
  refine bodyPost_ret (v := .agg #[.int .i64 0, .bool X.isSome, .slice a1 (clA X).length c1, .slice a2 (clB X).length c2]) (by simp [results, Tryd.results27, go_sem, r0, r1, r2, r3]) rfl ⟨a1, c1, a2, c2, rfl, ?_, ?_⟩
  · exact ((((OH.out.set _ _ (Nat.lt_succ_self _)).set _ _ (Nat.lt_succ_self _)).set _ _ (Nat.lt_succ_self _)).set _ _ (Nat.lt_succ_self _)).mono (Nat.le_succ _)
  · exact (((BH.out.setCell (Nat.le_refl _) _).setCell (Nat.le_refl _) _).setCell (Nat.le_refl _) _).setCell (Nat.le_refl _) _

end Go.Proofs.YtjkehgnelfgoaaaDoor
