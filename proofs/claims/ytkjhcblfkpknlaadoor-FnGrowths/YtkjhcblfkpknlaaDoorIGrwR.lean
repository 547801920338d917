/- Contracts: the program's two roots in one complex number; its GrowRoots and AcceptGrowth. -/
import Derived.Test.YtkjhcblfkpknlaaDoorIGrw
import Derived.Test.YtkjhcblfkpknlaaDoorISums
import Derived.Test.YtkjhcblfkpknlaaDoorLvl
import Derived.Test.YtkjhcblfkpknlaaDoorFltD
import Derived.Test.YtkjhcblfkpknlaaDoorGrowC
import Derived.Test.YtkjhcblfkpknlaaDoorKeep
namespace Go.Proofs.YtkjhcblfkpknlaaDoor
open Go.ChangeShapes Go.WideShapes Go.ChangeAt Go.RowKit
set_option linter.unusedVariables false
set_option linter.unusedSimpArgs false

theorem rootsOf_any (a b : Int) (w : World) :
    Calls Tryd.prog 108 #[.int .i64 a, .int .i64 b] w fun r w' => r = .returned (.complex .f64 (floatOfInt .f64 (a)) (floatOfInt .f64 (b))) ∧ w' = w := by
  have hcv : ∀ (n : Int) (w : World), (convert 2 113 (.int .i64 n)).run Tryd.prog w = .ok (.float .f64 (floatOfInt .f64 n)) w := fun n w => run_convert_int_float w _ _ .i64 .f64 n (by rw [Tryd.underlying2]; rfl) Tryd.underlying113
  go_enter Tryd.func108, Tryd.ntmps108
  go_wp2
  go_ret
  exact ⟨rfl, rfl⟩

theorem old_any (a b : Int) (w : World) (h0 : 0 ≤ a) (h1 : a ≤ 65520) :
    Calls Tryd.prog 84 #[(.complex .f64 (floatOfInt .f64 (a)) (floatOfInt .f64 (b)))] w fun r w' => r = .returned (.int .i64 a) ∧ w' = w := by
  have hcv : ∀ w : World, (convert 113 2 (.float .f64 (floatOfInt .f64 a))).run Tryd.prog w = .ok (.int .i64 a) w := fun w => run_convert_float_int w _ _ .f64 .i64 _ _ (by rw [Tryd.underlying113]; rfl) Tryd.underlying2 (f64_sum h0 h1)
  generalize floatOfInt .f64 a = xa at *
  generalize floatOfInt .f64 b = xb at *
  go_enter Tryd.func84, Tryd.ntmps84
  go_wp2
  go_ret
  exact ⟨rfl, rfl⟩

theorem grown_any (a b : Int) (w : World) (h0 : 0 ≤ b) (h1 : b ≤ 65520) :
    Calls Tryd.prog 85 #[(.complex .f64 (floatOfInt .f64 (a)) (floatOfInt .f64 (b)))] w fun r w' => r = .returned (.int .i64 b) ∧ w' = w := by
  have hcv : ∀ w : World, (convert 113 2 (.float .f64 (floatOfInt .f64 b))).run Tryd.prog w = .ok (.int .i64 b) w := fun w => run_convert_float_int w _ _ .f64 .i64 _ _ (by rw [Tryd.underlying113]; rfl) Tryd.underlying2 (f64_sum h0 h1)
  generalize floatOfInt .f64 a = xa at *
  generalize floatOfInt .f64 b = xb at *
  go_enter Tryd.func85, Tryd.ntmps85
  go_wp2
  go_ret
  exact ⟨rfl, rfl⟩

theorem node_any (a b : Int) (w : World) (hT : Tab w) (ha : 0 ≤ a ∧ a ≤ 65520) (hb : 0 ≤ b ∧ b ≤ 65520) :
    Calls Tryd.prog 33 #[.int .i64 a, .int .i64 b] w fun r w' => r = .returned (.agg #[.int .i64 0, .int .i64 (nS a b)]) ∧ Below w.heap.size w w' := by
  have := implNodeSum_any a b w hT
  rw [nodeV_nS ⟨ha, hb⟩, show nodeC a b = 0 by unfold nodeC; rw [if_pos ⟨ha, hb⟩]] at this
  exact this

set_option maxHeartbeats 2000000 in
theorem gJoin_lo (s t : Int) (wh : Bool) (a b c : Int) (w : World) (hT : Tab w) (h2 : 2 ≤ t) (h24 : t ≤ 24) (hs : s ≤ splN t) (ha : 0 ≤ a ∧ a ≤ 65520) (hb : 0 ≤ b ∧ b ≤ 65520) (hc : 0 ≤ c ∧ c ≤ 65520) :
    Calls Tryd.prog 107 #[.agg #[.int .i64 (s), .int .i64 (t), .bool wh], (.complex .f64 (floatOfInt .f64 (a)) (floatOfInt .f64 (b))), .int .i64 c] w fun r w' => r = .returned (.complex .f64 (floatOfInt .f64 (a)) (floatOfInt .f64 (nS b c))) ∧ Below w.heap.size w w' := by
  have hd : decide (s ≤ splN t) = true := by simpa using hs
  have OL : Hid (∀ u : World, Calls Tryd.prog 84 #[(.complex .f64 (floatOfInt .f64 (a)) (floatOfInt .f64 (b)))] u fun r w' => r = .returned (.int .i64 a) ∧ w' = u) := fun u => old_any a b u ha.1 ha.2
  have GR : Hid (∀ u : World, Calls Tryd.prog 85 #[(.complex .f64 (floatOfInt .f64 (a)) (floatOfInt .f64 (b)))] u fun r w' => r = .returned (.int .i64 b) ∧ w' = u) := fun u => grown_any a b u hb.1 hb.2
  have ND : Hid (∀ u : World, Below w.heap.size w u → Calls Tryd.prog 33 #[.int .i64 b, .int .i64 c] u fun r w' => r = .returned (.agg #[.int .i64 0, .int .i64 (nS b c)]) ∧ Below u.heap.size u w') := fun u hu => node_any b c u (hT.below hu (Nat.le_refl _)) hb hc
  have RO : Hid (∀ u : World, Calls Tryd.prog 108 #[.int .i64 a, .int .i64 (nS b c)] u fun r w' => r = .returned (.complex .f64 (floatOfInt .f64 (a)) (floatOfInt .f64 (nS b c))) ∧ w' = u) := fun u => rootsOf_any a (nS b c) u
  have F1 := fldG1
  generalize nS b c = v at *
  generalize floatOfInt .f64 a = xa at *
  generalize floatOfInt .f64 b = xb at *
  generalize floatOfInt .f64 v = xv at *
  clear hs
  go_enter Tryd.func107, Tryd.ntmps107
  go_wp2_with fail
  refine (inFirst_any s t wh _ h2 h24).mono ?_
  rintro r u1 ⟨rfl, hb1⟩
  have B1 : Below w.heap.size w u1 := ((Below.refl _ _).alloc (Nat.le_refl _) _).trans (hb1.mono (by simp))
  rw [hd]
  clear hb1
  go_wp2_with fail
  refine (OL.out _).mono ?_
  rintro r u ⟨rfl, rfl⟩
  go_wp2_with fail
  refine (GR.out _).mono ?_
  rintro r u ⟨rfl, rfl⟩
  go_wp2_with fail
  refine (ND.out _ B1).mono ?_
  rintro r u2 ⟨rfl, hb2⟩
  have B2 : Below w.heap.size w u2 := B1.trans (hb2.mono B1.size)
  clear hb2
  go_wp2_with fail
  refine (RO.out _).mono ?_
  rintro r u ⟨rfl, rfl⟩
  go_wp2
  go_ret
  exact ⟨rfl, B2⟩

set_option maxHeartbeats 2000000 in
theorem gJoin_hi (s t : Int) (wh : Bool) (a b c : Int) (w : World) (hT : Tab w) (h2 : 2 ≤ t) (h24 : t ≤ 24) (hs : ¬ s ≤ splN t) (ha : 0 ≤ a ∧ a ≤ 65520) (hb : 0 ≤ b ∧ b ≤ 65520) (hc : 0 ≤ c ∧ c ≤ 65520) :
    Calls Tryd.prog 107 #[.agg #[.int .i64 (s), .int .i64 (t), .bool wh], (.complex .f64 (floatOfInt .f64 (a)) (floatOfInt .f64 (b))), .int .i64 c] w fun r w' => r = .returned (.complex .f64 (floatOfInt .f64 (nS c a)) (floatOfInt .f64 (nS c b))) ∧ Below w.heap.size w w' := by
  have hd : decide (s ≤ splN t) = false := by simpa using hs
  have OL : Hid (∀ u : World, Calls Tryd.prog 84 #[(.complex .f64 (floatOfInt .f64 (a)) (floatOfInt .f64 (b)))] u fun r w' => r = .returned (.int .i64 a) ∧ w' = u) := fun u => old_any a b u ha.1 ha.2
  have GR : Hid (∀ u : World, Calls Tryd.prog 85 #[(.complex .f64 (floatOfInt .f64 (a)) (floatOfInt .f64 (b)))] u fun r w' => r = .returned (.int .i64 b) ∧ w' = u) := fun u => grown_any a b u hb.1 hb.2
  have ND1 : Hid (∀ u : World, Below w.heap.size w u → Calls Tryd.prog 33 #[.int .i64 c, .int .i64 a] u fun r w' => r = .returned (.agg #[.int .i64 0, .int .i64 (nS c a)]) ∧ Below u.heap.size u w') := fun u hu => node_any c a u (hT.below hu (Nat.le_refl _)) hc ha
  have ND2 : Hid (∀ u : World, Below w.heap.size w u → Calls Tryd.prog 33 #[.int .i64 c, .int .i64 b] u fun r w' => r = .returned (.agg #[.int .i64 0, .int .i64 (nS c b)]) ∧ Below u.heap.size u w') := fun u hu => node_any c b u (hT.below hu (Nat.le_refl _)) hc hb
  have RO : Hid (∀ u : World, Calls Tryd.prog 108 #[.int .i64 (nS c a), .int .i64 (nS c b)] u fun r w' => r = .returned (.complex .f64 (floatOfInt .f64 (nS c a)) (floatOfInt .f64 (nS c b))) ∧ w' = u) := fun u => rootsOf_any (nS c a) (nS c b) u
  have F1 := fldG1
  generalize nS c a = v1 at *
  generalize nS c b = v2 at *
  generalize floatOfInt .f64 a = xa at *
  generalize floatOfInt .f64 b = xb at *
  generalize floatOfInt .f64 v1 = x1 at *
  generalize floatOfInt .f64 v2 = x2 at *
  clear hs
  go_enter Tryd.func107, Tryd.ntmps107
  go_wp2_with fail
  refine (inFirst_any s t wh _ h2 h24).mono ?_
  rintro r u1 ⟨rfl, hb1⟩
  have B1 : Below w.heap.size w u1 := ((Below.refl _ _).alloc (Nat.le_refl _) _).trans (hb1.mono (by simp))
  rw [hd]
  clear hb1
  go_wp2_with fail
  refine (OL.out _).mono ?_
  rintro r u ⟨rfl, rfl⟩
  go_wp2_with fail
  refine (ND1.out _ B1).mono ?_
  rintro r u2 ⟨rfl, hb2⟩
  have B2 : Below w.heap.size w u2 := B1.trans (hb2.mono B1.size)
  clear hb2
  go_wp2_with fail
  refine (GR.out _).mono ?_
  rintro r u ⟨rfl, rfl⟩
  go_wp2_with fail
  refine (ND2.out _ B2).mono ?_
  rintro r u3 ⟨rfl, hb3⟩
  have B3 : Below w.heap.size w u3 := B2.trans (hb3.mono B2.size)
  clear hb3
  go_wp2_with fail
  refine (RO.out _).mono ?_
  rintro r u ⟨rfl, rfl⟩
  go_wp2
  go_ret
  exact ⟨rfl, B3⟩

set_option maxHeartbeats 4000000 in
theorem rootsBy_any (n : Nat) : ∀ (s t : Int) (wh : Bool) (r : Int) (x : Option Addr) (c : Nat) (p : List Int) (w : World), t.toNat ≤ n → 1 ≤ s → s ≤ t → t ≤ 24 → (wh = true → 0 ≤ r ∧ r ≤ 65520) → p.length = gsN s t wh → allS p = true → Tab w → Has w .i64 x p.length p → p.length ≤ c → c ≤ maxLen →
    Calls Tryd.prog 83 #[.agg #[.int .i64 (s), .int .i64 (t), .bool wh], .int .i64 r, .slice x p.length c] w fun e w' => e = .returned (.complex .f64 (floatOfInt .f64 ((grR nS s t wh r p).1)) (floatOfInt .f64 ((grR nS s t wh r p).2))) ∧ Below w.heap.size w w' := by
  induction n with
  | zero => intro s t wh r x c p w h _ _; omega
  | succ n ih =>
    intro s t wh r x c p w hn h0 h1 h24 hr hlen hall hT hp hc hm
    unfold maxLen at hm
    by_cases hs : s = t
    · have e := grR_eq nS wh r p hs
      rw [gsN_eq wh hs] at hlen
      have b : (s == t) = true := by simpa using hs
      rw [e]
      clear e hs
      cases wh
      · simp only [Bool.false_eq_true, if_false] at hlen ⊢
        obtain ⟨b1, o1, hx, hlt, hcell⟩ : ∃ b off, x = some ⟨b, off, none⟩ ∧ b < w.heap.size ∧ ∀ i, i < p.length → w.cell? ⟨b, off + i, none⟩ = some (.int .i64 (p.getD i 0)) := by
          rcases hp.2.2 with c | h
          · omega
          · exact h
        subst hx
        have c0 := hcell 0 (by omega)
        rw [Nat.add_zero] at c0
        generalize p.getD 0 0 = v at *
        rw [hlen]
        have RO : Hid (∀ u : World, Calls Tryd.prog 108 #[.int .i64 v, .int .i64 v] u fun r w' => r = .returned (.complex .f64 (floatOfInt .f64 (v)) (floatOfInt .f64 (v))) ∧ w' = u) := fun u => rootsOf_any v v u
        generalize floatOfInt .f64 v = xv at *
        clear hcell ih
        go_enter Tryd.func83, Tryd.ntmps83
        go_wp2_with fail
        refine (ofAll_any s t false _).mono ?_
        rintro e u1 ⟨rfl, hb1⟩
        rw [b]
        have E1 := (GrAt.new w s t false 84).below hb1
        have B1 : Below w.heap.size w u1 := ((Below.refl _ _).alloc (Nat.le_refl _) _).trans (hb1.mono (by simp))
        obtain ⟨k0, k1, k2, k3⟩ := E1
        have c1 : u1.cell? ⟨b1, o1, none⟩ = some (.int .i64 v) := (B1.cell (p := ⟨b1, o1, none⟩) hlt).trans c0
        have hlt1 : b1 < u1.heap.size := Nat.lt_of_lt_of_le hlt B1.size
        clear hb1 c0
        go_wp2_with fail
        have hne : Nonempty (KeptW u1) := ⟨⟨_, Below.refl _ _⟩⟩
        have K1 := KeptW.cell c1 hlt1
        refine wp_region_kept (by kernel_rfl) (by kernel_rfl) ?_
        repeat (go_big_quiet_step ((go_at_call 108; exact KeptW.calls_same (RO.out _))))
        refine wpQuiet_nil ?_
        rintro _ ⟨d, rfl⟩
        go_wp2
        go_ret
        exact ⟨rfl, B1.trans (d.hb.mono B1.size)⟩
      · have RO : Hid (∀ u : World, Calls Tryd.prog 108 #[.int .i64 r, .int .i64 r] u fun e w' => e = .returned (.complex .f64 (floatOfInt .f64 (r)) (floatOfInt .f64 (r))) ∧ w' = u) := fun u => rootsOf_any r r u
        simp only [if_true]
        generalize floatOfInt .f64 r = xv at *
        go_enter Tryd.func83, Tryd.ntmps83
        go_wp2_with fail
        refine (ofAll_any s t true _).mono ?_
        rintro e u1 ⟨rfl, hb1⟩
        rw [b]
        have E1 := (GrAt.new w s t true 84).below hb1
        have B1 : Below w.heap.size w u1 := ((Below.refl _ _).alloc (Nat.le_refl _) _).trans (hb1.mono (by simp))
        obtain ⟨k0, k1, k2, k3⟩ := E1
        clear hb1
        go_wp2_with fail
        refine (RO.out _).mono ?_
        rintro e u ⟨rfl, rfl⟩
        go_wp2
        go_ret
        exact ⟨rfl, B1⟩
    · have hs' : 2 ≤ t := by omega
      obtain ⟨q1, q2, q3⟩ := splN_bd hs' (by omega)
      have b : (s == t) = false := by simpa using hs
      have hpos : 0 < p.length := by
        by_cases ha : s ≤ splN t
        · rw [hlen, gsN_lo wh hs' ha]; omega
        · rw [hlen, gsN_hi wh hs' ha (by omega)]; omega
      obtain ⟨m, hm1⟩ : ∃ m, p.length = m + 1 := ⟨p.length - 1, by omega⟩
      have hdl : p.dropLast = p.take m := by rw [List.dropLast_eq_take, hm1]; rfl
      have hgl : p.getLastD 0 = p[m]'(by omega) := by
        rw [List.getLastD_eq_getLast?, List.getLast?_eq_getElem?]
        simp [hm1]
      have hlast := allS_get hall m (by omega)
      have hi := hp.init m (by omega)
      have hil : (p.take m).length = m := by simp; omega
      obtain ⟨b1, o1, hx, hlt, hcell⟩ : ∃ b off, x = some ⟨b, off, none⟩ ∧ b < w.heap.size ∧ ∀ i, i < p.length → w.cell? ⟨b, off + i, none⟩ = some (.int .i64 (p.getD i 0)) := by
        rcases hp.2.2 with c | h
        · omega
        · exact h
      subst hx
      have e1 : w.cell? ⟨b1, o1 + m, none⟩ = some (.int .i64 (p[m]'(by omega))) := by rw [hcell m (by omega)]; simp [List.getD, hm1]
      have FC : ∀ wx : World, Below w.heap.size w wx → wx.cell? ⟨b1, o1 + m, none⟩ = some (.int .i64 (p[m]'(by omega))) := fun wx h => (h.cell (p := ⟨b1, o1 + m, none⟩) hlt).trans e1
      generalize hv : p[m]'(by omega) = v at *
      by_cases ha : s ≤ splN t
      · have EQ : Hid (grR nS s t wh r p = ((grR nS s (splN t) wh r (p.take m)).1, nS (grR nS s (splN t) wh r (p.take m)).2 v)) := by
          show _ = _
          rw [grR_lo nS wh r p hs' ha, hdl, hgl]
        have hl2 : (p.take m).length = gsN s (splN t) wh := by rw [hil]; rw [gsN_lo wh hs' ha] at hlen; omega
        have hbd := grR_bd _ s (splN t) wh r (p.take m) (Nat.le_refl _) h0 ha (by omega) hr hl2 (allS_take hall m)
        have IH : Hid (∀ wx : World, Below w.heap.size w wx → Calls Tryd.prog 83 #[.agg #[.int .i64 (s), .int .i64 (splN t), .bool wh], .int .i64 r, .slice (some ⟨b1, o1, none⟩) m c] wx fun e w' => e = .returned (.complex .f64 (floatOfInt .f64 ((grR nS s (splN t) wh r (p.take m)).1)) (floatOfInt .f64 ((grR nS s (splN t) wh r (p.take m)).2))) ∧ Below wx.heap.size wx w') := by
          intro wx hwx
          have := ih s (splN t) wh r (some ⟨b1, o1, none⟩) c (p.take m) wx (by omega) h0 ha (by omega) hr hl2 (allS_take hall m) (hT.below hwx (Nat.le_refl _)) (hi.below hwx (Nat.le_refl _)) (by omega) (by unfold maxLen; omega)
          rw [hil] at this
          exact this
        have PT : Hid (∀ u : World, Calls Tryd.prog 106 #[.agg #[.int .i64 (s), .int .i64 (t), .bool wh]] u fun r w' => r = .returned (.agg #[.int .i64 (s), .int .i64 (splN t), .bool wh]) ∧ Below u.heap.size u w') := fun u => part_lo s t wh u hs' h24 ha
        rw [EQ.out, hm1]
        generalize grR nS s (splN t) wh r (p.take m) = cv at EQ hbd IH
        obtain ⟨ca, cb⟩ := cv
        simp only at hbd IH ⊢
        have JN : Hid (∀ wx : World, Below w.heap.size w wx → Calls Tryd.prog 107 #[.agg #[.int .i64 (s), .int .i64 (t), .bool wh], (.complex .f64 (floatOfInt .f64 (ca)) (floatOfInt .f64 (cb))), .int .i64 v] wx fun r w' => r = .returned (.complex .f64 (floatOfInt .f64 (ca)) (floatOfInt .f64 (nS cb v))) ∧ Below wx.heap.size wx w') := fun wx h => gJoin_lo s t wh ca cb v wx (hT.below h (Nat.le_refl _)) hs' h24 ha hbd.1 hbd.2 hlast
        have hm2 : (m : Int) ≤ c := by omega
        have hc' : m + 1 ≤ c := by omega
        generalize nS cb v = vv at *
        generalize floatOfInt .f64 ca = xa at *
        generalize floatOfInt .f64 cb = xb at *
        generalize floatOfInt .f64 vv = xv at *
        clear EQ hv hdl hgl hi hil hcell e1 hall hp hlen hc hpos ih hm1 hl2
        go_enter Tryd.func83, Tryd.ntmps83
        go_wp2_with fail
        refine (ofAll_any s t wh _).mono ?_
        rintro e u1 ⟨rfl, hb1⟩
        rw [b]
        have E1 := (GrAt.new w s t wh 84).below hb1
        have B1 : Below w.heap.size w u1 := ((Below.refl _ _).alloc (Nat.le_refl _) _).trans (hb1.mono (by simp))
        have c1 := FC u1 B1
        have hlt1 : b1 < u1.heap.size := Nat.lt_of_lt_of_le hlt B1.size
        have E1' := E1
        obtain ⟨k0, k1, k2, k3⟩ := E1'
        clear hb1 FC
        go_wp2_with fail
        have hne : Nonempty (KeptW u1) := ⟨⟨_, Below.refl _ _⟩⟩
        have K1 := KeptW.cell c1 hlt1
        have K2 := KeptW.cell E1.c0 E1.lt
        have K3 := KeptW.cell E1.c1 E1.lt
        have K4 := KeptW.cell E1.c2 E1.lt
        refine wp_region_kept (by kernel_rfl) (by kernel_rfl) ?_
        iterate 14 (go_big_quiet_step ((first | (go_at_call 106; exact KeptW.calls (PT.out _)) | (go_at_call 83; exact KeptW.calls (IH.out _ (KeptW.ofBelow _ B1 B1.size))) | (go_at_call 107; exact KeptW.calls (JN.out _ (KeptW.ofBelow _ B1 B1.size))))))
        refine wpQuiet_nil ?_
        rintro _ ⟨d, rfl⟩
        go_wp2
        go_ret
        exact ⟨rfl, B1.trans (d.hb.mono B1.size)⟩
      · have EQ : Hid (grR nS s t wh r p = (nS v (grR nS (s - splN t) (t - splN t) false r (p.take m)).1, nS v (grR nS (s - splN t) (t - splN t) false r (p.take m)).2)) := by
          show _ = _
          rw [grR_hi nS wh r p hs' ha (by omega), hdl, hgl]
        have hl2 : (p.take m).length = gsN (s - splN t) (t - splN t) false := by rw [hil]; rw [gsN_hi wh hs' ha (by omega)] at hlen; omega
        have hbd := grR_bd _ (s - splN t) (t - splN t) false r (p.take m) (Nat.le_refl _) (by omega) (by omega) (by omega) (by simp) hl2 (allS_take hall m)
        have IH : Hid (∀ wx : World, Below w.heap.size w wx → Calls Tryd.prog 83 #[.agg #[.int .i64 (s - splN t), .int .i64 (t - splN t), .bool false], .int .i64 r, .slice (some ⟨b1, o1, none⟩) m c] wx fun e w' => e = .returned (.complex .f64 (floatOfInt .f64 ((grR nS (s - splN t) (t - splN t) false r (p.take m)).1)) (floatOfInt .f64 ((grR nS (s - splN t) (t - splN t) false r (p.take m)).2))) ∧ Below wx.heap.size wx w') := by
          intro wx hwx
          have := ih (s - splN t) (t - splN t) false r (some ⟨b1, o1, none⟩) c (p.take m) wx (by omega) (by omega) (by omega) (by omega) (by simp) hl2 (allS_take hall m) (hT.below hwx (Nat.le_refl _)) (hi.below hwx (Nat.le_refl _)) (by omega) (by unfold maxLen; omega)
          rw [hil] at this
          exact this
        have PT : Hid (∀ u : World, Calls Tryd.prog 106 #[.agg #[.int .i64 (s), .int .i64 (t), .bool wh]] u fun r w' => r = .returned (.agg #[.int .i64 (s - splN t), .int .i64 (t - splN t), .bool false]) ∧ Below u.heap.size u w') := fun u => part_hi s t wh u hs' h24 ha h1
        rw [EQ.out, hm1]
        generalize grR nS (s - splN t) (t - splN t) false r (p.take m) = cv at EQ hbd IH
        obtain ⟨ca, cb⟩ := cv
        simp only at hbd IH ⊢
        have JN : Hid (∀ wx : World, Below w.heap.size w wx → Calls Tryd.prog 107 #[.agg #[.int .i64 (s), .int .i64 (t), .bool wh], (.complex .f64 (floatOfInt .f64 (ca)) (floatOfInt .f64 (cb))), .int .i64 v] wx fun r w' => r = .returned (.complex .f64 (floatOfInt .f64 (nS v ca)) (floatOfInt .f64 (nS v cb))) ∧ Below wx.heap.size wx w') := fun wx h => gJoin_hi s t wh ca cb v wx (hT.below h (Nat.le_refl _)) hs' h24 ha hbd.1 hbd.2 hlast
        have hm2 : (m : Int) ≤ c := by omega
        have hc' : m + 1 ≤ c := by omega
        generalize nS v ca = v1 at *
        generalize nS v cb = v2 at *
        generalize floatOfInt .f64 ca = xa at *
        generalize floatOfInt .f64 cb = xb at *
        generalize floatOfInt .f64 v1 = x1 at *
        generalize floatOfInt .f64 v2 = x2 at *
        clear EQ hv hdl hgl hi hil hcell e1 hall hp hlen hc hpos ih hm1 hl2
        go_enter Tryd.func83, Tryd.ntmps83
        go_wp2_with fail
        refine (ofAll_any s t wh _).mono ?_
        rintro e u1 ⟨rfl, hb1⟩
        rw [b]
        have E1 := (GrAt.new w s t wh 84).below hb1
        have B1 : Below w.heap.size w u1 := ((Below.refl _ _).alloc (Nat.le_refl _) _).trans (hb1.mono (by simp))
        have c1 := FC u1 B1
        have hlt1 : b1 < u1.heap.size := Nat.lt_of_lt_of_le hlt B1.size
        have E1' := E1
        obtain ⟨k0, k1, k2, k3⟩ := E1'
        clear hb1 FC
        go_wp2_with fail
        have hne : Nonempty (KeptW u1) := ⟨⟨_, Below.refl _ _⟩⟩
        have K1 := KeptW.cell c1 hlt1
        have K2 := KeptW.cell E1.c0 E1.lt
        have K3 := KeptW.cell E1.c1 E1.lt
        have K4 := KeptW.cell E1.c2 E1.lt
        refine wp_region_kept (by kernel_rfl) (by kernel_rfl) ?_
        iterate 14 (go_big_quiet_step ((first | (go_at_call 106; exact KeptW.calls (PT.out _)) | (go_at_call 83; exact KeptW.calls (IH.out _ (KeptW.ofBelow _ B1 B1.size))) | (go_at_call 107; exact KeptW.calls (JN.out _ (KeptW.ofBelow _ B1 B1.size))))))
        refine wpQuiet_nil ?_
        rintro _ ⟨d, rfl⟩
        go_wp2
        go_ret
        exact ⟨rfl, B1.trans (d.hb.mono B1.size)⟩

end Go.Proofs.YtkjhcblfkpknlaaDoor
