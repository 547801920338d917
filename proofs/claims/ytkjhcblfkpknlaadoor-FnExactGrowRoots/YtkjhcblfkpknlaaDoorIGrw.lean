/- Contracts: the program's growth, its small methods and its steps; StepsOf. -/
import Derived.Test.YtkjhcblfkpknlaaDoorGrowD
import Derived.Test.YtkjhcblfkpknlaaDoorSplit
import Derived.Test.YtkjhcblfkpknlaaDoorKeep
namespace Go.Proofs.YtkjhcblfkpknlaaDoor
open Go.ChangeShapes Go.WideShapes Go.ChangeAt Go.RowKit
set_option linter.unusedVariables false
set_option linter.unusedSimpArgs false

/-- Where a growth lies. -/
structure GrAt (w : World) (b : Nat) (s t : Int) (wh : Bool) : Prop where
  c0 : w.cell? ⟨b, 0, none⟩ = some (.int .i64 s)
  c1 : w.cell? ⟨b, 1, none⟩ = some (.int .i64 t)
  c2 : w.cell? ⟨b, 2, none⟩ = some (.bool wh)
  lt : b < w.heap.size
theorem GrAt.below {w w' : World} {b : Nat} {s t : Int} {wh : Bool} (h : GrAt w b s t wh) (hb : Below w.heap.size w w') : GrAt w' b s t wh :=
  ⟨(hb.cell (p := ⟨b, 0, none⟩) h.lt).trans h.c0, (hb.cell (p := ⟨b, 1, none⟩) h.lt).trans h.c1, (hb.cell (p := ⟨b, 2, none⟩) h.lt).trans h.c2, Nat.lt_of_lt_of_le h.lt hb.size⟩
theorem GrAt.new (w : World) (s t : Int) (wh : Bool) (T : Nat) : GrAt (w.alloc (.cells #[.int .i64 s, .int .i64 t, .bool wh] T)) w.heap.size s t wh := by
  constructor <;> simp [go_sem]

theorem fldG1 (x y : Int) (w : World) : (Instr.field 33 (.agg #[.int .i64 x, .int .i64 y]) 1).run Tryd.prog w = .ok (.int .i64 y) w := by kernel_rfl

theorem whole_any (s t : Int) (w : World) :
    Calls Tryd.prog 80 #[.int .i64 s, .int .i64 t] w fun r w' => r = .returned (.agg #[.int .i64 (s), .int .i64 (t), .bool true]) ∧ Below w.heap.size w w' := by
  go_enter Tryd.func80, Tryd.ntmps80
  go_wp2
  exact bodyPost_ret (v := .agg #[.int .i64 (s), .int .i64 (t), .bool true]) (by simp [results, Tryd.results80, go_sem]) rfl ⟨rfl, by repeat (first | exact Below.refl _ _ | (refine Below.alloc ?_ (by (try simp) <;> omega) _) | (refine Below.setCell ?_ (by (try simp) <;> omega) _))⟩

theorem ofAll_any (s t : Int) (wh : Bool) (w : World) :
    Calls Tryd.prog 104 #[.agg #[.int .i64 (s), .int .i64 (t), .bool wh]] w fun r w' => r = .returned (.bool (s == t)) ∧ Below w.heap.size w w' := by
  go_enter Tryd.func104, Tryd.ntmps104
  go_wp2
  go_ret
  exact ⟨rfl, (Below.refl _ _).alloc (Nat.le_refl _) _⟩

theorem gSplit_any (s t : Int) (wh : Bool) (w : World) (h2 : 2 ≤ t) (h24 : t ≤ 24) :
    Calls Tryd.prog 112 #[.agg #[.int .i64 (s), .int .i64 (t), .bool wh]] w fun r w' => r = .returned (.int .i64 (splN t)) ∧ Below w.heap.size w w' := by
  have S : Hid (∀ x : World, Calls Tryd.prog 29 #[.int .i64 t] x fun r w' => r = .returned (.agg #[.int .i64 0, .int .i64 (splN t)]) ∧ Below x.heap.size x w') := by
    intro x
    have := implSplit_any t x
    rw [if_pos ⟨h2, h24⟩, if_pos ⟨h2, h24⟩] at this
    exact this
  have F1 := fldG1
  clear h2 h24
  go_enter Tryd.func112, Tryd.ntmps112
  go_wp2_with fail
  refine (S.out _).mono ?_
  rintro r u ⟨rfl, hb1⟩
  go_wp2
  go_ret
  exact ⟨rfl, ((Below.refl _ _).alloc (Nat.le_refl _) _).trans (hb1.mono (by simp))⟩

theorem inFirst_any (s t : Int) (wh : Bool) (w : World) (h2 : 2 ≤ t) (h24 : t ≤ 24) :
    Calls Tryd.prog 113 #[.agg #[.int .i64 (s), .int .i64 (t), .bool wh]] w fun r w' => r = .returned (.bool (decide (s ≤ splN t))) ∧ Below w.heap.size w w' := by
  have E0 := GrAt.new w s t wh 84
  have k0 := KeptW.cell E0.c0 E0.lt
  have k1 := KeptW.cell E0.c1 E0.lt
  have k2 := KeptW.cell E0.c2 E0.lt
  have hne : Nonempty (KeptW (w.alloc (.cells #[.int .i64 (s), .int .i64 (t), .bool wh] 84))) := ⟨⟨_, Below.refl _ _⟩⟩
  have HX : Hid (∀ d : KeptW (w.alloc (.cells #[.int .i64 (s), .int .i64 (t), .bool wh] 84)), Calls Tryd.prog 112 #[.agg #[.int .i64 (s), .int .i64 (t), .bool wh]] d.wd fun r w' => r = .returned (.int .i64 (splN t)) ∧ Below d.wd.heap.size d.wd w') := fun d => gSplit_any s t wh d.wd h2 h24
  clear E0 h2 h24
  go_enter Tryd.func113, Tryd.ntmps113
  go_wp2_with fail
  refine wp_region_kept (by kernel_rfl) (by kernel_rfl) ?_
  repeat (go_big_quiet_step ((go_at_call 112; exact KeptW.calls (HX.out _))))
  refine wpQuiet_nil ?_
  rintro _ ⟨d, rfl⟩
  go_wp2
  go_ret
  exact ⟨rfl, ((Below.refl _ _).alloc (Nat.le_refl _) _).trans (d.hb.mono (by simp))⟩

theorem part_lo (s t : Int) (wh : Bool) (w : World) (h2 : 2 ≤ t) (h24 : t ≤ 24) (hs : s ≤ splN t) :
    Calls Tryd.prog 106 #[.agg #[.int .i64 (s), .int .i64 (t), .bool wh]] w fun r w' => r = .returned (.agg #[.int .i64 (s), .int .i64 (splN t), .bool wh]) ∧ Below w.heap.size w w' := by
  have hd : decide (s ≤ splN t) = true := by simpa using hs
  clear hs
  go_enter Tryd.func106, Tryd.ntmps106
  go_wp2_with fail
  refine (gSplit_any s t wh _ h2 h24).mono ?_
  rintro r u1 ⟨rfl, hb1⟩
  obtain ⟨hc1, hf1⟩ := bcell hb1
  have hz1 := hb1.size
  simp at hz1
  have y1 : w.heap.size < u1.heap.size := by omega
  have y2 : w.heap.size + 1 < u1.heap.size := by omega
  go_wp2_with fail
  refine (inFirst_any s t wh _ h2 h24).mono ?_
  rintro r u2 ⟨rfl, hb2⟩
  rw [hd]
  obtain ⟨hc2, hf2⟩ := bcell hb2
  have hz2 := hb2.size
  have y3 : w.heap.size < u2.heap.size := by omega
  have y4 : w.heap.size + 1 < u2.heap.size := by omega
  go_wp2
  refine bodyPost_ret (v := .agg #[.int .i64 (s), .int .i64 (splN t), .bool wh]) (by simp [results, Tryd.results106, go_sem, hc1, hc2, y1, y2]) rfl ⟨rfl, ?_⟩
  repeat (first | exact Below.refl _ _ | (refine Below.alloc ?_ (by (try simp) <;> omega) _) | (refine Below.setCell ?_ (by (try simp) <;> omega) _) | (refine Below.trans ?_ (hb2.mono (by (try simp) <;> omega))) | (refine Below.trans ?_ (hb1.mono (by (try simp) <;> omega))))

theorem part_hi (s t : Int) (wh : Bool) (w : World) (h2 : 2 ≤ t) (h24 : t ≤ 24) (hs : ¬ s ≤ splN t) (hl : s ≤ t) :
    Calls Tryd.prog 106 #[.agg #[.int .i64 (s), .int .i64 (t), .bool wh]] w fun r w' => r = .returned (.agg #[.int .i64 (s - splN t), .int .i64 (t - splN t), .bool false]) ∧ Below w.heap.size w w' := by
  have hd : decide (s ≤ splN t) = false := by simpa using hs
  have hb := splN_bd h2 (by omega)
  have w1 : IntKind.i64.wrap (s - splN t) = s - splN t := by rw [IntKind.wrap_i64]; omega
  have w2 : IntKind.i64.wrap (t - splN t) = t - splN t := by rw [IntKind.wrap_i64]; omega
  obtain ⟨q1, q2, q3⟩ := hb
  have q4 : splN t ≤ s := by omega
  clear hs
  go_enter Tryd.func106, Tryd.ntmps106
  go_wp2_with fail
  refine (gSplit_any s t wh _ h2 h24).mono ?_
  rintro r u1 ⟨rfl, hb1⟩
  obtain ⟨hc1, hf1⟩ := bcell hb1
  have hz1 := hb1.size
  simp at hz1
  have y1 : w.heap.size < u1.heap.size := by omega
  have y2 : w.heap.size + 1 < u1.heap.size := by omega
  go_wp2_with fail
  refine (inFirst_any s t wh _ h2 h24).mono ?_
  rintro r u2 ⟨rfl, hb2⟩
  rw [hd]
  obtain ⟨hc2, hf2⟩ := bcell hb2
  have hz2 := hb2.size
  have y3 : w.heap.size < u2.heap.size := by omega
  have y4 : w.heap.size + 1 < u2.heap.size := by omega
  go_wp2
  refine bodyPost_ret (v := .agg #[.int .i64 (s - splN t), .int .i64 (t - splN t), .bool false]) (by simp [results, Tryd.results106, go_sem, hc1, hc2, y1, y2]) rfl ⟨rfl, ?_⟩
  repeat (first | exact Below.refl _ _ | (refine Below.alloc ?_ (by (try simp) <;> omega) _) | (refine Below.setCell ?_ (by (try simp) <;> omega) _) | (refine Below.trans ?_ (hb2.mono (by (try simp) <;> omega))) | (refine Below.trans ?_ (hb1.mono (by (try simp) <;> omega))))

set_option maxHeartbeats 2000000 in
theorem steps_any (n : Nat) : ∀ (s t : Int) (wh : Bool) (w : World), t.toNat ≤ n → 1 ≤ s → s ≤ t → t ≤ 24 →
    Calls Tryd.prog 92 #[.agg #[.int .i64 (s), .int .i64 (t), .bool wh]] w fun r w' => r = .returned (.int .i64 (gsN s t wh : Nat)) ∧ Below w.heap.size w w' := by
  induction n with
  | zero => intro s t wh w h _ _; omega
  | succ n ih =>
    intro s t wh w hn h0 h1 h24
    by_cases ho : s = t
    · have b : (s == t) = true := by simpa using ho
      rw [gsN_eq wh ho]
      clear ho ih
      cases wh
      · go_enter Tryd.func92, Tryd.ntmps92
        go_wp2_with fail
        refine (ofAll_any s t false _).mono ?_
        rintro r u1 ⟨rfl, hb1⟩
        rw [b]
        obtain ⟨hc1, hf1⟩ := bcell hb1
        go_wp2
        go_ret
        exact ⟨rfl, ((Below.refl _ _).alloc (Nat.le_refl _) _).trans (hb1.mono (by simp))⟩
      · go_enter Tryd.func92, Tryd.ntmps92
        go_wp2_with fail
        refine (ofAll_any s t true _).mono ?_
        rintro r u1 ⟨rfl, hb1⟩
        rw [b]
        obtain ⟨hc1, hf1⟩ := bcell hb1
        go_wp2
        go_ret
        exact ⟨rfl, ((Below.refl _ _).alloc (Nat.le_refl _) _).trans (hb1.mono (by simp))⟩
    · have b : (s == t) = false := by simpa using ho
      have h2 : 2 ≤ t := by omega
      obtain ⟨q1, q2, q3⟩ := splN_bd h2 (by omega)
      have hN : gsN s t wh ≤ 6 := gsN_bd 5 s t wh (by omega) h0 h1 (by have : (2 : Int) ^ 5 = 32 := by decide
                                                                       omega)
      by_cases ha : s ≤ splN t
      · have e := gsN_lo (s := s) (t := t) wh h2 ha
        rw [e] at hN ⊢
        have IH : Hid (∀ x : World, Calls Tryd.prog 92 #[.agg #[.int .i64 (s), .int .i64 (splN t), .bool wh]] x fun r w' => r = .returned (.int .i64 (gsN s (splN t) wh : Nat)) ∧ Below x.heap.size x w') := fun x => ih s (splN t) wh x (by omega) h0 ha (by omega)
        have PT : Hid (∀ x : World, Calls Tryd.prog 106 #[.agg #[.int .i64 (s), .int .i64 (t), .bool wh]] x fun r w' => r = .returned (.agg #[.int .i64 (s), .int .i64 (splN t), .bool wh]) ∧ Below x.heap.size x w') := fun x => part_lo s t wh x h2 h24 ha
        generalize gsN s (splN t) wh = N at *
        clear ih e ha ho
        go_enter Tryd.func92, Tryd.ntmps92
        go_wp2_with fail
        refine (ofAll_any s t wh _).mono ?_
        rintro r u1 ⟨rfl, hb1⟩
        rw [b]
        obtain ⟨hc1, hf1⟩ := bcell hb1
        go_wp2_with fail
        refine (PT.out _).mono ?_
        rintro r u2 ⟨rfl, hb2⟩
        go_wp2_with fail
        refine (IH.out _).mono ?_
        rintro r u3 ⟨rfl, hb3⟩
        go_wp2
        go_ret
        refine ⟨ret_int (by omega), ?_⟩
        exact ((((Below.refl _ _).alloc (Nat.le_refl _) _).trans (hb1.mono (by simp))).trans (hb2.mono (by have := hb1.size; simp at this; omega))).trans (hb3.mono (by have := hb1.size; have := hb2.size; simp at *; omega))
      · have e := gsN_hi (s := s) (t := t) wh h2 ha (by omega)
        rw [e] at hN ⊢
        have IH : Hid (∀ x : World, Calls Tryd.prog 92 #[.agg #[.int .i64 (s - splN t), .int .i64 (t - splN t), .bool false]] x fun r w' => r = .returned (.int .i64 (gsN (s - splN t) (t - splN t) false : Nat)) ∧ Below x.heap.size x w') := fun x => ih (s - splN t) (t - splN t) false x (by omega) (by omega) (by omega) (by omega)
        have PT : Hid (∀ x : World, Calls Tryd.prog 106 #[.agg #[.int .i64 (s), .int .i64 (t), .bool wh]] x fun r w' => r = .returned (.agg #[.int .i64 (s - splN t), .int .i64 (t - splN t), .bool false]) ∧ Below x.heap.size x w') := fun x => part_hi s t wh x h2 h24 ha h1
        generalize gsN (s - splN t) (t - splN t) false = N at *
        clear ih e ha ho
        go_enter Tryd.func92, Tryd.ntmps92
        go_wp2_with fail
        refine (ofAll_any s t wh _).mono ?_
        rintro r u1 ⟨rfl, hb1⟩
        rw [b]
        obtain ⟨hc1, hf1⟩ := bcell hb1
        go_wp2_with fail
        refine (PT.out _).mono ?_
        rintro r u2 ⟨rfl, hb2⟩
        go_wp2_with fail
        refine (IH.out _).mono ?_
        rintro r u3 ⟨rfl, hb3⟩
        go_wp2
        go_ret
        refine ⟨ret_int (by omega), ?_⟩
        exact ((((Below.refl _ _).alloc (Nat.le_refl _) _).trans (hb1.mono (by simp))).trans (hb2.mono (by have := hb1.size; simp at this; omega))).trans (hb3.mono (by have := hb1.size; have := hb2.size; simp at *; omega))

set_option maxHeartbeats 2000000 in
theorem implStepsOf_any (s t : Int) (w : World) :
    Calls Tryd.prog 52 #[.int .i64 s, .int .i64 t] w fun r w' => r = .returned (.agg #[.int .i64 (spC s t), .int .i64 (spV s t)]) ∧ Below w.heap.size w w' := by
  by_cases h : (1 ≤ t ∧ t ≤ 24) ∧ 1 ≤ s ∧ s ≤ t
  · have e1 : spC s t = 0 := by unfold spC; rw [if_pos h]
    have e2 : spV s t = (gsN s t true : Nat) := by unfold spV; rw [if_pos h]
    rw [e1, e2]
    clear e1 e2
    obtain ⟨⟨g1, g2⟩, g3, g4⟩ := h
    have IH : Hid (∀ x : World, Calls Tryd.prog 92 #[.agg #[.int .i64 (s), .int .i64 (t), .bool true]] x fun r w' => r = .returned (.int .i64 (gsN s t true : Nat)) ∧ Below x.heap.size x w') := fun x => steps_any _ s t true x (Nat.le_refl _) g3 g4 g2
    go_enter Tryd.func52, Tryd.ntmps52
    go_wp2_with fail
    refine (whole_any s t _).mono ?_
    rintro r u1 ⟨rfl, hb1⟩
    obtain ⟨hc1, hf1⟩ := bcell hb1
    have hz1 := hb1.size
    simp at hz1
    have y1 : w.heap.size < u1.heap.size := by omega
    go_wp2_with fail
    refine (IH.out _).mono ?_
    rintro r u2 ⟨rfl, hb2⟩
    obtain ⟨hc2, hf2⟩ := bcell hb2
    have hz2 := hb2.size
    have y2 : w.heap.size < u2.heap.size := by omega
    go_wp2
    refine bodyPost_ret (v := .agg #[.int .i64 0, .int .i64 (gsN s t true : Nat)]) (by simp [results, Tryd.results52, go_sem, hc1, hc2, y1]) rfl ⟨rfl, ?_⟩
    repeat (first | exact Below.refl _ _ | (refine Below.alloc ?_ (by (try simp) <;> omega) _) | (refine Below.setCell ?_ (by (try simp) <;> omega) _) | (refine Below.trans ?_ (hb2.mono (by (try simp) <;> omega))) | (refine Below.trans ?_ (hb1.mono (by (try simp) <;> omega))))
  · have e1 : spC s t = 3 := by unfold spC; rw [if_neg h]
    have e2 : spV s t = 0 := by unfold spV; rw [if_neg h]
    rw [e1, e2]
    clear e1 e2
    have h' : t < 1 ∨ (1 ≤ t ∧ 24 < t) ∨ (1 ≤ t ∧ t ≤ 24 ∧ s < 1) ∨ (1 ≤ t ∧ t ≤ 24 ∧ 1 ≤ s ∧ t < s) := by omega
    clear h
    rcases h' with h' | h' | h' | h'
    · go_enter Tryd.func52, Tryd.ntmps52
      go_wp2
      refine bodyPost_ret (v := .agg #[.int .i64 3, .int .i64 0]) (by simp [results, Tryd.results52, go_sem]) rfl ⟨rfl, ?_⟩
      repeat (first | exact Below.refl _ _ | (refine Below.alloc ?_ (by (try simp) <;> omega) _) | (refine Below.setCell ?_ (by (try simp) <;> omega) _))
    · obtain ⟨i1, i2⟩ := h'
      go_enter Tryd.func52, Tryd.ntmps52
      go_wp2
      refine bodyPost_ret (v := .agg #[.int .i64 3, .int .i64 0]) (by simp [results, Tryd.results52, go_sem]) rfl ⟨rfl, ?_⟩
      repeat (first | exact Below.refl _ _ | (refine Below.alloc ?_ (by (try simp) <;> omega) _) | (refine Below.setCell ?_ (by (try simp) <;> omega) _))
    · obtain ⟨i1, i2, i3⟩ := h'
      go_enter Tryd.func52, Tryd.ntmps52
      go_wp2
      refine bodyPost_ret (v := .agg #[.int .i64 3, .int .i64 0]) (by simp [results, Tryd.results52, go_sem]) rfl ⟨rfl, ?_⟩
      repeat (first | exact Below.refl _ _ | (refine Below.alloc ?_ (by (try simp) <;> omega) _) | (refine Below.setCell ?_ (by (try simp) <;> omega) _))
    · obtain ⟨i1, i2, i3, i4⟩ := h'
      go_enter Tryd.func52, Tryd.ntmps52
      go_wp2
      refine bodyPost_ret (v := .agg #[.int .i64 3, .int .i64 0]) (by simp [results, Tryd.results52, go_sem]) rfl ⟨rfl, ?_⟩
      repeat (first | exact Below.refl _ _ | (refine Below.alloc ?_ (by (try simp) <;> omega) _) | (refine Below.setCell ?_ (by (try simp) <;> omega) _))

end Go.Proofs.YtkjhcblfkpknlaaDoor
