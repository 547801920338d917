/- Contracts of the model's chapter 3: the faults of an event. -/
import Derived.Test.YtngibnmcagogaaaDoorCanon
import Derived.Test.YtngibnmcagogaaaDoorIn
import Derived.Test.YtngibnmcagogaaaDoorKeep
namespace Go.Proofs.YtngibnmcagogaaaDoor
open Go.ChangeShapes Go.WideShapes Go.ChangeAt Go.RowKit
set_option maxRecDepth 100000
set_option linter.unusedVariables false
set_option linter.unusedSimpArgs false

/-- An event at block b. -/
structure EvAt (w : World) (b : Nat) (s v k x : Int) (a : Option Addr) (n c : Nat) : Prop where
  c0 : w.cell? ⟨b, 0, none⟩ = some (.int .i64 s)
  c1 : w.cell? ⟨b, 1, none⟩ = some (.int .i64 v)
  c2 : w.cell? ⟨b, 2, none⟩ = some (.int .i64 k)
  c3 : w.cell? ⟨b, 3, none⟩ = some (.int .i64 x)
  c4 : w.cell? ⟨b, 4, none⟩ = some (.slice a n c)
  lt : b < w.heap.size
theorem EvAt.below {w w' : World} {b : Nat} {s v k x : Int} {a : Option Addr} {n c : Nat} (h : EvAt w b s v k x a n c) (hb : Below w.heap.size w w') : EvAt w' b s v k x a n c :=
  ⟨(hb.cell (p := ⟨b, 0, none⟩) h.lt).trans h.c0, (hb.cell (p := ⟨b, 1, none⟩) h.lt).trans h.c1, (hb.cell (p := ⟨b, 2, none⟩) h.lt).trans h.c2, (hb.cell (p := ⟨b, 3, none⟩) h.lt).trans h.c3, (hb.cell (p := ⟨b, 4, none⟩) h.lt).trans h.c4, Nat.lt_of_lt_of_le h.lt hb.size⟩
theorem EvAt.new (w : World) (s v k x : Int) (a : Option Addr) (n c T : Nat) : EvAt (w.alloc (.cells #[.int .i64 s, .int .i64 v, .int .i64 k, .int .i64 x, .slice a n c] T)) w.heap.size s v k x a n c := by
  constructor <;> simp [go_sem]

/-- The first code of an event that is so. -/
def evF (s v k x : Int) (n : Nat) : Int := if ¬ ((0 ≤ s ∧ s ≤ 63) ∧ (0 ≤ v ∧ v ≤ 999) ∧ 0 ≤ k ∧ k ≤ 9) then 3 else if ¬ x = canon x then 1 else if 12 < n then 2 else 0

set_option maxHeartbeats 4000000 in
theorem l3Fault_any (b : Nat) (s v k x : Int) (a : Option Addr) (n c : Nat) (w : World) (h : EvAt w b s v k x a n c) (x0 : -9223372036854775808 ≤ x) (x1 : x ≤ 9223372036854775807) (hn : n ≤ 9223372036854775807) :
    Calls Tryd.prog 87 #[.pointer (some ⟨b, 0, none⟩)] w fun r w' => r = .returned (.int .i64 (evF s v k x n)) ∧ Below w.heap.size w w' := by
  obtain ⟨c0, c1, c2, c3, c4, hlt⟩ := h
  have tok1 : True := trivial
  have tok2 : True := trivial
  have hnew : Nonempty (KeptW w) := ⟨⟨w, Below.refl _ _⟩⟩
  have k3 := KeptW.cell c3 hlt
  have k4 := KeptW.cell c4 hlt
  unfold evF
  by_cases hs : 0 ≤ s ∧ s ≤ 63
  · have ds : decide (0 ≤ s ∧ s ≤ 63) = true := by simpa using hs
    by_cases hv : 0 ≤ v ∧ v ≤ 999
    · have dv : decide (0 ≤ v ∧ v ≤ 999) = true := by simpa using hv
      by_cases hk : 0 ≤ k ∧ k ≤ 9
      · have dk : decide (0 ≤ k ∧ k ≤ 9) = true := by simpa using hk
        rw [if_neg (by intro q; exact q ⟨hs, hv, hk⟩)]
        clear hs hv hk
        have AR := fun (d : KeptW w) => canon_spec1 x d.wd x0 x1
        have HX : Hid (_) := AR
        clear AR
        by_cases hx : x = canon x
        · rw [if_neg (by intro q; exact q hx)]
          have dx : (x != canon x) = false := by simpa using hx
          clear hx
          by_cases hm : 12 < n
          · have hm' : (12 : Int) < (n : Int) := by omega
            rw [if_pos hm]
            go_enter Tryd.func87, Tryd.ntmps87
            go_wp2_with (first | (go_at_call 69; have _t := tok1; refine (in_any s 0 63 _).mono ?_; rintro r u ⟨rfl, rfl⟩; rw [ds]; clear tok1 _t) | (go_at_call 69; have _t := tok2; refine (in_any v 0 999 _).mono ?_; rintro r u ⟨rfl, rfl⟩; rw [dv]; clear tok2 _t) | (go_at_call 69; refine (in_any k 0 9 _).mono ?_; rintro r u ⟨rfl, rfl⟩; rw [dk]))
            refine wp_region_kept (by kernel_rfl) (by kernel_rfl) ?_
            iterate 10 (go_big_quiet_step ((go_at_call 92; exact KeptW.calls (HX.out _))))
            refine wpQuiet_nil ?_
            rintro _ ⟨d, rfl⟩
            go_wp2
            go_ret
            exact ⟨rfl, d.hb⟩
          · have hm' : (n : Int) ≤ 12 := by omega
            rw [if_neg hm]
            go_enter Tryd.func87, Tryd.ntmps87
            go_wp2_with (first | (go_at_call 69; have _t := tok1; refine (in_any s 0 63 _).mono ?_; rintro r u ⟨rfl, rfl⟩; rw [ds]; clear tok1 _t) | (go_at_call 69; have _t := tok2; refine (in_any v 0 999 _).mono ?_; rintro r u ⟨rfl, rfl⟩; rw [dv]; clear tok2 _t) | (go_at_call 69; refine (in_any k 0 9 _).mono ?_; rintro r u ⟨rfl, rfl⟩; rw [dk]))
            refine wp_region_kept (by kernel_rfl) (by kernel_rfl) ?_
            iterate 10 (go_big_quiet_step ((go_at_call 92; exact KeptW.calls (HX.out _))))
            refine wpQuiet_nil ?_
            rintro _ ⟨d, rfl⟩
            go_wp2
            go_ret
            exact ⟨rfl, d.hb⟩
        · rw [if_pos hx]
          have dx : (x != canon x) = true := by simpa using hx
          clear hx
          go_enter Tryd.func87, Tryd.ntmps87
          go_wp2_with (first | (go_at_call 69; have _t := tok1; refine (in_any s 0 63 _).mono ?_; rintro r u ⟨rfl, rfl⟩; rw [ds]; clear tok1 _t) | (go_at_call 69; have _t := tok2; refine (in_any v 0 999 _).mono ?_; rintro r u ⟨rfl, rfl⟩; rw [dv]; clear tok2 _t) | (go_at_call 69; refine (in_any k 0 9 _).mono ?_; rintro r u ⟨rfl, rfl⟩; rw [dk]))
          refine wp_region_kept (by kernel_rfl) (by kernel_rfl) ?_
          iterate 10 (go_big_quiet_step ((go_at_call 92; exact KeptW.calls (HX.out _))))
          refine wpQuiet_nil ?_
          rintro _ ⟨d, rfl⟩
          go_wp2
          go_ret
          exact ⟨rfl, d.hb⟩
      · have dk : decide (0 ≤ k ∧ k ≤ 9) = false := by simp; omega
        rw [if_pos (by intro q; exact hk q.2.2)]
        go_enter Tryd.func87, Tryd.ntmps87
        go_wp2_with (first | (go_at_call 69; have _t := tok1; refine (in_any s 0 63 _).mono ?_; rintro r u ⟨rfl, rfl⟩; rw [ds]; clear tok1 _t) | (go_at_call 69; have _t := tok2; refine (in_any v 0 999 _).mono ?_; rintro r u ⟨rfl, rfl⟩; rw [dv]; clear tok2 _t) | (go_at_call 69; refine (in_any k 0 9 _).mono ?_; rintro r u ⟨rfl, rfl⟩; rw [dk]))
        go_ret
        exact ⟨rfl, Below.refl _ _⟩
    · have dv : decide (0 ≤ v ∧ v ≤ 999) = false := by simp; omega
      rw [if_pos (by intro q; exact hv q.2.1)]
      go_enter Tryd.func87, Tryd.ntmps87
      go_wp2_with (first | (go_at_call 69; have _t := tok1; refine (in_any s 0 63 _).mono ?_; rintro r u ⟨rfl, rfl⟩; rw [ds]; clear tok1 _t) | (go_at_call 69; refine (in_any v 0 999 _).mono ?_; rintro r u ⟨rfl, rfl⟩; rw [dv]))
      go_ret
      exact ⟨rfl, Below.refl _ _⟩
  · have ds : decide (0 ≤ s ∧ s ≤ 63) = false := by simp; omega
    rw [if_pos (by intro q; exact hs q.1)]
    go_enter Tryd.func87, Tryd.ntmps87
    go_wp2_with (go_at_call 69; refine (in_any s 0 63 _).mono ?_; rintro r u ⟨rfl, rfl⟩; rw [ds])
    go_ret
    exact ⟨rfl, Below.refl _ _⟩

end Go.Proofs.YtngibnmcagogaaaDoor
