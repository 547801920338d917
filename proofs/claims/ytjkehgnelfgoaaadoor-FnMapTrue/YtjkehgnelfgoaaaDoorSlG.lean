/- Contracts of the model of chapter 7: what a key has. -/
import Derived.Test.YtjkehgnelfgoaaaDoorSlF
namespace Go.Proofs.YtjkehgnelfgoaaaDoor
open Go.ChangeShapes Go.WideShapes Go.ChangeAt Go.RowKit
set_option linter.unusedVariables false
set_option linter.unusedSimpArgs false

theorem slFind_step {l : List Sl} {k : Nat} (h : k < l.length) (key : Int) : slFind (l.drop k) key = if l[k].1 = key then some l[k].2 else slFind (l.drop (k + 1)) key := by
  rw [List.drop_eq_getElem_cons h, slFind_cons]

set_option maxHeartbeats 1000000 in
theorem l7At_any (a : Option Addr) (c : Nat) (l : List Sl) (key : Int) (w : World) (h : HasS w a l) (hl : l.length ≤ 1048576) :
    Calls Tryd.prog 59 #[.slice a l.length c, .int .i64 key] w fun r w' => ((slFind l key = none ∧ r = .returned (.int .i64 (-1))) ∨ ∃ i : Nat, i < l.length ∧ r = .returned (.int .i64 i) ∧ slFind l key = some (l.getD i (0, 0)).2) ∧ w' = w := by
  have HF : Hid (slFind l key = slFind (l.drop 0) key) := by show _ = _; rw [List.drop_zero]
  generalize slFind l key = F at *
  rcases h.cells with h0 | ⟨b, off, rfl, hb, hcell⟩
  · subst h0
    simp only [List.length_nil] at *
    have HF2 : Hid (F = none) := HF.out
    clear HF
    go_enter Tryd.func59, Tryd.ntmps59
    go_wp2
    refine wp_loop_rounds 1 ?_
    rw [rounds_succ]
    go_wp2
    go_ret
    exact ⟨.inl ⟨HF2.out, rfl⟩, rfl⟩
  · go_enter Tryd.func59, Tryd.ntmps59
    go_wp2
    go_loop [5] (fun i => ∃ k : Nat, k ≤ l.length ∧ i = .int .i64 k ∧ F = slFind (l.drop k) key) (fun i => l.length - (intOf i).toNat)
    case atStart => exact ⟨0, Nat.zero_le _, rfl, HF.out⟩
    case round =>
      obtain ⟨k, hk, rfl, hf⟩ := hrel
      have HC : Hid (F = slFind (l.drop k) key) := hf
      clear hf HF
      by_cases hlt : k < l.length
      · have hlt' : (k : Int) < (l.length : Int) := by omega
        have HS : Hid (_) := slFind_step hlt key
        have e1 := (hcell k hlt).1
        by_cases he : l[k].1 = key
        · have he' : (l[k].1 == key) = true := by simpa using he
          have HE : Hid (l[k].1 = key) := he
          have HG : Hid (l[k]?.getD (0, 0) = l[k]) := by show _ = _; rw [List.getElem?_eq_getElem hlt]; rfl
          clear he
          go_wp2
          go_ret
          exact ⟨.inr ⟨k, hlt, rfl, by rw [HC.out, HS.out, if_pos HE.out, HG.out]⟩, rfl⟩
        · have he' : (l[k].1 == key) = false := by simpa using he
          have HE : Hid (¬ l[k].1 = key) := he
          clear he
          go_wp2
          go_round
          case rel => exact ⟨k + 1, by omega, by go_num, by rw [HC.out, HS.out, if_neg HE.out]⟩
          case measure => simp [intOf]; omega
      · go_wp2
        go_ret
        exact ⟨.inl ⟨by rw [HC.out, List.drop_of_length_le (by omega)]; rfl, rfl⟩, rfl⟩

/-- The code and the value of a search. -/
def fdC (l : List Sl) (k : Int) : Int := if slF l = 0 then (if (slFind l k).isSome = true then 0 else 4) else slF l
def fdV (l : List Sl) (k : Int) : Int := if slF l = 0 then (slFind l k).getD 0 else 0

set_option maxHeartbeats 1000000 in
theorem specFindSlot_any (a : Option Addr) (c : Nat) (l : List Sl) (key : Int) (w : World) (h : HasS w a l) (hl : l.length ≤ 1048576) :
    Calls Tryd.prog 21 #[.slice a l.length c, .int .i64 key] w fun r w' => r = .returned (.agg #[.int .i64 (fdC l key), .int .i64 (fdV l key)]) ∧ Below w.heap.size w w' := by
  have h' := h.alloc (.cells #[.int .i64 0, .int .i64 0] 34)
  have B0 : Below w.heap.size w (w.alloc (.cells #[.int .i64 0, .int .i64 0] 34)) := (Below.refl _ _).alloc (Nat.le_refl _) _
  by_cases hc : slF l = 0
  · have HC1 : Hid (fdC l key = if (slFind l key).isSome = true then 0 else 4) := by show _ = _; unfold fdC; rw [if_pos hc]
    have HC2 : Hid (fdV l key = (slFind l key).getD 0) := by show _ = _; unfold fdV; rw [if_pos hc]
    generalize fdC l key = cd at *
    generalize fdV l key = cv at *
    have LF : Hid (∀ u : World, HasS u a l → Calls Tryd.prog 56 #[.slice a l.length c] u fun r w' => r = .returned (.int .i64 0) ∧ Below u.heap.size u w') := fun u hu => by have := l7Fault_any a c l u hu hl; rw [hc] at this; exact this
    clear hc
    go_enter Tryd.func21, Tryd.ntmps21
    go_wp2_with fail
    refine (LF.out _ h').mono ?_
    rintro r u1 ⟨rfl, hb1⟩
    have k0 := var2 hb1
    have f0 := (bcell hb1).2 w.heap.size 0 (by simp)
    have f1 := (bcell hb1).2 w.heap.size 1 (by simp)
    simp [go_sem] at f0 f1
    have B1 := B0.trans (hb1.mono (by simp))
    have h1 := h'.below hb1 (Nat.le_refl _)
    obtain ⟨k0, k1⟩ := k0
    have z1 := hb1.size
    simp at z1
    go_wp2_with fail
    refine (l7At_any a c l key _ h1 hl).mono ?_
    rintro r u2 ⟨hr, rfl⟩
    have hgd : ∀ i (hi : i < l.length), l.getD i (0, 0) = l[i] := fun i hi => by rw [List.getD_eq_getElem?_getD, List.getElem?_eq_getElem hi]; rfl
    rcases hr with ⟨hn, rfl⟩ | ⟨i, hi, rfl, hs⟩
    · have HN : Hid (_) := hn
      clear hn hgd
      go_wp2
      refine bodyPost_ret (v := .agg #[.int .i64 (4), .int .i64 (0)]) (by simp [results, Tryd.results21, go_sem, k0, k1]) rfl ⟨by rw [HC1.out, HC2.out, HN.out]; rfl, ?_⟩
      exact (B1.setCell (Nat.le_refl _) _).setCell (Nat.le_refl _) _
    · rw [hgd i hi] at hs
      have HN : Hid (_) := hs
      have hi' : (i : Int) < (l.length : Int) := by omega
      have hn : ¬ (i : Int) < 0 := by omega
      clear hs hgd
      rcases h1.cells with h0 | ⟨b, off, rfl, hb, hcell⟩
      · subst h0; simp at hi
      · have e2 := (hcell i hi).2
        clear hcell h1 h' h
        go_wp2
        refine bodyPost_ret (v := .agg #[.int .i64 (0), .int .i64 (l[i].2)]) (by simp [results, Tryd.results21, go_sem, k0, k1]) rfl ⟨by rw [HC1.out, HC2.out, HN.out]; rfl, ?_⟩
        exact (B1.setCell (Nat.le_refl _) _).setCell (Nat.le_refl _) _
  · have e1 : fdC l key = slF l := by unfold fdC; rw [if_neg hc]
    have e2 : fdV l key = 0 := by unfold fdV; rw [if_neg hc]
    rw [e1, e2]
    clear e1 e2
    have hc' : (slF l != 0) = true := by simpa using hc
    have LF : Hid (∀ u : World, HasS u a l → Calls Tryd.prog 56 #[.slice a l.length c] u fun r w' => r = .returned (.int .i64 (slF l)) ∧ Below u.heap.size u w') := fun u hu => l7Fault_any a c l u hu hl
    generalize slF l = cc at *
    go_enter Tryd.func21, Tryd.ntmps21
    go_wp2_with fail
    refine (LF.out _ h').mono ?_
    rintro r u1 ⟨rfl, hb1⟩
    obtain ⟨k0, k1⟩ := var2 hb1
    have f0 := (bcell hb1).2 w.heap.size 0 (by simp)
    have f1 := (bcell hb1).2 w.heap.size 1 (by simp)
    simp [go_sem] at f0 f1
    have B1 := B0.trans (hb1.mono (by simp))
    go_wp2
    refine bodyPost_ret (v := .agg #[.int .i64 (cc), .int .i64 (0)]) (by simp [results, Tryd.results21, go_sem, k0, k1]) rfl ⟨rfl, ?_⟩
    exact (B1.setCell (Nat.le_refl _) _).setCell (Nat.le_refl _) _

end Go.Proofs.YtjkehgnelfgoaaaDoor
