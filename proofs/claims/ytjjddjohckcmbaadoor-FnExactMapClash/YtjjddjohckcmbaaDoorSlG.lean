/- Contracts: the fault of slots, of both sides; what a key has. Contracts of the model of chapter 7: what a key has. -/
import Derived.Test.YtjjddjohckcmbaaDoorSlL
import Derived.Test.YtjjddjohckcmbaaDoorPiece
import Derived.Test.YtjjddjohckcmbaaDoorISums
namespace Go.Proofs.YtjjddjohckcmbaaDoor
open Go.ChangeShapes Go.WideShapes Go.ChangeAt Go.RowKit
set_option linter.unusedVariables false
set_option linter.unusedSimpArgs false

theorem l7Key_any (v : Int) (w : World) : Calls Tryd.prog 58 #[.int .i64 v] w fun r w' => r = .returned (.bool (decide (0 ≤ v ∧ v ≤ 63))) ∧ w' = w := by
  go_enter Tryd.func58, Tryd.ntmps58
  go_wp2_with (go_at_call 96; refine (in_any _ _ _ _).mono ?_; rintro r u ⟨rfl, rfl⟩)
  go_ret
  exact ⟨ret_bool (by simp), rfl⟩

theorem slOk_false1 {s : Sl} (h : decide (0 ≤ s.1 ∧ s.1 ≤ 63) = false) : slOk s = false := by
  unfold slOk; simp at *; omega
theorem slOk_false2 {s : Sl} (h : decide (0 ≤ s.2 ∧ s.2 ≤ 65520) = false) : slOk s = false := by
  unfold slOk; simp at *; omega
theorem slOk_true {s : Sl} (h1 : decide (0 ≤ s.1 ∧ s.1 ≤ 63) = true) (h2 : decide (0 ≤ s.2 ∧ s.2 ≤ 65520) = true) : slOk s = true := by
  unfold slOk; simp at *; omega

set_option maxHeartbeats 4000000 in
theorem l7Fault_any (a : Option Addr) (c : Nat) (l : List Sl) (w : World) (h : HasS w a l) (hl : l.length ≤ 1048576) :
    Calls Tryd.prog 64 #[.slice a l.length c] w fun r w' => r = .returned (.int .i64 (slF l)) ∧ Below w.heap.size w w' := by
  have HF : Hid (slF l = if 12 < l.length then 2 else slGo (-1) l) := rfl
  generalize slF l = cc at *
  by_cases h12 : 12 < l.length
  · have h12' : (12 : Int) < (l.length : Int) := by omega
    go_enter Tryd.func64, Tryd.ntmps64
    go_wp2
    go_ret
    exact ⟨ret_int (by rw [HF.out, if_pos h12]), Below.refl _ _⟩
  · have h12' : ¬ (12 : Int) < (l.length : Int) := by omega
    have HF2 : Hid (cc = slGo (-1) l) := by show _ = _; rw [HF.out, if_neg h12]
    clear HF
    rcases h.cells with h0 | ⟨b, off, rfl, hb, hcell⟩
    · subst h0
      simp only [List.length_nil] at *
      go_enter Tryd.func64, Tryd.ntmps64
      go_wp2
      refine wp_loop_rounds 1 ?_
      rw [rounds_succ]
      go_wp2
      go_ret
      exact ⟨ret_int HF2.out.symm, Below.refl _ _⟩
    · go_enter Tryd.func64, Tryd.ntmps64
      go_wp2
      go_loopw [3] (fun i wr => ∃ k n : Nat, k ≤ l.length ∧ cc = slGo (prevK l k) (l.drop k) ∧ i = .int .i64 k ∧ wr = w.drewN n) (fun i _ => l.length - (intOf i).toNat)
      case atStart => exact ⟨0, 0, Nat.zero_le _, HF2.out, rfl, rfl⟩
      case round =>
        obtain ⟨k, n, hk, hcc, rfl, rfl⟩ := hrel
        have HC : Hid (cc = slGo (prevK l k) (l.drop k)) := hcc
        clear hcc HF2
        by_cases hlt : k < l.length
        · have hlt' : (k : Int) < (l.length : Int) := by omega
          have hs := slGo_step hlt (prevK l k)
          have hp := prevK_succ hlt
          obtain ⟨e1, e2⟩ := hcell k hlt
          have hpv : 0 < k → w.cell? ⟨b, off + (k - 1) * 2, none⟩ = some (.int .i64 (prevK l k)) := by
            intro hk0
            obtain ⟨j, rfl⟩ : ∃ j, k = j + 1 := ⟨k - 1, by omega⟩
            have := (hcell j (by omega)).1
            rw [prevK_succ (by omega)]
            exact this
          have ho := @slOk_true l[k]
          have hn1 := @slOk_false1 l[k]
          have hn2 := @slOk_false2 l[k]
          have hneg : k = 0 → prevK l k = -1 := by rintro rfl; rfl
          have hge : slOk l[k] = true → 0 ≤ l[k].1 := fun e => (slOk_iff.1 e).1.1
          clear hcell h
          generalize prevK l k = pv at *
          generalize l[k] = s at *
          obtain ⟨x, y⟩ := s
          simp only at e1 e2 ho hn1 hn2 hge hp hs
          have HS : Hid (slGo pv (l.drop k) = if slOk (x, y) = true then (if x ≤ pv then 1 else slGo x (l.drop (k + 1))) else 3) := hs
          have HP : Hid (prevK l (k + 1) = x) := hp
          clear hs hp
          by_cases d1 : decide (0 ≤ x ∧ x ≤ 63) = true
          · by_cases d2 : decide (0 ≤ y ∧ y ≤ 65520) = true
            · have hok := ho d1 d2
              have HO : Hid (slOk (x, y) = true) := hok
              have hx0 := hge hok
              clear hok ho hn1 hn2 hge
              by_cases hk0 : 0 < k
              · have hk0' : (0 : Int) < (k : Int) := by omega
                have ek : ((k : Int) - 1) = ((k - 1 : Nat) : Int) := by omega
                have e3 := hpv hk0
                have el : ((k : Int) - 1) < (l.length : Int) := by omega
                have eg : (0 : Int) ≤ (k : Int) - 1 := by omega
                obtain ⟨j, rfl⟩ : ∃ j, k = j + 1 := ⟨k - 1, by omega⟩
                simp only [Nat.add_sub_cancel] at e3 ek
                by_cases hle : x ≤ pv
                · go_wp2_with (first | (go_at_call 58; refine (l7Key_any x _).mono ?_; rintro r u ⟨rfl, rfl⟩; rw [d1]) | (go_at_call 59; refine (l2Is_any y _).mono ?_; rintro r u ⟨rfl, rfl⟩; rw [d2]))
                  go_quiet (fail)
                  go_wp2
                  go_ret
                  exact ⟨ret_int (by rw [HC.out, HS.out, if_pos HO.out, if_pos hle]), below_drewN (below_drewN (Below.refl _ _) _) _⟩
                · have hle' : pv < x := by omega
                  go_wp2_with (first | (go_at_call 58; refine (l7Key_any x _).mono ?_; rintro r u ⟨rfl, rfl⟩; rw [d1]) | (go_at_call 59; refine (l2Is_any y _).mono ?_; rintro r u ⟨rfl, rfl⟩; rw [d2]))
                  go_quiet (fail)
                  go_wp2
                  go_roundw
                  case rel => exact ⟨j + 1 + 1, _, by omega, by rw [HC.out, HS.out, if_pos HO.out, if_neg (show ¬ x ≤ pv by omega), HP.out], by go_num, rfl⟩
                  case measure => simp [intOf]; omega
              · obtain rfl : k = 0 := by omega
                have hp0 := hneg rfl
                clear hk0 hneg
                have hle : ¬ x ≤ pv := by omega
                clear hpv
                simp at e1 e2
                go_wp2_with (first | (go_at_call 58; refine (l7Key_any x _).mono ?_; rintro r u ⟨rfl, rfl⟩; rw [d1]) | (go_at_call 59; refine (l2Is_any y _).mono ?_; rintro r u ⟨rfl, rfl⟩; rw [d2]))
                go_quiet (fail)
                go_wp2
                go_roundw
                case rel => exact ⟨0 + 1, _, by omega, by rw [HC.out, HS.out, if_pos HO.out, if_neg (show ¬ x ≤ pv by omega), HP.out], by go_num, rfl⟩
                case measure => simp [intOf]; omega
            · have d2' : decide (0 ≤ y ∧ y ≤ 65520) = false := by simpa using d2
              have HN : Hid (slOk (x, y) = false) := hn2 d2'
              clear d2 ho hn1 hn2 hge
              go_wp2_with (first | (go_at_call 58; refine (l7Key_any x _).mono ?_; rintro r u ⟨rfl, rfl⟩; rw [d1]) | (go_at_call 59; refine (l2Is_any y _).mono ?_; rintro r u ⟨rfl, rfl⟩; rw [d2']))
              go_ret
              exact ⟨ret_int (by rw [HC.out, HS.out, HN.out]; rfl), below_drewN (Below.refl _ _) _⟩
          · have d1' : decide (0 ≤ x ∧ x ≤ 63) = false := by simpa using d1
            have HN : Hid (slOk (x, y) = false) := hn1 d1'
            clear d1 ho hn1 hn2 hge
            go_wp2_with (first | (go_at_call 58; refine (l7Key_any x _).mono ?_; rintro r u ⟨rfl, rfl⟩; rw [d1']))
            go_ret
            exact ⟨ret_int (by rw [HC.out, HS.out, HN.out]; rfl), below_drewN (Below.refl _ _) _⟩
        · go_wp2
          go_ret
          refine ⟨ret_int ?_, below_drewN (Below.refl _ _) _⟩
          rw [HC.out, List.drop_of_length_le (by omega)]
          rfl

theorem specSlotsFault_any (a : Option Addr) (c : Nat) (l : List Sl) (w : World) (h : HasS w a l) (hl : l.length ≤ 1048576) :
    Calls Tryd.prog 21 #[.slice a l.length c] w fun r w' => r = .returned (.int .i64 (slF l)) ∧ Below w.heap.size w w' := by
  go_enter Tryd.func21, Tryd.ntmps21
  go_wp2_with fail
  refine (l7Fault_any a c l _ h hl).mono ?_
  rintro r u ⟨rfl, hb⟩
  go_wp2
  go_ret
  exact ⟨rfl, hb⟩

theorem isFrom0To_any (v b : Int) (w : World) : Calls Tryd.prog 85 #[.int .i64 v, .int .i64 b] w fun r w' => r = .returned (.bool (decide (0 ≤ v ∧ v ≤ b))) ∧ w' = w := by
  by_cases h : 0 ≤ v
  · go_enter Tryd.func85, Tryd.ntmps85
    go_wp2
    go_ret
    exact ⟨ret_bool (by simp [h]), rfl⟩
  · go_enter Tryd.func85, Tryd.ntmps85
    go_wp2
    go_ret
    exact ⟨ret_bool (by simp; omega), rfl⟩

theorem isMapKey_any (v : Int) (w : World) : Calls Tryd.prog 50 #[.int .i64 v] w fun r w' => r = .returned (.bool (decide (0 ≤ v ∧ v ≤ 63))) ∧ w' = w := by
  go_enter Tryd.func50, Tryd.ntmps50
  go_wp2_with (go_at_call 85; refine (isFrom0To_any _ _ _).mono ?_; rintro r u ⟨rfl, rfl⟩)
  go_ret
  exact ⟨ret_bool (by simp), rfl⟩

set_option maxHeartbeats 1000000 in
theorem isInRange_any (k v : Int) (w : World) : Calls Tryd.prog 66 #[.agg #[.int .i64 k, .int .i64 v]] w fun r w' => r = .returned (.bool (slOk (k, v))) ∧ Below w.heap.size w w' := by
  by_cases d1 : decide (0 ≤ k ∧ k ≤ 63) = true
  · by_cases d2 : decide (0 ≤ v ∧ v ≤ 65520) = true
    · have HO : Hid (slOk (k, v) = true) := slOk_true d1 d2
      go_enter Tryd.func66, Tryd.ntmps66
      go_wp2_with (first | (go_at_call 50; refine (isMapKey_any k _).mono ?_; rintro r u ⟨rfl, rfl⟩; rw [d1]) | (go_at_call 89; refine (isSum_any v _).mono ?_; rintro r u ⟨rfl, rfl⟩; rw [d2]))
      go_ret
      exact ⟨by rw [HO.out]; rfl, (Below.refl _ _).alloc (Nat.le_refl _) _⟩
    · have d2' : decide (0 ≤ v ∧ v ≤ 65520) = false := by simpa using d2
      have HO : Hid (slOk (k, v) = false) := slOk_false2 d2'
      go_enter Tryd.func66, Tryd.ntmps66
      go_wp2_with (first | (go_at_call 50; refine (isMapKey_any k _).mono ?_; rintro r u ⟨rfl, rfl⟩; rw [d1]) | (go_at_call 89; refine (isSum_any v _).mono ?_; rintro r u ⟨rfl, rfl⟩; rw [d2']))
      go_ret
      exact ⟨by rw [HO.out]; rfl, (Below.refl _ _).alloc (Nat.le_refl _) _⟩
  · have d1' : decide (0 ≤ k ∧ k ≤ 63) = false := by simpa using d1
    have HO : Hid (slOk (k, v) = false) := slOk_false1 d1'
    go_enter Tryd.func66, Tryd.ntmps66
    go_wp2_with (first | (go_at_call 50; refine (isMapKey_any k _).mono ?_; rintro r u ⟨rfl, rfl⟩; rw [d1']))
    go_ret
    exact ⟨by rw [HO.out]; rfl, (Below.refl _ _).alloc (Nat.le_refl _) _⟩

end Go.Proofs.YtjjddjohckcmbaaDoor

namespace Go.Proofs.YtjjddjohckcmbaaDoor
open Go.ChangeShapes Go.WideShapes Go.ChangeAt Go.RowKit
set_option linter.unusedVariables false
set_option linter.unusedSimpArgs false

theorem slFind_step {l : List Sl} {k : Nat} (h : k < l.length) (key : Int) : slFind (l.drop k) key = if l[k].1 = key then some l[k].2 else slFind (l.drop (k + 1)) key := by
  rw [List.drop_eq_getElem_cons h, slFind_cons]

set_option maxHeartbeats 1000000 in
theorem l7At_any (a : Option Addr) (c : Nat) (l : List Sl) (key : Int) (w : World) (h : HasS w a l) (hl : l.length ≤ 1048576) :
    Calls Tryd.prog 67 #[.slice a l.length c, .int .i64 key] w fun r w' => ((slFind l key = none ∧ r = .returned (.int .i64 (-1))) ∨ ∃ i : Nat, i < l.length ∧ r = .returned (.int .i64 i) ∧ slFind l key = some (l.getD i (0, 0)).2) ∧ w' = w := by
  have HF : Hid (slFind l key = slFind (l.drop 0) key) := by show _ = _; rw [List.drop_zero]
  generalize slFind l key = F at *
  rcases h.cells with h0 | ⟨b, off, rfl, hb, hcell⟩
  · subst h0
    simp only [List.length_nil] at *
    have HF2 : Hid (F = none) := HF.out
    clear HF
    go_enter Tryd.func67, Tryd.ntmps67
    go_wp2
    refine wp_loop_rounds 1 ?_
    rw [rounds_succ]
    go_wp2
    go_ret
    exact ⟨.inl ⟨HF2.out, rfl⟩, rfl⟩
  · go_enter Tryd.func67, Tryd.ntmps67
    go_wp2
    go_loop [5] (fun i => ∃ k : Nat, k ≤ l.length ∧ i = .int .i64 k ∧ F = slFind (l.drop k) key) (fun i => l.length - (intOf i).toNat)
    case atStart => exact ⟨0, Nat.zero_le _, rfl, HF.out⟩
    case round =>
      obtain ⟨k, hk, rfl, hf⟩ := hrel
      have HC : Hid (F = slFind (l.drop k) key) := hf
      clear hf HF
      by_cases hlt : k < l.length
      · have hlt' : (k : Int) < (l.length : Int) := by omega
        have HS : Hid (_) := slFind_step hlt key
        have e1 := (hcell k hlt).1
        by_cases he : l[k].1 = key
        · have he' : (l[k].1 == key) = true := by simpa using he
          have HE : Hid (l[k].1 = key) := he
          have HG : Hid (l[k]?.getD (0, 0) = l[k]) := by show _ = _; rw [List.getElem?_eq_getElem hlt]; rfl
          clear he
          go_wp2
          go_ret
          exact ⟨.inr ⟨k, hlt, rfl, by rw [HC.out, HS.out, if_pos HE.out, HG.out]⟩, rfl⟩
        · have he' : (l[k].1 == key) = false := by simpa using he
          have HE : Hid (¬ l[k].1 = key) := he
          clear he
          go_wp2
          go_round
          case rel => exact ⟨k + 1, by omega, by go_num, by rw [HC.out, HS.out, if_neg HE.out]⟩
          case measure => simp [intOf]; omega
      · go_wp2
        go_ret
        exact ⟨.inl ⟨by rw [HC.out, List.drop_of_length_le (by omega)]; rfl, rfl⟩, rfl⟩

/-- The code and the value of a search. -/
def fdC (l : List Sl) (k : Int) : Int := if slF l = 0 then (if (slFind l k).isSome = true then 0 else 4) else slF l
def fdV (l : List Sl) (k : Int) : Int := if slF l = 0 then (slFind l k).getD 0 else 0

set_option maxHeartbeats 1000000 in
theorem specFindSlot_any (a : Option Addr) (c : Nat) (l : List Sl) (key : Int) (w : World) (h : HasS w a l) (hl : l.length ≤ 1048576) :
    Calls Tryd.prog 25 #[.slice a l.length c, .int .i64 key] w fun r w' => r = .returned (.agg #[.int .i64 (fdC l key), .int .i64 (fdV l key)]) ∧ Below w.heap.size w w' := by
  have h' := h.alloc (.cells #[.int .i64 0, .int .i64 0] 34)
  have B0 : Below w.heap.size w (w.alloc (.cells #[.int .i64 0, .int .i64 0] 34)) := (Below.refl _ _).alloc (Nat.le_refl _) _
  by_cases hc : slF l = 0
  · have HC1 : Hid (fdC l key = if (slFind l key).isSome = true then 0 else 4) := by show _ = _; unfold fdC; rw [if_pos hc]
    have HC2 : Hid (fdV l key = (slFind l key).getD 0) := by show _ = _; unfold fdV; rw [if_pos hc]
    generalize fdC l key = cd at *
    generalize fdV l key = cv at *
    have LF : Hid (∀ u : World, HasS u a l → Calls Tryd.prog 64 #[.slice a l.length c] u fun r w' => r = .returned (.int .i64 0) ∧ Below u.heap.size u w') := fun u hu => by have := l7Fault_any a c l u hu hl; rw [hc] at this; exact this
    clear hc
    go_enter Tryd.func25, Tryd.ntmps25
    go_wp2_with fail
    refine (LF.out _ h').mono ?_
    rintro r u1 ⟨rfl, hb1⟩
    have k0 := var2 hb1
    have f0 := (bcell hb1).2 w.heap.size 0 (by simp)
    have f1 := (bcell hb1).2 w.heap.size 1 (by simp)
    simp [go_sem] at f0 f1
    have B1 := B0.trans (hb1.mono (by simp))
    have h1 := h'.below hb1 (Nat.le_refl _)
    obtain ⟨k0, k1⟩ := k0
    have z1 := hb1.size
    simp at z1
    go_wp2_with fail
    refine (l7At_any a c l key _ h1 hl).mono ?_
    rintro r u2 ⟨hr, rfl⟩
    have hgd : ∀ i (hi : i < l.length), l.getD i (0, 0) = l[i] := fun i hi => by rw [List.getD_eq_getElem?_getD, List.getElem?_eq_getElem hi]; rfl
    rcases hr with ⟨hn, rfl⟩ | ⟨i, hi, rfl, hs⟩
    · have HN : Hid (_) := hn
      clear hn hgd
      go_wp2
      refine bodyPost_ret (v := .agg #[.int .i64 (4), .int .i64 (0)]) (by simp [results, Tryd.results25, go_sem, k0, k1]) rfl ⟨by rw [HC1.out, HC2.out, HN.out]; rfl, ?_⟩
      exact (B1.setCell (Nat.le_refl _) _).setCell (Nat.le_refl _) _
    · rw [hgd i hi] at hs
      have HN : Hid (_) := hs
      have hi' : (i : Int) < (l.length : Int) := by omega
      have hn : ¬ (i : Int) < 0 := by omega
      clear hs hgd
      rcases h1.cells with h0 | ⟨b, off, rfl, hb, hcell⟩
      · subst h0; simp at hi
      · have e2 := (hcell i hi).2
        clear hcell h1 h' h
        go_wp2
        refine bodyPost_ret (v := .agg #[.int .i64 (0), .int .i64 (l[i].2)]) (by simp [results, Tryd.results25, go_sem, k0, k1]) rfl ⟨by rw [HC1.out, HC2.out, HN.out]; rfl, ?_⟩
        exact (B1.setCell (Nat.le_refl _) _).setCell (Nat.le_refl _) _
  · have e1 : fdC l key = slF l := by unfold fdC; rw [if_neg hc]
    have e2 : fdV l key = 0 := by unfold fdV; rw [if_neg hc]
    rw [e1, e2]
    clear e1 e2
    have hc' : (slF l != 0) = true := by simpa using hc
    have LF : Hid (∀ u : World, HasS u a l → Calls Tryd.prog 64 #[.slice a l.length c] u fun r w' => r = .returned (.int .i64 (slF l)) ∧ Below u.heap.size u w') := fun u hu => l7Fault_any a c l u hu hl
    generalize slF l = cc at *
    go_enter Tryd.func25, Tryd.ntmps25
    go_wp2_with fail
    refine (LF.out _ h').mono ?_
    rintro r u1 ⟨rfl, hb1⟩
    obtain ⟨k0, k1⟩ := var2 hb1
    have f0 := (bcell hb1).2 w.heap.size 0 (by simp)
    have f1 := (bcell hb1).2 w.heap.size 1 (by simp)
    simp [go_sem] at f0 f1
    have B1 := B0.trans (hb1.mono (by simp))
    go_wp2
    refine bodyPost_ret (v := .agg #[.int .i64 (cc), .int .i64 (0)]) (by simp [results, Tryd.results25, go_sem, k0, k1]) rfl ⟨rfl, ?_⟩
    exact (B1.setCell (Nat.le_refl _) _).setCell (Nat.le_refl _) _

end Go.Proofs.YtjjddjohckcmbaaDoor
