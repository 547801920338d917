/- Contracts: the model's climbing of a path. -/
import Derived.Test.YtjiamihidnofmaaDoorSplit
import Derived.Test.YtjiamihidnofmaaDoorFault4
import Derived.Test.YtjiamihidnofmaaDoorClimbD
import Derived.Test.YtjiamihidnofmaaDoorPiece
import Derived.Test.YtjiamihidnofmaaDoorKeep
namespace Go.Proofs.YtjiamihidnofmaaDoor
open Go.ChangeShapes Go.WideShapes Go.ChangeAt Go.RowKit
set_option linter.unusedVariables false
set_option linter.unusedSimpArgs false

/-- The sum of a node. -/
def nS (a b : Int) : Int := sumL (nodeL a b)
theorem nS_bd (a b : Int) : 0 ≤ nS a b ∧ nS a b ≤ 65520 := sum_bd _
theorem clM_bd (n : Nat) : ∀ (l a s : Int) (p : List Int), s.toNat ≤ n → 0 ≤ l → l ≤ 65520 → 0 ≤ clM nS l a s p ∧ clM nS l a s p ≤ 65520 := by
  intro l a s p _ h0 h1
  rw [clM]
  split
  · exact ⟨h0, h1⟩
  · split
    · exact nS_bd _ _
    · exact nS_bd _ _

set_option maxHeartbeats 1000000 in
theorem l4Steps_any (a0 s0 : Int) (w : World) (h1 : 0 ≤ a0) (h2 : a0 < s0) (h3 : s0 ≤ 32) :
    Calls Tryd.prog 107 #[.int .i64 a0, .int .i64 s0] w fun r w' => r = .returned (.int .i64 (stN a0 s0)) ∧ w' = w := by
  have hN : stN a0 s0 ≤ 100 := by
    have key : ∀ (n : Nat) (a s : Int), s.toNat ≤ n → stN a s ≤ n := by
      intro n
      induction n with
      | zero => intro a s h; rw [stN_le _ _ (by omega)]; omega
      | succ n ih =>
        intro a s h
        by_cases h1 : s ≤ 1
        · rw [stN_le _ _ h1]; omega
        · have hp := splN_pos s
          have hl := splN_lt (n := s) (by omega)
          by_cases h0 : a < splN s
          · rw [stN_lo (by omega) h0]; have := ih a (splN s) (by omega); omega
          · rw [stN_hi (by omega) h0]; have := ih (a - splN s) (s - splN s) (by omega); omega
    have := key s0.toNat a0 s0 (Nat.le_refl _)
    omega
  go_enter Tryd.func107, Tryd.ntmps107
  go_wp2
  go_loop [0, 1, 5] (fun x y z => ∃ (a s : Int) (n : Nat), 0 ≤ a ∧ a < s ∧ s ≤ 32 ∧ n + stN a s = stN a0 s0 ∧ x = .int .i64 a ∧ y = .int .i64 s ∧ z = .int .i64 n) (fun _ y _ => (intOf y).toNat)
  case atStart => exact ⟨a0, s0, 0, h1, h2, h3, by omega, rfl, rfl, rfl⟩
  case round =>
    obtain ⟨a, s, n, g1, g2, g3, hn, rfl, rfl, rfl⟩ := hrel
    have hn2 : n ≤ 100 := by omega
    have HN : Hid (n + stN a s = stN a0 s0) := hn
    clear hn hN h1 h2 h3
    by_cases hs : 1 < s
    · have hb := splN_bd (n := s) (by omega) g3
      obtain ⟨q1, q2, q3⟩ := hb
      by_cases ha : a < splN s
      · have HL : Hid (_) := stN_lo (a := a) (s := s) (by omega) ha
        go_wp2_with (go_at_call 86; refine (split_any s _ (by omega) (by omega)).mono ?_; rintro r u2 ⟨rfl, rfl⟩)
        go_round
        case rel => exact ⟨a, splN s, n + 1, g1, ha, by omega, by have := HN.out; rw [HL.out] at this; omega, rfl, rfl, by go_num⟩
        case measure => simp [intOf]; omega
      · have HL : Hid (_) := stN_hi (a := a) (s := s) (by omega) ha
        go_wp2_with (go_at_call 86; refine (split_any s _ (by omega) (by omega)).mono ?_; rintro r u2 ⟨rfl, rfl⟩)
        go_round
        case rel => exact ⟨a - splN s, s - splN s, n + 1, by omega, by omega, by omega, by have := HN.out; rw [HL.out] at this; omega, rfl, rfl, by go_num⟩
        case measure => simp [intOf]; omega
    · go_wp2
      go_ret
      refine ⟨ret_int ?_, rfl⟩
      have := HN.out
      rw [stN_le a s (by omega)] at this
      omega

theorem Has.init {w : World} {k : IntKind} {a : Option Addr} {zs : List Int} (h : Has w k a zs.length zs) (n : Nat) (hn : n ≤ zs.length) : Has w k a (zs.take n).length (zs.take n) := by
  refine ⟨rfl, fun x hx => h.2.1 x (List.mem_of_mem_take hx), ?_⟩
  rcases h.2.2 with c | ⟨b', off', e, hlt, hc⟩
  · exact .inl (by simp; omega)
  · refine .inr ⟨b', off', e, hlt, fun j hj => ?_⟩
    simp at hj
    rw [hc j (by omega)]
    simp [List.getD, List.getElem?_take, show j < n by omega]

set_option maxHeartbeats 4000000 in
theorem l4Climb_any (n : Nat) : ∀ (l a0 s0 : Int) (x : Option Addr) (c : Nat) (p : List Int) (w : World), s0.toNat ≤ n → 0 ≤ l → l ≤ 65520 → 0 ≤ a0 → a0 < s0 → s0 ≤ 32 → p.length = stN a0 s0 → allS p = true → Has w .i64 x p.length p → p.length ≤ c → c ≤ maxLen →
    Calls Tryd.prog 82 #[.int .i64 l, .int .i64 a0, .int .i64 s0, .slice x p.length c] w fun r w' => r = .returned (.int .i64 (clM nS l a0 s0 p)) ∧ Below w.heap.size w w' := by
  induction n with
  | zero => intro l a0 s0 x c p w h _ _ _ _ _; omega
  | succ n ih =>
    intro l a0 s0 x c p w hn l0 l1 h0 h1 h2 hlen hall hp hc hm
    unfold maxLen at hm
    by_cases hs : s0 ≤ 1
    · have e := clM_le nS l a0 s0 p hs
      rw [e]
      clear e
      go_enter Tryd.func82, Tryd.ntmps82
      go_wp2
      go_ret
      exact ⟨rfl, Below.refl _ _⟩
    · have hs' : 2 ≤ s0 := by omega
      obtain ⟨q1, q2, q3⟩ := splN_bd hs' h2
      have hpos : 0 < p.length := by
        by_cases ha : a0 < splN s0
        · rw [hlen, stN_lo hs' ha]; omega
        · rw [hlen, stN_hi hs' ha]; omega
      obtain ⟨m, hm1⟩ : ∃ m, p.length = m + 1 := ⟨p.length - 1, by omega⟩
      have hdl : p.dropLast = p.take m := by rw [List.dropLast_eq_take, hm1]; rfl
      have hgl : p.getLastD 0 = p[m]'(by omega) := by
        rw [List.getLastD_eq_getLast?, List.getLast?_eq_getElem?]
        simp [hm1]
      have hlast := allS_get hall m (by omega)
      have hi := hp.init m (by omega)
      have hil : (p.take m).length = m := by simp; omega
      obtain ⟨b1, o1, hx, hb1, hcell⟩ : ∃ b off, x = some ⟨b, off, none⟩ ∧ b < w.heap.size ∧ ∀ i, i < p.length → w.cell? ⟨b, off + i, none⟩ = some (.int .i64 (p.getD i 0)) := by
        rcases hp.2.2 with c | h
        · omega
        · exact h
      subst hx
      have e1 : w.cell? ⟨b1, o1 + m, none⟩ = some (.int .i64 (p[m]'(by omega))) := by rw [hcell m (by omega)]; simp [List.getD, hm1]
      have hne : Nonempty (KeptW w) := ⟨⟨w, Below.refl _ _⟩⟩
      have K1 := KeptW.cell e1 hb1
      generalize hv : p[m]'(by omega) = v at *
      by_cases ha : a0 < splN s0
      · have EQ : Hid (clM nS l a0 s0 p = nS (clM nS l a0 (splN s0) (p.take m)) v) := by
          show _ = _
          rw [clM_lo nS p hs' ha, hdl, hgl]
        have hbd := clM_bd _ l a0 (splN s0) (p.take m) (Nat.le_refl _) l0 l1
        have IH : Hid (∀ d : KeptW w, Calls Tryd.prog 82 #[.int .i64 l, .int .i64 a0, .int .i64 (splN s0), .slice (some ⟨b1, o1, none⟩) m c] d.wd fun r w' => r = .returned (.int .i64 (clM nS l a0 (splN s0) (p.take m))) ∧ Below d.wd.heap.size d.wd w') := by
          intro d
          have := ih l a0 (splN s0) (some ⟨b1, o1, none⟩) c (p.take m) d.wd (by omega) l0 l1 h0 ha (by omega) (by rw [hil]; rw [stN_lo hs' ha] at hlen; omega) (allS_take hall m) (hi.below d.hb (Nat.le_refl _)) (by omega) (by unfold maxLen; omega)
          rw [hil] at this
          exact this
        generalize clM nS l a0 (splN s0) (p.take m) = cv at EQ hbd IH
        have hm2 : (m : Int) ≤ c := by omega
        have hm3 : (p.length : Int) = m + 1 := by omega
        rw [EQ.out, hm1]
        have hc' : m + 1 ≤ c := by omega
        clear EQ hv hdl hgl hi hil hcell e1 hall hp hlen hm3 hc hpos ih hm1
        go_enter Tryd.func82, Tryd.ntmps82
        go_upto_region 6 with (go_at_call 86; refine (split_any s0 _ (by omega) (by omega)).mono ?_; rintro r u2 ⟨rfl, rfl⟩)
        refine wp_region_kept (by kernel_rfl) (by kernel_rfl) ?_
        repeat (go_big_quiet_step ((first | (go_at_call 82; exact KeptW.calls (IH.out _)) | (go_at_call 104; exact KeptW.calls (l2NodeSum_any cv v _ hbd.1 (by omega) hlast.1 (by omega))))))
        refine wpQuiet_nil ?_
        rintro _ ⟨d, rfl⟩
        go_wp2
        go_ret
        exact ⟨rfl, d.hb⟩
      · have EQ : Hid (clM nS l a0 s0 p = nS v (clM nS l (a0 - splN s0) (s0 - splN s0) (p.take m))) := by
          show _ = _
          rw [clM_hi nS p hs' ha, hdl, hgl]
        have hbd := clM_bd _ l (a0 - splN s0) (s0 - splN s0) (p.take m) (Nat.le_refl _) l0 l1
        have IH : Hid (∀ d : KeptW w, Calls Tryd.prog 82 #[.int .i64 l, .int .i64 (a0 - splN s0), .int .i64 (s0 - splN s0), .slice (some ⟨b1, o1, none⟩) m c] d.wd fun r w' => r = .returned (.int .i64 (clM nS l (a0 - splN s0) (s0 - splN s0) (p.take m))) ∧ Below d.wd.heap.size d.wd w') := by
          intro d
          have := ih l (a0 - splN s0) (s0 - splN s0) (some ⟨b1, o1, none⟩) c (p.take m) d.wd (by omega) l0 l1 (by omega) (by omega) (by omega) (by rw [hil]; rw [stN_hi hs' ha] at hlen; omega) (allS_take hall m) (hi.below d.hb (Nat.le_refl _)) (by omega) (by unfold maxLen; omega)
          rw [hil] at this
          exact this
        generalize clM nS l (a0 - splN s0) (s0 - splN s0) (p.take m) = cv at EQ hbd IH
        have hm2 : (m : Int) ≤ c := by omega
        rw [EQ.out, hm1]
        have hc' : m + 1 ≤ c := by omega
        clear EQ hv hdl hgl hi hil hcell e1 hall hp hlen hc hpos ih hm1
        go_enter Tryd.func82, Tryd.ntmps82
        go_upto_region 7 with (go_at_call 86; refine (split_any s0 _ (by omega) (by omega)).mono ?_; rintro r u2 ⟨rfl, rfl⟩)
        refine wp_region_kept (by kernel_rfl) (by kernel_rfl) ?_
        repeat (go_big_quiet_step ((first | (go_at_call 82; exact KeptW.calls (IH.out _)) | (go_at_call 104; exact KeptW.calls (l2NodeSum_any v cv _ hlast.1 (by omega) hbd.1 (by omega))))))
        refine wpQuiet_nil ?_
        rintro _ ⟨d, rfl⟩
        go_wp2
        go_ret
        exact ⟨rfl, d.hb⟩

end Go.Proofs.YtjiamihidnofmaaDoor
