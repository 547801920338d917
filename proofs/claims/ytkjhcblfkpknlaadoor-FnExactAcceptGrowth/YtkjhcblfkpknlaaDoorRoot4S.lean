/- Contracts: the model's root of a log, split by split. -/
import Derived.Test.YtkjhcblfkpknlaaDoorGrowC
import Derived.Test.YtkjhcblfkpknlaaDoorKeep
import Derived.Test.YtkjhcblfkpknlaaDoorSplit
import Derived.Test.YtkjhcblfkpknlaaDoorIn
import Derived.Deep.RegionWith
namespace Go.Proofs.YtkjhcblfkpknlaaDoor
open Go.ChangeShapes Go.WideShapes Go.ChangeAt Go.RowKit
set_option linter.unusedVariables false
set_option linter.unusedSimpArgs false

theorem has_init {w : World} {k : IntKind} {a : Option Addr} {zs : List Int} (h : Has w k a zs.length zs) (n : Nat) (hn : n ≤ zs.length) : Has w k a (zs.take n).length (zs.take n) := h.init n hn
theorem has_rest {w : World} {k : IntKind} {b o : Nat} {zs : List Int} (h : Has w k (some ⟨b, o, none⟩) zs.length zs) (n : Nat) (hn : n ≤ zs.length) : Has w k (some ⟨b, o + n, none⟩) (zs.drop n).length (zs.drop n) := by
  refine ⟨rfl, fun x hx => h.2.1 x (List.mem_of_mem_drop hx), ?_⟩
  rcases h.2.2 with c | ⟨b', off', e, hlt, hc⟩
  · exact .inl (by simp; omega)
  · simp at e
    obtain ⟨rfl, rfl⟩ := e
    refine .inr ⟨b, o + n, rfl, hlt, fun j hj => ?_⟩
    simp at hj
    rw [show o + n + j = o + (n + j) by omega, hc (n + j) (by omega)]
    simp [List.getD]

set_option maxHeartbeats 4000000 in
theorem l4Root_any (n : Nat) : ∀ (x : Option Addr) (c : Nat) (zs : List Int) (w : World), zs.length ≤ n → zs.length ≤ 32 → allS zs = true → Has w .i64 x zs.length zs → zs.length ≤ c → c ≤ maxLen →
    Calls Tryd.prog 69 #[.slice x zs.length c] w fun r w' => r = .returned (.int .i64 (rtM nS 11 zs)) ∧ Below w.heap.size w w' := by
  induction n with
  | zero =>
    intro x c zs w hn h32 hall hp hc hm
    have h0 : zs.length = 0 := by omega
    have e : rtM nS 11 zs = sumL [] := by rw [rtM_le nS 11 (by omega), List.eq_nil_of_length_eq_zero h0]; rfl
    rw [e]
    clear e
    go_enter Tryd.func69, Tryd.ntmps69
    go_wp2_with (go_at_call 67; refine (l2Sum_any none 0 [] _ ⟨rfl, by simp, .inl rfl⟩ (by simp)).mono ?_; rintro r u2 ⟨rfl, rfl⟩)
    go_ret
    exact ⟨rfl, Below.refl _ _⟩
  | succ n ih =>
    intro x c zs w hn h32 hall hp hc hm
    unfold maxLen at hm
    by_cases h0 : zs.length = 0
    · have e : rtM nS 11 zs = sumL [] := by rw [rtM_le nS 11 (by omega), List.eq_nil_of_length_eq_zero h0]; rfl
      rw [e]
      clear e
      go_enter Tryd.func69, Tryd.ntmps69
      go_wp2_with (go_at_call 67; refine (l2Sum_any none 0 [] _ ⟨rfl, by simp, .inl rfl⟩ (by simp)).mono ?_; rintro r u2 ⟨rfl, rfl⟩)
      go_ret
      exact ⟨rfl, Below.refl _ _⟩
    · obtain ⟨b1, o1, hx, hb1, hcell⟩ : ∃ b off, x = some ⟨b, off, none⟩ ∧ b < w.heap.size ∧ ∀ i, i < zs.length → w.cell? ⟨b, off + i, none⟩ = some (.int .i64 (zs.getD i 0)) := by
        rcases hp.2.2 with c | h
        · omega
        · exact h
      subst hx
      by_cases h1 : zs.length = 1
      · have e1 := hcell 0 (by omega)
        have e : rtM nS 11 zs = zs.getD 0 0 := by
          rw [rtM_le nS 11 (by omega)]
          cases zs with
          | nil => simp at h0
          | cons y ys => rfl
        rw [e]
        generalize zs.getD 0 0 = y at *
        simp at e1
        clear e hcell
        go_enter Tryd.func69, Tryd.ntmps69
        go_wp2
        go_ret
        exact ⟨rfl, Below.refl _ _⟩
      · have hs' : (2 : Int) ≤ zs.length := by omega
        obtain ⟨q1, q2, q3⟩ := splN_bd hs' (by omega)
        obtain ⟨m, hm1⟩ : ∃ m : Nat, splN (zs.length : Int) = m := ⟨(splN (zs.length : Int)).toNat, by omega⟩
        have EQ : Hid (rtM nS 11 zs = nS (rtM nS 11 (zs.take m)) (rtM nS 11 (zs.drop m))) := by
          show _ = _
          rw [rtM_gt nS 11 (by omega), hm1]; rfl
        have tl : (zs.take m).length = m := by simp; omega
        have dl : (zs.drop m).length = zs.length - m := by simp
        have hb1' := rtM_bd _ (zs.take m) (Nat.le_refl _) (allS_take hall m)
        have hb2' := rtM_bd _ (zs.drop m) (Nat.le_refl _) (allS_drop hall m)
        have hi := has_init hp m (by omega)
        have hr := has_rest hp m (by omega)
        have IH1 : Hid (∀ d : KeptW w, Calls Tryd.prog 69 #[.slice (some ⟨b1, o1, none⟩) m c] d.wd fun r w' => r = .returned (.int .i64 (rtM nS 11 (zs.take m))) ∧ Below d.wd.heap.size d.wd w') := by
          intro d
          have := ih (some ⟨b1, o1, none⟩) c (zs.take m) d.wd (by omega) (by omega) (allS_take hall m) (hi.below d.hb (Nat.le_refl _)) (by omega) (by unfold maxLen; omega)
          rw [tl] at this
          exact this
        have IH2 : Hid (∀ d : KeptW w, Calls Tryd.prog 69 #[.slice (some ⟨b1, o1 + m, none⟩) (zs.length - m) (c - m)] d.wd fun r w' => r = .returned (.int .i64 (rtM nS 11 (zs.drop m))) ∧ Below d.wd.heap.size d.wd w') := by
          intro d
          have := ih (some ⟨b1, o1 + m, none⟩) (c - m) (zs.drop m) d.wd (by omega) (by omega) (allS_drop hall m) (hr.below d.hb (Nat.le_refl _)) (by omega) (by unfold maxLen; omega)
          rw [dl] at this
          exact this
        have hne : Nonempty (KeptW w) := ⟨⟨w, Below.refl _ _⟩⟩
        generalize rtM nS 11 (zs.take m) = r1 at *
        generalize rtM nS 11 (zs.drop m) = r2 at *
        rw [EQ.out]
        have HM : Hid (splN (zs.length : Int) = m) := hm1
        have m1 : (1 : Int) ≤ m := by omega
        have m2 : (m : Int) < zs.length := by omega
        have m3 : (zs.length : Int) ≤ c := by omega
        have m4 : ¬ (c : Int) = m := by omega
        clear EQ hi hr tl dl hcell hm1 hp ih h0 h1 q1 q2 q3
        have h0' : ¬ (zs.length : Int) = 0 := by omega
        have h1' : ¬ (zs.length : Int) = 1 := by omega
        go_enter Tryd.func69, Tryd.ntmps69
        go_upto_region 7 with (go_at_call 76; refine (split_any zs.length _ (by omega) (by omega)).mono ?_; rintro r u2 ⟨rfl, rfl⟩; rw [HM.out])
        refine wp_region_kept (by kernel_rfl) (by kernel_rfl) ?_
        repeat (go_big_quiet_step ((first | (go_at_call_of 69 (Value.slice (some ⟨b1, o1, none⟩) m c); exact KeptW.calls (IH1.out _)) | (go_at_call_of 69 (Value.slice (some ⟨b1, o1 + m, none⟩) (zs.length - m) (c - m)); exact KeptW.calls (IH2.out _)) | (go_at_call 99; exact KeptW.calls (l2NodeSum_any r1 r2 _ hb1'.1 (by omega) hb2'.1 (by omega))))))
        refine wpQuiet_nil ?_
        rintro _ ⟨d, rfl⟩
        go_wp2
        go_ret
        exact ⟨rfl, d.hb⟩

end Go.Proofs.YtkjhcblfkpknlaaDoor
