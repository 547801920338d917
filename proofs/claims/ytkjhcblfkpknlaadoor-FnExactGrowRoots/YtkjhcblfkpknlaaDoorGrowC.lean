/- Contracts: the model's climbing of a path. What RootOf and PathOf come to, plain. What chapter 5's functions come to, plain: GrowthOf, StepsOf, GrowRoots, AcceptGrowth; and that a growth is taken. Contracts: the model's ClimbPath. -/
import Derived.Test.YtkjhcblfkpknlaaDoorSplit
import Derived.Test.YtkjhcblfkpknlaaDoorGrowD
import Derived.Test.YtkjhcblfkpknlaaDoorPiece
import Derived.Test.YtkjhcblfkpknlaaDoorKeep
namespace Go.Proofs.YtkjhcblfkpknlaaDoor
open Go.ChangeShapes Go.WideShapes Go.ChangeAt Go.RowKit
set_option linter.unusedVariables false
set_option linter.unusedSimpArgs false

/-- The sum of a node. -/
def nS (a b : Int) : Int := sumL (nodeL a b)
theorem nS_bd (a b : Int) : 0 ≤ nS a b ∧ nS a b ≤ 65520 := sum_bd _
theorem clM_bd (n : Nat) : ∀ (l a s : Int) (p : List Int), s.toNat ≤ n → 0 ≤ l → l ≤ 65520 → 0 ≤ clM nS l a s p ∧ clM nS l a s p ≤ 65520 := by
  intro l a s p _ h0 h1
  rw [clM]
  split
  · exact ⟨h0, h1⟩
  · split
    · exact nS_bd _ _
    · exact nS_bd _ _

set_option maxHeartbeats 1000000 in
theorem l4Steps_any (a0 s0 : Int) (w : World) (h1 : 0 ≤ a0) (h2 : a0 < s0) (h3 : s0 ≤ 32) :
    Calls Tryd.prog 100 #[.int .i64 a0, .int .i64 s0] w fun r w' => r = .returned (.int .i64 (stN a0 s0)) ∧ w' = w := by
  have hN : stN a0 s0 ≤ 100 := by
    have key : ∀ (n : Nat) (a s : Int), s.toNat ≤ n → stN a s ≤ n := by
      intro n
      induction n with
      | zero => intro a s h; rw [stN_le _ _ (by omega)]; omega
      | succ n ih =>
        intro a s h
        by_cases h1 : s ≤ 1
        · rw [stN_le _ _ h1]; omega
        · have hp := splN_pos s
          have hl := splN_lt (n := s) (by omega)
          by_cases h0 : a < splN s
          · rw [stN_lo (by omega) h0]; have := ih a (splN s) (by omega); omega
          · rw [stN_hi (by omega) h0]; have := ih (a - splN s) (s - splN s) (by omega); omega
    have := key s0.toNat a0 s0 (Nat.le_refl _)
    omega
  go_enter Tryd.func100, Tryd.ntmps100
  go_wp2
  go_loop [0, 1, 5] (fun x y z => ∃ (a s : Int) (n : Nat), 0 ≤ a ∧ a < s ∧ s ≤ 32 ∧ n + stN a s = stN a0 s0 ∧ x = .int .i64 a ∧ y = .int .i64 s ∧ z = .int .i64 n) (fun _ y _ => (intOf y).toNat)
  case atStart => exact ⟨a0, s0, 0, h1, h2, h3, by omega, rfl, rfl, rfl⟩
  case round =>
    obtain ⟨a, s, n, g1, g2, g3, hn, rfl, rfl, rfl⟩ := hrel
    have hn2 : n ≤ 100 := by omega
    have HN : Hid (n + stN a s = stN a0 s0) := hn
    clear hn hN h1 h2 h3
    by_cases hs : 1 < s
    · have hb := splN_bd (n := s) (by omega) g3
      obtain ⟨q1, q2, q3⟩ := hb
      by_cases ha : a < splN s
      · have HL : Hid (_) := stN_lo (a := a) (s := s) (by omega) ha
        go_wp2_with (go_at_call 76; refine (split_any s _ (by omega) (by omega)).mono ?_; rintro r u2 ⟨rfl, rfl⟩)
        go_round
        case rel => exact ⟨a, splN s, n + 1, g1, ha, by omega, by have := HN.out; rw [HL.out] at this; omega, rfl, rfl, by go_num⟩
        case measure => simp [intOf]; omega
      · have HL : Hid (_) := stN_hi (a := a) (s := s) (by omega) ha
        go_wp2_with (go_at_call 76; refine (split_any s _ (by omega) (by omega)).mono ?_; rintro r u2 ⟨rfl, rfl⟩)
        go_round
        case rel => exact ⟨a - splN s, s - splN s, n + 1, by omega, by omega, by omega, by have := HN.out; rw [HL.out] at this; omega, rfl, rfl, by go_num⟩
        case measure => simp [intOf]; omega
    · go_wp2
      go_ret
      refine ⟨ret_int ?_, rfl⟩
      have := HN.out
      rw [stN_le a s (by omega)] at this
      omega

theorem Has.init {w : World} {k : IntKind} {a : Option Addr} {zs : List Int} (h : Has w k a zs.length zs) (n : Nat) (hn : n ≤ zs.length) : Has w k a (zs.take n).length (zs.take n) := by
  refine ⟨rfl, fun x hx => h.2.1 x (List.mem_of_mem_take hx), ?_⟩
  rcases h.2.2 with c | ⟨b', off', e, hlt, hc⟩
  · exact .inl (by simp; omega)
  · refine .inr ⟨b', off', e, hlt, fun j hj => ?_⟩
    simp at hj
    rw [hc j (by omega)]
    simp [List.getD, List.getElem?_take, show j < n by omega]

set_option maxHeartbeats 4000000 in
theorem l4Climb_any (n : Nat) : ∀ (l a0 s0 : Int) (x : Option Addr) (c : Nat) (p : List Int) (w : World), s0.toNat ≤ n → 0 ≤ l → l ≤ 65520 → 0 ≤ a0 → a0 < s0 → s0 ≤ 32 → p.length = stN a0 s0 → allS p = true → Has w .i64 x p.length p → p.length ≤ c → c ≤ maxLen →
    Calls Tryd.prog 71 #[.int .i64 l, .int .i64 a0, .int .i64 s0, .slice x p.length c] w fun r w' => r = .returned (.int .i64 (clM nS l a0 s0 p)) ∧ Below w.heap.size w w' := by
  induction n with
  | zero => intro l a0 s0 x c p w h _ _ _ _ _; omega
  | succ n ih =>
    intro l a0 s0 x c p w hn l0 l1 h0 h1 h2 hlen hall hp hc hm
    unfold maxLen at hm
    by_cases hs : s0 ≤ 1
    · have e := clM_le nS l a0 s0 p hs
      rw [e]
      clear e
      go_enter Tryd.func71, Tryd.ntmps71
      go_wp2
      go_ret
      exact ⟨rfl, Below.refl _ _⟩
    · have hs' : 2 ≤ s0 := by omega
      obtain ⟨q1, q2, q3⟩ := splN_bd hs' h2
      have hpos : 0 < p.length := by
        by_cases ha : a0 < splN s0
        · rw [hlen, stN_lo hs' ha]; omega
        · rw [hlen, stN_hi hs' ha]; omega
      obtain ⟨m, hm1⟩ : ∃ m, p.length = m + 1 := ⟨p.length - 1, by omega⟩
      have hdl : p.dropLast = p.take m := by rw [List.dropLast_eq_take, hm1]; rfl
      have hgl : p.getLastD 0 = p[m]'(by omega) := by
        rw [List.getLastD_eq_getLast?, List.getLast?_eq_getElem?]
        simp [hm1]
      have hlast := allS_get hall m (by omega)
      have hi := hp.init m (by omega)
      have hil : (p.take m).length = m := by simp; omega
      obtain ⟨b1, o1, hx, hb1, hcell⟩ : ∃ b off, x = some ⟨b, off, none⟩ ∧ b < w.heap.size ∧ ∀ i, i < p.length → w.cell? ⟨b, off + i, none⟩ = some (.int .i64 (p.getD i 0)) := by
        rcases hp.2.2 with c | h
        · omega
        · exact h
      subst hx
      have e1 : w.cell? ⟨b1, o1 + m, none⟩ = some (.int .i64 (p[m]'(by omega))) := by rw [hcell m (by omega)]; simp [List.getD, hm1]
      have hne : Nonempty (KeptW w) := ⟨⟨w, Below.refl _ _⟩⟩
      have K1 := KeptW.cell e1 hb1
      generalize hv : p[m]'(by omega) = v at *
      by_cases ha : a0 < splN s0
      · have EQ : Hid (clM nS l a0 s0 p = nS (clM nS l a0 (splN s0) (p.take m)) v) := by
          show _ = _
          rw [clM_lo nS p hs' ha, hdl, hgl]
        have hbd := clM_bd _ l a0 (splN s0) (p.take m) (Nat.le_refl _) l0 l1
        have IH : Hid (∀ d : KeptW w, Calls Tryd.prog 71 #[.int .i64 l, .int .i64 a0, .int .i64 (splN s0), .slice (some ⟨b1, o1, none⟩) m c] d.wd fun r w' => r = .returned (.int .i64 (clM nS l a0 (splN s0) (p.take m))) ∧ Below d.wd.heap.size d.wd w') := by
          intro d
          have := ih l a0 (splN s0) (some ⟨b1, o1, none⟩) c (p.take m) d.wd (by omega) l0 l1 h0 ha (by omega) (by rw [hil]; rw [stN_lo hs' ha] at hlen; omega) (allS_take hall m) (hi.below d.hb (Nat.le_refl _)) (by omega) (by unfold maxLen; omega)
          rw [hil] at this
          exact this
        generalize clM nS l a0 (splN s0) (p.take m) = cv at EQ hbd IH
        have hm2 : (m : Int) ≤ c := by omega
        have hm3 : (p.length : Int) = m + 1 := by omega
        rw [EQ.out, hm1]
        have hc' : m + 1 ≤ c := by omega
        clear EQ hv hdl hgl hi hil hcell e1 hall hp hlen hm3 hc hpos ih hm1
        go_enter Tryd.func71, Tryd.ntmps71
        go_upto_region 6 with (go_at_call 76; refine (split_any s0 _ (by omega) (by omega)).mono ?_; rintro r u2 ⟨rfl, rfl⟩)
        refine wp_region_kept (by kernel_rfl) (by kernel_rfl) ?_
        repeat (go_big_quiet_step ((first | (go_at_call 71; exact KeptW.calls (IH.out _)) | (go_at_call 99; exact KeptW.calls (l2NodeSum_any cv v _ hbd.1 (by omega) hlast.1 (by omega))))))
        refine wpQuiet_nil ?_
        rintro _ ⟨d, rfl⟩
        go_wp2
        go_ret
        exact ⟨rfl, d.hb⟩
      · have EQ : Hid (clM nS l a0 s0 p = nS v (clM nS l (a0 - splN s0) (s0 - splN s0) (p.take m))) := by
          show _ = _
          rw [clM_hi nS p hs' ha, hdl, hgl]
        have hbd := clM_bd _ l (a0 - splN s0) (s0 - splN s0) (p.take m) (Nat.le_refl _) l0 l1
        have IH : Hid (∀ d : KeptW w, Calls Tryd.prog 71 #[.int .i64 l, .int .i64 (a0 - splN s0), .int .i64 (s0 - splN s0), .slice (some ⟨b1, o1, none⟩) m c] d.wd fun r w' => r = .returned (.int .i64 (clM nS l (a0 - splN s0) (s0 - splN s0) (p.take m))) ∧ Below d.wd.heap.size d.wd w') := by
          intro d
          have := ih l (a0 - splN s0) (s0 - splN s0) (some ⟨b1, o1, none⟩) c (p.take m) d.wd (by omega) l0 l1 (by omega) (by omega) (by omega) (by rw [hil]; rw [stN_hi hs' ha] at hlen; omega) (allS_take hall m) (hi.below d.hb (Nat.le_refl _)) (by omega) (by unfold maxLen; omega)
          rw [hil] at this
          exact this
        generalize clM nS l (a0 - splN s0) (s0 - splN s0) (p.take m) = cv at EQ hbd IH
        have hm2 : (m : Int) ≤ c := by omega
        rw [EQ.out, hm1]
        have hc' : m + 1 ≤ c := by omega
        clear EQ hv hdl hgl hi hil hcell e1 hall hp hlen hc hpos ih hm1
        go_enter Tryd.func71, Tryd.ntmps71
        go_upto_region 7 with (go_at_call 76; refine (split_any s0 _ (by omega) (by omega)).mono ?_; rintro r u2 ⟨rfl, rfl⟩)
        refine wp_region_kept (by kernel_rfl) (by kernel_rfl) ?_
        repeat (go_big_quiet_step ((first | (go_at_call 71; exact KeptW.calls (IH.out _)) | (go_at_call 99; exact KeptW.calls (l2NodeSum_any v cv _ hlast.1 (by omega) hbd.1 (by omega))))))
        refine wpQuiet_nil ?_
        rintro _ ⟨d, rfl⟩
        go_wp2
        go_ret
        exact ⟨rfl, d.hb⟩

end Go.Proofs.YtkjhcblfkpknlaaDoor

namespace Go.Proofs.YtkjhcblfkpknlaaDoor
open Go.ChangeShapes Go.WideShapes Go.ChangeAt Go.RowKit
set_option linter.unusedVariables false
set_option linter.unusedSimpArgs false

/-- What RootOf tells. -/
def rtV (zs : List Int) : Int := if lvF zs = 0 then rtM nS 11 zs else 0
/-- The code of PathOf. -/
def ptC (zs : List Int) (a : Int) : Int := if lvF zs = 0 then (if 0 ≤ a ∧ a < zs.length then 0 else 3) else lvF zs
/-- The list of PathOf. -/
def ptL (zs : List Int) (a : Int) : List Int := if lvF zs = 0 ∧ 0 ≤ a ∧ a < zs.length then ptM nS 11 zs a else []
theorem lvF_zero {zs : List Int} (h : lvF zs = 0) : zs.length ≤ 24 ∧ allS zs = true := by
  unfold lvF at h
  split at h
  · omega
  · split at h
    · exact ⟨by omega, ‹_›⟩
    · omega
theorem rtM_bd (n : Nat) : ∀ zs : List Int, zs.length ≤ n → allS zs = true → 0 ≤ rtM nS 11 zs ∧ rtM nS 11 zs ≤ 65520 := by
  intro zs _ hall
  by_cases h : zs.length ≤ 1
  · rw [rtM_le nS 11 h]
    cases zs with
    | nil => simp
    | cons y ys => exact allS_get hall 0 (by simp)
  · rw [rtM_gt nS 11 (by omega)]; exact nS_bd _ _
theorem allS_app {xs : List Int} {y : Int} (h : allS xs = true) (h0 : 0 ≤ y) (h1 : y ≤ 65520) : allS (xs ++ [y]) = true := by
  unfold allS at *
  simp at h ⊢
  exact ⟨h, h0, h1⟩
theorem ptM_all (n : Nat) : ∀ (zs : List Int) (a : Int), zs.length ≤ n → allS zs = true → allS (ptM nS 11 zs a) = true := by
  induction n with
  | zero => intro zs a h _; rw [ptM_le nS 11 a (by omega)]; rfl
  | succ n ih =>
    intro zs a h hall
    by_cases h1 : zs.length ≤ 1
    · rw [ptM_le nS 11 a h1]; rfl
    · have hp := splN_pos (zs.length : Int)
      have hlt := splN_lt (n := (zs.length : Int)) (by omega)
      by_cases h0 : a < splN zs.length
      · rw [ptM_lo nS 11 (by omega) h0]
        have hb := rtM_bd _ _ (Nat.le_refl _) (allS_drop hall (splN zs.length).toNat)
        exact allS_app (ih _ _ (by simp; omega) (allS_take hall _)) hb.1 hb.2
      · rw [ptM_hi nS 11 (by omega) h0]
        have hb := rtM_bd _ _ (Nat.le_refl _) (allS_take hall (splN zs.length).toNat)
        exact allS_app (ih _ _ (by simp; omega) (allS_drop hall _)) hb.1 hb.2
theorem ptM_len (f : Int → Int → Int) (e : Int) (n : Nat) : ∀ (xs : List Int) (a : Int), xs.length ≤ n → (ptM f e xs a).length ≤ xs.length := by
  induction n with
  | zero => intro xs a h; rw [ptM_le f e a (by omega)]; simp
  | succ n ih =>
    intro xs a h
    by_cases h1 : xs.length ≤ 1
    · rw [ptM_le f e a h1]; simp
    · have hp := splN_pos (xs.length : Int)
      have hlt := splN_lt (n := (xs.length : Int)) (by omega)
      by_cases h0 : a < splN xs.length
      · rw [ptM_lo f e (by omega) h0]
        have := ih (xs.take (splN xs.length).toNat) a (by simp; omega)
        simp at this ⊢
        omega
      · rw [ptM_hi f e (by omega) h0]
        have := ih (xs.drop (splN xs.length).toNat) (a - splN xs.length) (by simp; omega)
        simp at this ⊢
        omega
theorem allS_wf {zs : List Int} (h : allS zs = true) : ∀ n ∈ zs, (Lit.int .i64 n).wf = true := by
  intro n hn
  unfold allS at h
  rw [List.all_eq_true] at h
  have := h n hn
  simp at this
  exact WalkArith.wf_i64 (by omega)
theorem ptL_len (zs : List Int) (a : Int) : (ptL zs a).length ≤ 24 := by
  unfold ptL
  split
  · rename_i h
    have := ptM_len nS 11 _ zs a (Nat.le_refl _)
    have := (lvF_zero h.1).1
    omega
  · simp
theorem ptL_wf (zs : List Int) (a : Int) : ∀ n ∈ ptL zs a, (Lit.int .i64 n).wf = true := by
  unfold ptL
  split
  · rename_i h
    exact allS_wf (ptM_all _ zs a (Nat.le_refl _) (lvF_zero h.1).2)
  · simp

end Go.Proofs.YtkjhcblfkpknlaaDoor

namespace Go.Proofs.YtkjhcblfkpknlaaDoor
open Go.ChangeShapes Go.WideShapes Go.ChangeAt Go.RowKit
set_option linter.unusedVariables false
set_option linter.unusedSimpArgs false

/-- The code of GrowthOf. -/
def gwC (zs : List Int) (s : Int) : Int := if lvF zs = 0 then (if 1 ≤ s ∧ s ≤ zs.length then 0 else 3) else lvF zs
/-- The list of GrowthOf. -/
def gwL (zs : List Int) (s : Int) : List Int := if lvF zs = 0 ∧ 1 ≤ s ∧ s ≤ zs.length then grM nS 11 zs s true else []
/-- The code of GrowRoots. -/
def grC (s t root : Int) (p : List Int) : Int := if ((1 ≤ t ∧ t ≤ 24) ∧ 1 ≤ s ∧ s ≤ t) ∧ 0 ≤ root ∧ root ≤ 65520 then (if 6 < p.length then 2 else if allS p = true then (if p.length = gsN s t true then 0 else 8) else 3) else 3
/-- Old and New of GrowRoots. -/
def grV (s t root : Int) (p : List Int) : Int × Int := if grC s t root p = 0 then grR nS s t true root p else (0, 0)
/-- AcceptGrowth. -/
def agB (s first t second : Int) (p : List Int) : Bool := decide (grC s t first p = 0 ∧ (grV s t first p).1 = first ∧ (grV s t first p).2 = second)
theorem grM_all (n : Nat) : ∀ (zs : List Int) (s : Int) (wh : Bool), zs.length ≤ n → 1 ≤ s → s ≤ zs.length → allS zs = true → allS (grM nS 11 zs s wh) = true := by
  induction n with
  | zero => intro zs s wh h h1 h2; omega
  | succ n ih =>
    intro zs s wh h h1 h2 hall
    by_cases ho : s = zs.length
    · rw [grM_eq nS 11 wh ho]
      cases wh
      · have hb := rtM_bd _ zs (Nat.le_refl _) hall
        exact allS_app (xs := []) rfl hb.1 hb.2
      · rfl
    · have hp := splN_pos (zs.length : Int)
      have hlt := splN_lt (n := (zs.length : Int)) (by omega)
      by_cases h0 : s ≤ splN zs.length
      · rw [grM_lo nS 11 wh (by omega) h0]
        have hb := rtM_bd _ _ (Nat.le_refl _) (allS_drop hall (splN zs.length).toNat)
        exact allS_app (ih _ _ _ (by simp; omega) h1 (by simp; omega) (allS_take hall _)) hb.1 hb.2
      · rw [grM_hi nS 11 wh (by omega) h0 (by omega)]
        have hb := rtM_bd _ _ (Nat.le_refl _) (allS_take hall (splN zs.length).toNat)
        exact allS_app (ih _ _ _ (by simp; omega) (by omega) (by simp; omega) (allS_drop hall _)) hb.1 hb.2
theorem lvF_take {zs : List Int} (h : lvF zs = 0) (k : Nat) : lvF (zs.take k) = 0 := by
  obtain ⟨h24, hall⟩ := lvF_zero h
  unfold lvF
  rw [if_neg (by simp; omega), if_pos (allS_take hall k)]
/-- A growth is taken, and is as long as StepsOf says. -/
theorem grow_gw {zs : List Int} {s : Int} (h : lvF zs = 0) (h1 : 1 ≤ s) (h2 : s ≤ zs.length) : agB s (rtV (zs.take s.toNat)) zs.length (rtV zs) (gwL zs s) = true ∧ ((gwL zs s).length : Int) = spV s zs.length ∧ (gwL zs s).length ≤ 6 := by
  obtain ⟨h24, hall⟩ := lvF_zero h
  have hL : gwL zs s = grM nS 11 zs s true := by unfold gwL; rw [if_pos ⟨h, h1, h2⟩]
  have r1 : rtV (zs.take s.toNat) = rtM nS 11 (zs.take s.toNat) := by unfold rtV; rw [if_pos (lvF_take h _)]
  have r2 : rtV zs = rtM nS 11 zs := by unfold rtV; rw [if_pos h]
  obtain ⟨e1, e2⟩ := grM_main nS 11 _ zs s true (rtM nS 11 (zs.take s.toNat)) (Nat.le_refl _) (by omega) (by omega) h1 h2 (fun _ => rfl)
  have hb := gsN_bd 5 s zs.length true (by omega) h1 h2 (by have : (2 : Int) ^ 5 = 32 := by decide
                                                            omega)
  have hrb := rtM_bd _ _ (Nat.le_refl _) (allS_take hall s.toNat)
  have hga := grM_all _ zs s true (Nat.le_refl _) h1 h2 hall
  have hC : grC s zs.length (rtM nS 11 (zs.take s.toNat)) (grM nS 11 zs s true) = 0 := by
    unfold grC
    rw [if_pos ⟨⟨⟨by omega, by omega⟩, h1, h2⟩, hrb⟩, if_neg (by omega), if_pos hga, if_pos e1]
  rw [hL, r1, r2]
  refine ⟨?_, ?_, by omega⟩
  · unfold agB grV
    rw [if_pos hC, e2]
    simp [hC]
  · unfold spV
    rw [if_pos ⟨⟨by omega, by omega⟩, h1, h2⟩, e1]
theorem gwL_wf (zs : List Int) (s : Int) : ∀ n ∈ gwL zs s, (Lit.int .i64 n).wf = true := by
  unfold gwL
  split
  · rename_i h
    exact allS_wf (grM_all _ zs s true (Nat.le_refl _) h.2.1 h.2.2 (lvF_zero h.1).2)
  · intro n hn; simp at hn
/-- What comes of a path of sums is a sum. -/
theorem grR_bd (n : Nat) : ∀ (s t : Int) (wh : Bool) (r : Int) (p : List Int), t.toNat ≤ n → 1 ≤ s → s ≤ t → t ≤ 32 → (wh = true → 0 ≤ r ∧ r ≤ 65520) → p.length = gsN s t wh → allS p = true → (0 ≤ (grR nS s t wh r p).1 ∧ (grR nS s t wh r p).1 ≤ 65520) ∧ 0 ≤ (grR nS s t wh r p).2 ∧ (grR nS s t wh r p).2 ≤ 65520 := by
  induction n with
  | zero => intro s t wh r p h h1 h2; omega
  | succ n ih =>
    intro s t wh r p h h1 h2 h32 hr hl hall
    by_cases ho : s = t
    · rw [grR_eq nS wh _ _ ho]
      rw [gsN_eq wh ho] at hl
      cases wh
      · have hg := allS_get hall 0 (by simp at hl; omega)
        have e : p.getD 0 0 = p[0]'(by simp at hl; omega) := by rw [List.getD_eq_getElem?_getD, List.getElem?_eq_getElem (by simp at hl; omega)]; rfl
        simp only [Bool.false_eq_true, if_false, e]
        exact ⟨hg, hg⟩
      · exact ⟨hr rfl, hr rfl⟩
    · have hp := splN_pos t
      have hlt := splN_lt (n := t) (by omega)
      have hd : allS p.dropLast = true := by rw [List.dropLast_eq_take]; exact allS_take hall _
      by_cases h0 : s ≤ splN t
      · rw [grR_lo nS wh _ _ (by omega) h0]
        rw [gsN_lo wh (by omega) h0] at hl
        have := ih s (splN t) wh r p.dropLast (by omega) h1 h0 (by omega) hr (by simp; omega) hd
        exact ⟨this.1, nS_bd _ _⟩
      · rw [grR_hi nS wh _ _ (by omega) h0 (by omega)]
        exact ⟨nS_bd _ _, nS_bd _ _⟩

end Go.Proofs.YtkjhcblfkpknlaaDoor

namespace Go.Proofs.YtkjhcblfkpknlaaDoor
open Go.ChangeShapes Go.WideShapes Go.ChangeAt Go.RowKit
set_option linter.unusedVariables false
set_option linter.unusedSimpArgs false

/-- The code of a climb. -/
def clC (l a s : Int) (p : List Int) : Int := if (0 ≤ l ∧ l ≤ 65520) ∧ (1 ≤ s ∧ s ≤ 24) ∧ 0 ≤ a ∧ a < s then (if 6 < p.length then 2 else if allS p = true then (if p.length = stN a s then 0 else 8) else 3) else 3
/-- What a climb comes to. -/
def clV (l a s : Int) (p : List Int) : Int := if clC l a s p = 0 then clM nS l a s p else 0
theorem clC_bad {l a s : Int} {p : List Int} (h : ¬ ((0 ≤ l ∧ l ≤ 65520) ∧ (1 ≤ s ∧ s ≤ 24) ∧ 0 ≤ a ∧ a < s)) : clC l a s p = 3 := by unfold clC; rw [if_neg h]
theorem clC_many {l a s : Int} {p : List Int} (h : (0 ≤ l ∧ l ≤ 65520) ∧ (1 ≤ s ∧ s ≤ 24) ∧ 0 ≤ a ∧ a < s) (h6 : 6 < p.length) : clC l a s p = 2 := by unfold clC; rw [if_pos h, if_pos h6]
theorem clC_sum {l a s : Int} {p : List Int} (h : (0 ≤ l ∧ l ≤ 65520) ∧ (1 ≤ s ∧ s ≤ 24) ∧ 0 ≤ a ∧ a < s) (h6 : ¬ 6 < p.length) (ha : allS p = false) : clC l a s p = 3 := by unfold clC; rw [if_pos h, if_neg h6, ha]; rfl
theorem clC_len {l a s : Int} {p : List Int} (h : (0 ≤ l ∧ l ≤ 65520) ∧ (1 ≤ s ∧ s ≤ 24) ∧ 0 ≤ a ∧ a < s) (h6 : ¬ 6 < p.length) (ha : allS p = true) : clC l a s p = if p.length = stN a s then 0 else 8 := by unfold clC; rw [if_pos h, if_neg h6, ha]; rfl
theorem clV_of {l a s : Int} {p : List Int} (h : clC l a s p ≠ 0) : clV l a s p = 0 := by unfold clV; rw [if_neg h]

set_option maxHeartbeats 2000000 in
theorem l4Asked_any (l a s : Int) (x : Option Addr) (c : Nat) (p : List Int) (w : World) (hp : Has w .i64 x p.length p) (hl : p.length ≤ 1048576) (hs : -9223372036854775808 ≤ s ∧ s ≤ 9223372036854775807) :
    Calls Tryd.prog 70 #[.int .i64 l, .int .i64 a, .int .i64 s, .slice x p.length c] w fun r w' => r = .returned (.int .i64 (clC l a s p)) ∧ w' = w := by
  by_cases h1 : 0 ≤ l ∧ l ≤ 65520
  · have d1 : decide (0 ≤ l ∧ l ≤ 65520) = true := by simpa using h1
    by_cases h2 : 1 ≤ s ∧ s ≤ 24
    · have d2 : decide (1 ≤ s ∧ s ≤ 24) = true := by simpa using h2
      by_cases h3 : 0 ≤ a ∧ a < s
      · have d3 : decide (0 ≤ a ∧ a ≤ s - 1) = true := by simp; omega
        have hall : (0 ≤ l ∧ l ≤ 65520) ∧ (1 ≤ s ∧ s ≤ 24) ∧ 0 ≤ a ∧ a < s := ⟨h1, h2, h3⟩
        by_cases h6 : 6 < p.length
        · have h6' : (6 : Int) < (p.length : Int) := by omega
          rw [clC_many hall h6]
          clear hall
          go_enter Tryd.func70, Tryd.ntmps70
          go_wp2_with (first | (go_at_call 87; refine (l2Is_any l _).mono ?_; rintro r u ⟨rfl, rfl⟩; rw [d1]) | (go_at_call 75; refine (in_any _ _ _ _).mono ?_; rintro r u ⟨rfl, rfl⟩; first | rw [d2] | rw [d3]))
          go_ret
          exact ⟨rfl, rfl⟩
        · have h6' : ¬ (6 : Int) < (p.length : Int) := by omega
          cases ha : allS p
          · rw [clC_sum hall h6 ha]
            clear hall
            go_enter Tryd.func70, Tryd.ntmps70
            go_wp2_with (first | (go_at_call 87; refine (l2Is_any l _).mono ?_; rintro r u ⟨rfl, rfl⟩; rw [d1]) | (go_at_call 75; refine (in_any _ _ _ _).mono ?_; rintro r u ⟨rfl, rfl⟩; first | rw [d2] | rw [d3]) | (go_at_call 88; refine (l1All_any _ _ p _ hp hl).mono ?_; rintro r u ⟨rfl, rfl⟩; rw [ha]))
            go_ret
            exact ⟨rfl, rfl⟩
          · rw [clC_len hall h6 ha]
            have hN : (stN a s) ≤ 5 := stN_bd _ a s (Nat.le_refl _) (by omega) (by omega) (by omega)
            clear hall
            by_cases hst : p.length = stN a s
            · rw [if_pos hst]
              have hst' : ((p.length : Int) != (stN a s : Int)) = false := by simp [hst]
              clear hst
              go_enter Tryd.func70, Tryd.ntmps70
              go_wp2_with (first | (go_at_call 87; refine (l2Is_any l _).mono ?_; rintro r u ⟨rfl, rfl⟩; rw [d1]) | (go_at_call 75; refine (in_any _ _ _ _).mono ?_; rintro r u ⟨rfl, rfl⟩; first | rw [d2] | rw [d3]) | (go_at_call 88; refine (l1All_any _ _ p _ hp hl).mono ?_; rintro r u ⟨rfl, rfl⟩; rw [ha]) | (go_at_call 100; refine (l4Steps_any a s _ (by omega) (by omega) (by omega)).mono ?_; rintro r u ⟨rfl, rfl⟩))
              go_ret
              exact ⟨rfl, rfl⟩
            · rw [if_neg hst]
              have hst' : ((p.length : Int) != (stN a s : Int)) = true := by simp; omega
              clear hst
              go_enter Tryd.func70, Tryd.ntmps70
              go_wp2_with (first | (go_at_call 87; refine (l2Is_any l _).mono ?_; rintro r u ⟨rfl, rfl⟩; rw [d1]) | (go_at_call 75; refine (in_any _ _ _ _).mono ?_; rintro r u ⟨rfl, rfl⟩; first | rw [d2] | rw [d3]) | (go_at_call 88; refine (l1All_any _ _ p _ hp hl).mono ?_; rintro r u ⟨rfl, rfl⟩; rw [ha]) | (go_at_call 100; refine (l4Steps_any a s _ (by omega) (by omega) (by omega)).mono ?_; rintro r u ⟨rfl, rfl⟩))
              go_ret
              exact ⟨rfl, rfl⟩
      · have d3 : decide (0 ≤ a ∧ a ≤ s - 1) = false := by simp; omega
        rw [clC_bad (fun h => h3 h.2.2)]
        clear h3
        go_enter Tryd.func70, Tryd.ntmps70
        go_wp2_with (first | (go_at_call 87; refine (l2Is_any l _).mono ?_; rintro r u ⟨rfl, rfl⟩; rw [d1]) | (go_at_call 75; refine (in_any _ _ _ _).mono ?_; rintro r u ⟨rfl, rfl⟩; first | rw [d2] | rw [d3]))
        go_ret
        exact ⟨rfl, rfl⟩
    · have d2 : decide (1 ≤ s ∧ s ≤ 24) = false := by simpa using h2
      rw [clC_bad (fun h => h2 h.2.1)]
      clear h2
      go_enter Tryd.func70, Tryd.ntmps70
      go_wp2_with (first | (go_at_call 87; refine (l2Is_any l _).mono ?_; rintro r u ⟨rfl, rfl⟩; rw [d1]) | (go_at_call 75; refine (in_any _ _ _ _).mono ?_; rintro r u ⟨rfl, rfl⟩; rw [d2]))
      go_ret
      exact ⟨rfl, rfl⟩
  · have d1 : decide (0 ≤ l ∧ l ≤ 65520) = false := by simpa using h1
    rw [clC_bad (fun h => h1 h.1)]
    clear h1
    go_enter Tryd.func70, Tryd.ntmps70
    go_wp2_with (go_at_call 87; refine (l2Is_any l _).mono ?_; rintro r u ⟨rfl, rfl⟩; rw [d1])
    go_ret
    exact ⟨rfl, rfl⟩

theorem clC_zero {l a s : Int} {p : List Int} (h : clC l a s p = 0) : ((0 ≤ l ∧ l ≤ 65520) ∧ (1 ≤ s ∧ s ≤ 24) ∧ 0 ≤ a ∧ a < s) ∧ allS p = true ∧ p.length = stN a s := by
  unfold clC at h
  split at h
  · split at h
    · omega
    · split at h
      · split at h
        · exact ⟨‹_›, ‹_›, ‹_›⟩
        · omega
      · omega
  · omega

set_option maxHeartbeats 2000000 in
theorem specClimb_any (l a s : Int) (x : Option Addr) (c : Nat) (p : List Int) (w : World) (hp : Has w .i64 x p.length p) (hl : p.length ≤ 1048576) (hc : p.length ≤ c) (hm : c ≤ maxLen) (hs : -9223372036854775808 ≤ s ∧ s ≤ 9223372036854775807) :
    Calls Tryd.prog 19 #[.int .i64 l, .int .i64 a, .int .i64 s, .slice x p.length c] w fun r w' => r = .returned (.agg #[.int .i64 (clC l a s p), .int .i64 (clV l a s p)]) ∧ Below w.heap.size w w' := by
  by_cases h0 : clC l a s p = 0
  · have hV : clV l a s p = clM nS l a s p := by unfold clV; rw [if_pos h0]
    obtain ⟨⟨g1, g2, g3⟩, ga, gl⟩ := clC_zero h0
    have H0 : Hid (clC l a s p = 0) := h0
    rw [hV, h0]
    clear hV h0
    have GL : Hid (p.length = stN a s) := gl
    clear gl
    go_enter Tryd.func19, Tryd.ntmps19
    go_wp2_with fail
    refine (l4Asked_any l a s x c p _ (hp.alloc _) hl hs).mono ?_
    rintro r u ⟨rfl, rfl⟩
    rw [H0.out]
    go_wp2_with fail
    refine (l4Climb_any _ l a s x c p _ (Nat.le_refl _) g1.1 g1.2 g3.1 g3.2 (by omega) GL.out ga (hp.alloc _) hc hm).mono ?_
    rintro r u ⟨rfl, hb1⟩
    obtain ⟨hc1, hf1⟩ := bcell hb1
    have hz1 := hb1.size
    simp at hz1
    go_wp2
    refine bodyPost_ret (v := .agg #[.int .i64 0, .int .i64 (clM nS l a s p)]) (by simp [results, Tryd.results19, go_sem, hc1]) rfl ⟨rfl, ?_⟩
    repeat (first | exact Below.refl _ _ | (refine Below.alloc ?_ (by (try simp) <;> omega) _) | (refine Below.setCell ?_ (by (try simp) <;> omega) _) | (refine Below.trans ?_ (hb1.mono (by (try simp) <;> omega))))
  · rw [clV_of h0]
    have h0' : (clC l a s p != 0) = true := by simpa using h0
    generalize hcc : clC l a s p = cc at *
    have HC : Hid (clC l a s p = cc) := hcc
    clear hcc
    go_enter Tryd.func19, Tryd.ntmps19
    go_wp2_with fail
    refine (l4Asked_any l a s x c p _ (hp.alloc _) hl hs).mono ?_
    rintro r u ⟨rfl, rfl⟩
    rw [HC.out]
    go_wp2
    refine bodyPost_ret (v := .agg #[.int .i64 cc, .int .i64 0]) (by simp [results, Tryd.results19, go_sem]) rfl ⟨rfl, ?_⟩
    repeat (first | exact Below.refl _ _ | (refine Below.alloc ?_ (by (try simp) <;> omega) _) | (refine Below.setCell ?_ (by (try simp) <;> omega) _))

end Go.Proofs.YtkjhcblfkpknlaaDoor
