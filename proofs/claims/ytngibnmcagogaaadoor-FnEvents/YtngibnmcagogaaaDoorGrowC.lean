/- Contracts: the model's climbing of a path. What RootOf and PathOf come to, plain. What chapter 5's functions come to, plain: GrowthOf, StepsOf, GrowRoots, AcceptGrowth; and that a growth is taken. Contracts: the model's ClimbPath. -/
import Derived.Test.YtngibnmcagogaaaDoorSplit
import Derived.Test.YtngibnmcagogaaaDoorGrowD
import Derived.Test.YtngibnmcagogaaaDoorPiece
import Derived.Test.YtngibnmcagogaaaDoorKeep
namespace Go.Proofs.YtngibnmcagogaaaDoor
open Go.ChangeShapes Go.WideShapes Go.ChangeAt Go.RowKit
set_option linter.unusedVariables false
set_option linter.unusedSimpArgs false

/-- The sum of a node. -/
def nS (a b : Int) : Int := sumL (nodeL a b)
theorem nS_bd (a b : Int) : 0 ≤ nS a b ∧ nS a b ≤ 65520 := sum_bd _
theorem clM_bd (n : Nat) : ∀ (l a s : Int) (p : List Int), s.toNat ≤ n → 0 ≤ l → l ≤ 65520 → 0 ≤ clM nS l a s p ∧ clM nS l a s p ≤ 65520 := by
  intro l a s p _ h0 h1
  rw [clM]
  split
  · exact ⟨h0, h1⟩
  · split
    · exact nS_bd _ _
    · exact nS_bd _ _

theorem Has.init {w : World} {k : IntKind} {a : Option Addr} {zs : List Int} (h : Has w k a zs.length zs) (n : Nat) (hn : n ≤ zs.length) : Has w k a (zs.take n).length (zs.take n) := by
  refine ⟨rfl, fun x hx => h.2.1 x (List.mem_of_mem_take hx), ?_⟩
  rcases h.2.2 with c | ⟨b', off', e, hlt, hc⟩
  · exact .inl (by simp; omega)
  · refine .inr ⟨b', off', e, hlt, fun j hj => ?_⟩
    simp at hj
    rw [hc j (by omega)]
    simp [List.getD, List.getElem?_take, show j < n by omega]

end Go.Proofs.YtngibnmcagogaaaDoor

namespace Go.Proofs.YtngibnmcagogaaaDoor
open Go.ChangeShapes Go.WideShapes Go.ChangeAt Go.RowKit
set_option linter.unusedVariables false
set_option linter.unusedSimpArgs false

/-- What RootOf tells. -/
def rtV (zs : List Int) : Int := if lvF zs = 0 then rtM nS 11 zs else 0
/-- The code of PathOf. -/
def ptC (zs : List Int) (a : Int) : Int := if lvF zs = 0 then (if 0 ≤ a ∧ a < zs.length then 0 else 3) else lvF zs
/-- The list of PathOf. -/
def ptL (zs : List Int) (a : Int) : List Int := if lvF zs = 0 ∧ 0 ≤ a ∧ a < zs.length then ptM nS 11 zs a else []
theorem lvF_zero {zs : List Int} (h : lvF zs = 0) : zs.length ≤ 24 ∧ allS zs = true := by
  unfold lvF at h
  split at h
  · omega
  · split at h
    · exact ⟨by omega, ‹_›⟩
    · omega
theorem rtM_bd (n : Nat) : ∀ zs : List Int, zs.length ≤ n → allS zs = true → 0 ≤ rtM nS 11 zs ∧ rtM nS 11 zs ≤ 65520 := by
  intro zs _ hall
  by_cases h : zs.length ≤ 1
  · rw [rtM_le nS 11 h]
    cases zs with
    | nil => simp
    | cons y ys => exact allS_get hall 0 (by simp)
  · rw [rtM_gt nS 11 (by omega)]; exact nS_bd _ _
theorem allS_app {xs : List Int} {y : Int} (h : allS xs = true) (h0 : 0 ≤ y) (h1 : y ≤ 65520) : allS (xs ++ [y]) = true := by
  unfold allS at *
  simp at h ⊢
  exact ⟨h, h0, h1⟩
theorem ptM_all (n : Nat) : ∀ (zs : List Int) (a : Int), zs.length ≤ n → allS zs = true → allS (ptM nS 11 zs a) = true := by
  induction n with
  | zero => intro zs a h _; rw [ptM_le nS 11 a (by omega)]; rfl
  | succ n ih =>
    intro zs a h hall
    by_cases h1 : zs.length ≤ 1
    · rw [ptM_le nS 11 a h1]; rfl
    · have hp := splN_pos (zs.length : Int)
      have hlt := splN_lt (n := (zs.length : Int)) (by omega)
      by_cases h0 : a < splN zs.length
      · rw [ptM_lo nS 11 (by omega) h0]
        have hb := rtM_bd _ _ (Nat.le_refl _) (allS_drop hall (splN zs.length).toNat)
        exact allS_app (ih _ _ (by simp; omega) (allS_take hall _)) hb.1 hb.2
      · rw [ptM_hi nS 11 (by omega) h0]
        have hb := rtM_bd _ _ (Nat.le_refl _) (allS_take hall (splN zs.length).toNat)
        exact allS_app (ih _ _ (by simp; omega) (allS_drop hall _)) hb.1 hb.2
theorem ptM_len (f : Int → Int → Int) (e : Int) (n : Nat) : ∀ (xs : List Int) (a : Int), xs.length ≤ n → (ptM f e xs a).length ≤ xs.length := by
  induction n with
  | zero => intro xs a h; rw [ptM_le f e a (by omega)]; simp
  | succ n ih =>
    intro xs a h
    by_cases h1 : xs.length ≤ 1
    · rw [ptM_le f e a h1]; simp
    · have hp := splN_pos (xs.length : Int)
      have hlt := splN_lt (n := (xs.length : Int)) (by omega)
      by_cases h0 : a < splN xs.length
      · rw [ptM_lo f e (by omega) h0]
        have := ih (xs.take (splN xs.length).toNat) a (by simp; omega)
        simp at this ⊢
        omega
      · rw [ptM_hi f e (by omega) h0]
        have := ih (xs.drop (splN xs.length).toNat) (a - splN xs.length) (by simp; omega)
        simp at this ⊢
        omega
theorem allS_wf {zs : List Int} (h : allS zs = true) : ∀ n ∈ zs, (Lit.int .i64 n).wf = true := by
  intro n hn
  unfold allS at h
  rw [List.all_eq_true] at h
  have := h n hn
  simp at this
  exact WalkArith.wf_i64 (by omega)
theorem ptL_len (zs : List Int) (a : Int) : (ptL zs a).length ≤ 24 := by
  unfold ptL
  split
  · rename_i h
    have := ptM_len nS 11 _ zs a (Nat.le_refl _)
    have := (lvF_zero h.1).1
    omega
  · simp
theorem ptL_wf (zs : List Int) (a : Int) : ∀ n ∈ ptL zs a, (Lit.int .i64 n).wf = true := by
  unfold ptL
  split
  · rename_i h
    exact allS_wf (ptM_all _ zs a (Nat.le_refl _) (lvF_zero h.1).2)
  · simp

end Go.Proofs.YtngibnmcagogaaaDoor

namespace Go.Proofs.YtngibnmcagogaaaDoor
open Go.ChangeShapes Go.WideShapes Go.ChangeAt Go.RowKit
set_option linter.unusedVariables false
set_option linter.unusedSimpArgs false

/-- The code of GrowthOf. -/
def gwC (zs : List Int) (s : Int) : Int := if lvF zs = 0 then (if 1 ≤ s ∧ s ≤ zs.length then 0 else 3) else lvF zs
/-- The list of GrowthOf. -/
def gwL (zs : List Int) (s : Int) : List Int := if lvF zs = 0 ∧ 1 ≤ s ∧ s ≤ zs.length then grM nS 11 zs s true else []
/-- The code of GrowRoots. -/
def grC (s t root : Int) (p : List Int) : Int := if ((1 ≤ t ∧ t ≤ 24) ∧ 1 ≤ s ∧ s ≤ t) ∧ 0 ≤ root ∧ root ≤ 65520 then (if 6 < p.length then 2 else if allS p = true then (if p.length = gsN s t true then 0 else 8) else 3) else 3
/-- Old and New of GrowRoots. -/
def grV (s t root : Int) (p : List Int) : Int × Int := if grC s t root p = 0 then grR nS s t true root p else (0, 0)
/-- AcceptGrowth. -/
def agB (s first t second : Int) (p : List Int) : Bool := decide (grC s t first p = 0 ∧ (grV s t first p).1 = first ∧ (grV s t first p).2 = second)
theorem grM_all (n : Nat) : ∀ (zs : List Int) (s : Int) (wh : Bool), zs.length ≤ n → 1 ≤ s → s ≤ zs.length → allS zs = true → allS (grM nS 11 zs s wh) = true := by
  induction n with
  | zero => intro zs s wh h h1 h2; omega
  | succ n ih =>
    intro zs s wh h h1 h2 hall
    by_cases ho : s = zs.length
    · rw [grM_eq nS 11 wh ho]
      cases wh
      · have hb := rtM_bd _ zs (Nat.le_refl _) hall
        exact allS_app (xs := []) rfl hb.1 hb.2
      · rfl
    · have hp := splN_pos (zs.length : Int)
      have hlt := splN_lt (n := (zs.length : Int)) (by omega)
      by_cases h0 : s ≤ splN zs.length
      · rw [grM_lo nS 11 wh (by omega) h0]
        have hb := rtM_bd _ _ (Nat.le_refl _) (allS_drop hall (splN zs.length).toNat)
        exact allS_app (ih _ _ _ (by simp; omega) h1 (by simp; omega) (allS_take hall _)) hb.1 hb.2
      · rw [grM_hi nS 11 wh (by omega) h0 (by omega)]
        have hb := rtM_bd _ _ (Nat.le_refl _) (allS_take hall (splN zs.length).toNat)
        exact allS_app (ih _ _ _ (by simp; omega) (by omega) (by simp; omega) (allS_drop hall _)) hb.1 hb.2
theorem lvF_take {zs : List Int} (h : lvF zs = 0) (k : Nat) : lvF (zs.take k) = 0 := by
  obtain ⟨h24, hall⟩ := lvF_zero h
  unfold lvF
  rw [if_neg (by simp; omega), if_pos (allS_take hall k)]
/-- A growth is taken, and is as long as StepsOf says. -/
theorem grow_gw {zs : List Int} {s : Int} (h : lvF zs = 0) (h1 : 1 ≤ s) (h2 : s ≤ zs.length) : agB s (rtV (zs.take s.toNat)) zs.length (rtV zs) (gwL zs s) = true ∧ ((gwL zs s).length : Int) = spV s zs.length ∧ (gwL zs s).length ≤ 6 := by
  obtain ⟨h24, hall⟩ := lvF_zero h
  have hL : gwL zs s = grM nS 11 zs s true := by unfold gwL; rw [if_pos ⟨h, h1, h2⟩]
  have r1 : rtV (zs.take s.toNat) = rtM nS 11 (zs.take s.toNat) := by unfold rtV; rw [if_pos (lvF_take h _)]
  have r2 : rtV zs = rtM nS 11 zs := by unfold rtV; rw [if_pos h]
  obtain ⟨e1, e2⟩ := grM_main nS 11 _ zs s true (rtM nS 11 (zs.take s.toNat)) (Nat.le_refl _) (by omega) (by omega) h1 h2 (fun _ => rfl)
  have hb := gsN_bd 5 s zs.length true (by omega) h1 h2 (by have : (2 : Int) ^ 5 = 32 := by decide
                                                            omega)
  have hrb := rtM_bd _ _ (Nat.le_refl _) (allS_take hall s.toNat)
  have hga := grM_all _ zs s true (Nat.le_refl _) h1 h2 hall
  have hC : grC s zs.length (rtM nS 11 (zs.take s.toNat)) (grM nS 11 zs s true) = 0 := by
    unfold grC
    rw [if_pos ⟨⟨⟨by omega, by omega⟩, h1, h2⟩, hrb⟩, if_neg (by omega), if_pos hga, if_pos e1]
  rw [hL, r1, r2]
  refine ⟨?_, ?_, by omega⟩
  · unfold agB grV
    rw [if_pos hC, e2]
    simp [hC]
  · unfold spV
    rw [if_pos ⟨⟨by omega, by omega⟩, h1, h2⟩, e1]
theorem gwL_wf (zs : List Int) (s : Int) : ∀ n ∈ gwL zs s, (Lit.int .i64 n).wf = true := by
  unfold gwL
  split
  · rename_i h
    exact allS_wf (grM_all _ zs s true (Nat.le_refl _) h.2.1 h.2.2 (lvF_zero h.1).2)
  · intro n hn; simp at hn
/-- What comes of a path of sums is a sum. -/
theorem grR_bd (n : Nat) : ∀ (s t : Int) (wh : Bool) (r : Int) (p : List Int), t.toNat ≤ n → 1 ≤ s → s ≤ t → t ≤ 32 → (wh = true → 0 ≤ r ∧ r ≤ 65520) → p.length = gsN s t wh → allS p = true → (0 ≤ (grR nS s t wh r p).1 ∧ (grR nS s t wh r p).1 ≤ 65520) ∧ 0 ≤ (grR nS s t wh r p).2 ∧ (grR nS s t wh r p).2 ≤ 65520 := by
  induction n with
  | zero => intro s t wh r p h h1 h2; omega
  | succ n ih =>
    intro s t wh r p h h1 h2 h32 hr hl hall
    by_cases ho : s = t
    · rw [grR_eq nS wh _ _ ho]
      rw [gsN_eq wh ho] at hl
      cases wh
      · have hg := allS_get hall 0 (by simp at hl; omega)
        have e : p.getD 0 0 = p[0]'(by simp at hl; omega) := by rw [List.getD_eq_getElem?_getD, List.getElem?_eq_getElem (by simp at hl; omega)]; rfl
        simp only [Bool.false_eq_true, if_false, e]
        exact ⟨hg, hg⟩
      · exact ⟨hr rfl, hr rfl⟩
    · have hp := splN_pos t
      have hlt := splN_lt (n := t) (by omega)
      have hd : allS p.dropLast = true := by rw [List.dropLast_eq_take]; exact allS_take hall _
      by_cases h0 : s ≤ splN t
      · rw [grR_lo nS wh _ _ (by omega) h0]
        rw [gsN_lo wh (by omega) h0] at hl
        have := ih s (splN t) wh r p.dropLast (by omega) h1 h0 (by omega) hr (by simp; omega) hd
        exact ⟨this.1, nS_bd _ _⟩
      · rw [grR_hi nS wh _ _ (by omega) h0 (by omega)]
        exact ⟨nS_bd _ _, nS_bd _ _⟩

end Go.Proofs.YtngibnmcagogaaaDoor

namespace Go.Proofs.YtngibnmcagogaaaDoor
open Go.ChangeShapes Go.WideShapes Go.ChangeAt Go.RowKit
set_option linter.unusedVariables false
set_option linter.unusedSimpArgs false

/-- The code of a climb. -/
def clC (l a s : Int) (p : List Int) : Int := if (0 ≤ l ∧ l ≤ 65520) ∧ (1 ≤ s ∧ s ≤ 24) ∧ 0 ≤ a ∧ a < s then (if 6 < p.length then 2 else if allS p = true then (if p.length = stN a s then 0 else 8) else 3) else 3
/-- What a climb comes to. -/
def clV (l a s : Int) (p : List Int) : Int := if clC l a s p = 0 then clM nS l a s p else 0
theorem clC_bad {l a s : Int} {p : List Int} (h : ¬ ((0 ≤ l ∧ l ≤ 65520) ∧ (1 ≤ s ∧ s ≤ 24) ∧ 0 ≤ a ∧ a < s)) : clC l a s p = 3 := by unfold clC; rw [if_neg h]
theorem clC_many {l a s : Int} {p : List Int} (h : (0 ≤ l ∧ l ≤ 65520) ∧ (1 ≤ s ∧ s ≤ 24) ∧ 0 ≤ a ∧ a < s) (h6 : 6 < p.length) : clC l a s p = 2 := by unfold clC; rw [if_pos h, if_pos h6]
theorem clC_sum {l a s : Int} {p : List Int} (h : (0 ≤ l ∧ l ≤ 65520) ∧ (1 ≤ s ∧ s ≤ 24) ∧ 0 ≤ a ∧ a < s) (h6 : ¬ 6 < p.length) (ha : allS p = false) : clC l a s p = 3 := by unfold clC; rw [if_pos h, if_neg h6, ha]; rfl
theorem clC_len {l a s : Int} {p : List Int} (h : (0 ≤ l ∧ l ≤ 65520) ∧ (1 ≤ s ∧ s ≤ 24) ∧ 0 ≤ a ∧ a < s) (h6 : ¬ 6 < p.length) (ha : allS p = true) : clC l a s p = if p.length = stN a s then 0 else 8 := by unfold clC; rw [if_pos h, if_neg h6, ha]; rfl
theorem clV_of {l a s : Int} {p : List Int} (h : clC l a s p ≠ 0) : clV l a s p = 0 := by unfold clV; rw [if_neg h]

theorem clC_zero {l a s : Int} {p : List Int} (h : clC l a s p = 0) : ((0 ≤ l ∧ l ≤ 65520) ∧ (1 ≤ s ∧ s ≤ 24) ∧ 0 ≤ a ∧ a < s) ∧ allS p = true ∧ p.length = stN a s := by
  unfold clC at h
  split at h
  · split at h
    · omega
    · split at h
      · split at h
        · exact ⟨‹_›, ‹_›, ‹_›⟩
        · omega
      · omega
  · omega

end Go.Proofs.YtngibnmcagogaaaDoor
