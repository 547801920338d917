/- What the check of a leaf and the search for a clash have to do with each other. -/
import Derived.Test.YtklhkhlmhddmcaaDoorLkX
import Derived.Test.YtklhkhlmhddmcaaDoorAccept4
import Derived.Test.YtklhkhlmhddmcaaDoorIRootP
import Derived.Test.YtklhkhlmhddmcaaDoorToClash
import Derived.Test.YtklhkhlmhddmcaaDoorSums6
namespace Go.Proofs.YtklhkhlmhddmcaaDoor
open Go.ChangeShapes Go.WideShapes Go.ChangeAt Go.RowKit
set_option linter.unusedVariables false
set_option linter.unusedSimpArgs false

theorem lvF_ofT {zs : List Int} (h : zs.length ≤ 24) (ha : allS zs = true) : lvF zs = 0 := by
  unfold lvF; rw [if_neg (by omega), if_pos ha]
theorem lwBytesT_any (a b : Option Addr) (ca cb : Nat) (zs ys : List Int) (w : World) (ha : Has w .u8 a zs.length zs) (hb : Has w .u8 b ys.length ys) :
    Calls Tryd.prog 23 #[.slice a zs.length ca, .slice b ys.length cb] w fun r w' => r = .returned (.bool (decide (zs = ys))) ∧ w' = w := by
  have s1 := ha.str ca
  have s2 := hb.str cb
  have hst := str_beq ha.2.1 hb.2.1
  have HS : Hid (_) := hst
  clear hst
  go_enter Tryd.func23, Tryd.ntmps23
  go_wp2
  go_ret
  exact ⟨ret_bool HS.out, rfl⟩
theorem lk_ab {rs : List Pc} {a : Int} {ds p : List Int} (hp : pcF rs = 0) (hd : ds.length ≤ 250) : lkC rs a ds p = 0 ↔ acB ds a rs.length p (rtV (psL rs)) = true := by
  have h1 : leafC ds = 0 := by unfold leafC; rw [if_neg (by omega)]
  have h2 : leafV ds = sumL (leafL ds) := by unfold leafV; rw [if_neg (by omega)]
  have h3 : psL rs = smL rs := by unfold psL; rw [if_pos hp]
  have h4 : rtV (smL rs) = rtM nS 11 (smL rs) := by unfold rtV; rw [if_pos (lvF_ofT (by rw [smL_len]; exact (pcF_zero hp).1) (smL_all rs))]
  unfold acB
  rw [h1, h2, h3, h4]
  constructor
  · intro h
    obtain ⟨_, _, g1, g2⟩ := lkC_parts h
    exact decide_eq_true ⟨rfl, g1, by unfold clV; rw [if_pos g1]; exact g2⟩
  · intro h
    obtain ⟨_, g1, g2⟩ := of_decide_eq_true h
    unfold clV at g2
    rw [if_pos g1] at g2
    unfold lkC
    rw [if_pos hp, if_neg (by omega), if_pos g1, if_pos g2]
theorem lk_true {rs : List Pc} {a : Int} {ds p : List Int} (h : lkC rs a ds p = 0) (hX : lkX rs a ds p = none) : ds = (rs.map Pc.zs).getD a.toNat [] := by
  obtain ⟨h0, h1, h2, h3⟩ := lkC_parts h
  obtain ⟨_, m2, m3, _, _, _⟩ := clC_ok h2
  unfold lkX at hX
  rw [if_pos h] at hX
  obtain ⟨g1, g2⟩ := or_none hX
  have hl := smL_len rs
  have e := lfC_true _ (smL rs) a (sumL (leafL ds)) p (Nat.le_refl _) (by omega) m3.1 (by omega) (by rw [hl]; exact h3) g1
  obtain ⟨j, hj⟩ : ∃ j : Nat, a = j := ⟨a.toNat, by omega⟩
  subst hj
  have hjl : j < rs.length := by omega
  have e2 : (rs.map Pc.zs).getD (j : Int).toNat [] = rs[j].zs := by simp [List.getD, hjl]
  have e3 : (smL rs).getD (j : Int).toNat 0 = sumL (leafL rs[j].zs) := by simp [List.getD, smL, hjl]
  rw [e2] at g2 ⊢
  rw [e3] at e
  exact leaf_inj (lookC_none g2 e.symm)
theorem lk_at {rs : List Pc} {a : Int} {ds p : List Int} (h : lkC rs a ds p = 0) : 0 ≤ a ∧ a < rs.length := by
  obtain ⟨_, _, h2, _⟩ := lkC_parts h
  obtain ⟨_, _, m3, _, _, _⟩ := clC_ok h2
  exact m3
theorem pcF_of {rs : List Pc} (h : rs.length ≤ 24) (hz : ∀ r ∈ rs, r.zs.length ≤ 250) : pcF rs = 0 := by
  unfold pcF
  rw [if_neg (by omega), if_pos (by rw [List.all_eq_true]; intro r hr; exact decide_eq_true (hz r hr))]

end Go.Proofs.YtklhkhlmhddmcaaDoor
