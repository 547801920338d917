/- What LeafClash finds is a clash; its contract speaks of what was copied. -/
import Derived.Test.YtklhkhlmhddmcaaDoorExc
import Derived.Test.YtklhkhlmhddmcaaDoorExt6V
namespace Go.Proofs.YtklhkhlmhddmcaaDoor
open Go.ChangeShapes Go.WideShapes Go.ChangeAt Go.RowKit
set_option linter.unusedVariables false
set_option linter.unusedSimpArgs false

theorem lkC_parts {rs : List Pc} {a : Int} {ds p : List Int} (h : lkC rs a ds p = 0) : pcF rs = 0 ∧ ds.length ≤ 250 ∧ clC (sumL (leafL ds)) a rs.length p = 0 ∧ clM nS (sumL (leafL ds)) a rs.length p = rtM nS 11 (smL rs) := by
  unfold lkC at h
  split at h
  · split at h
    · omega
    · split at h
      · split at h
        · exact ⟨‹_›, by omega, ‹_›, ‹_›⟩
        · omega
      · exact absurd h ‹_›
  · exact absurd h ‹_›
theorem leaf_isCl {xs ys : List Int} {x : List Int × List Int} (h : lookC (leafL xs) (leafL ys) = some x) (h1 : xs.length ≤ 250) (h2 : ys.length ≤ 250) (w1 : ∀ n ∈ xs, (Lit.int .u8 n).wf = true) (w2 : ∀ n ∈ ys, (Lit.int .u8 n).wf = true) : isCl x := by
  unfold lookC at h
  split at h
  · cases h
    exact ⟨‹_›, by simp [leafL]; omega, by simp [leafL]; omega, leaf_wf w1, leaf_wf w2⟩
  · cases h
theorem lkX_some (rs : List Pc) (a : Int) (ds p : List Int) (wd : ∀ n ∈ ds, (Lit.int .u8 n).wf = true) (wr : ∀ r ∈ rs, ∀ n ∈ r.zs, (Lit.int .u8 n).wf = true) : ∀ x, lkX rs a ds p = some x → isCl x := by
  intro x h
  unfold lkX at h
  split at h
  · obtain ⟨h0, h1, h2, _⟩ := lkC_parts ‹_›
    obtain ⟨g24, g250⟩ := pcF_zero h0
    obtain ⟨m1, m2, m3, m4, m5, m6⟩ := clC_ok h2
    have hl := smL_len rs
    rcases or_some h with h | h
    · exact lfC_some _ (smL rs) a _ p (Nat.le_refl _) (by omega) m3.1 (by omega) (by rw [hl]; exact m4) (smL_all rs) m5 (sum_bd _) x h
    · obtain ⟨j, hj⟩ : ∃ j : Nat, a = j := ⟨a.toNat, by omega⟩
      subst hj
      have hjl : j < rs.length := by omega
      have e : (rs.map Pc.zs).getD (j : Int).toNat [] = rs[j].zs := by simp [List.getD, hjl]
      rw [e] at h
      exact leaf_isCl h h1 (g250 _ (List.getElem_mem hjl)) wd (wr _ (List.getElem_mem hjl))
  · cases h
theorem lkC_zs {rs qs : List Pc} (h : qs.map Pc.zs = rs.map Pc.zs) (a : Int) (ds p : List Int) : lkC qs a ds p = lkC rs a ds p := by unfold lkC; rw [pcF_zs h, smL_zs h, zs_len h]
theorem lkX_zs {rs qs : List Pc} (h : qs.map Pc.zs = rs.map Pc.zs) (a : Int) (ds p : List Int) : lkX qs a ds p = lkX rs a ds p := by unfold lkX; rw [lkC_zs h, smL_zs h, h]
/-- A contract that speaks of a copy speaks of what was copied. -/
theorem lk_of {rs qs : List Pc} (e : qs.map Pc.zs = rs.map Pc.zs) {f : Nat} {p q t : Option Addr} {a : Int} {ds ps : List Int} {x : World} (h : Calls Tryd.prog f #[.slice p qs.length rs.length, .int .i64 a, .slice q ds.length ds.length, .slice t ps.length ps.length] x fun r w' => ∃ a1 c1 a2 c2, r = .returned (.agg #[.int .i64 (lkC qs a ds ps), .bool (lkX qs a ds ps).isSome, .slice a1 (clA (lkX qs a ds ps)).length c1, .slice a2 (clB (lkX qs a ds ps)).length c2]) ∧ OwnC w' x.heap.size a1 a2 c1 c2 (clA (lkX qs a ds ps)) (clB (lkX qs a ds ps)) ∧ Below x.heap.size x w') :
    Calls Tryd.prog f #[.slice p rs.length rs.length, .int .i64 a, .slice q ds.length ds.length, .slice t ps.length ps.length] x fun r w' => ∃ a1 c1 a2 c2, r = .returned (.agg #[.int .i64 (lkC rs a ds ps), .bool (lkX rs a ds ps).isSome, .slice a1 (clA (lkX rs a ds ps)).length c1, .slice a2 (clB (lkX rs a ds ps)).length c2]) ∧ OwnC w' x.heap.size a1 a2 c1 c2 (clA (lkX rs a ds ps)) (clB (lkX rs a ds ps)) ∧ Below x.heap.size x w' := by
  rw [lkC_zs e, lkX_zs e, zs_len e] at h
  exact h

end Go.Proofs.YtklhkhlmhddmcaaDoor
