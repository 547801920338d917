/- Contracts: the model's PieceClash, whole. -/
import Derived.Test.YtklhkhlmhddmcaaDoorSPcL
namespace Go.Proofs.YtklhkhlmhddmcaaDoor
open Go.ChangeShapes Go.WideShapes Go.ChangeAt Go.RowKit
set_option linter.unusedVariables false
set_option linter.unusedSimpArgs false

theorem own_capsP {w : World} {base e n c : Nat} {a : Option Addr} {xs : List Value} (h : w.ownsRow base e 1 (.slice a n c) n xs) : n ≤ c ∧ c ≤ maxLen := by
  rcases h.2 with ⟨e1, h0⟩ | ⟨g, cap, cur, e1, _, _, h1, h2, _⟩
  · simp at e1
    omega
  · simp at e1
    obtain ⟨_, rfl⟩ := e1
    exact ⟨h1, h2⟩
theorem smL_wf (rs : List Pc) : ∀ n ∈ smL rs, (Lit.int .i64 n).wf = true := by
  intro n hn
  have ha := smL_all rs
  unfold allS at ha
  rw [List.all_eq_true] at ha
  have := ha n hn
  simp at this
  exact WalkArith.wf_i64 (by omega)
theorem smL_len24 {rs : List Pc} (h : pcF rs = 0) : (smL rs).length ≤ 24 := by rw [smL_len]; exact (pcF_zero h).1

/-- Where the code of PieceClash is 0 there are as many pieces in both. -/
theorem pkC_zero {rs qs : List Pc} (h : pkC rs qs = 0) : pcF rs = 0 ∧ pcF qs = 0 ∧ tkC (smL rs) (smL qs) = 0 ∧ rs.length = qs.length := by
  unfold pkC at h
  split at h
  · split at h
    · refine ⟨‹_›, ‹_›, h, ?_⟩
      have := (tkC_zero h).2.2.1
      rw [smL_len, smL_len] at this
      exact this
    · exact absurd h ‹_›
  · exact absurd h ‹_›

set_option maxHeartbeats 2000000 in
theorem specPieceClash_any (x y : Option Addr) (cx cy : Nat) (rs ts : List Pc) (w : World) (hx : HasP w x rs) (hy : HasP w y ts) (lx : rs.length ≤ 1048576) (ly : ts.length ≤ 1048576) (zx : ∀ r ∈ rs, r.zs.length ≤ 1048576) (zy : ∀ r ∈ ts, r.zs.length ≤ 1048576) :
    Calls Tryd.prog 33 #[.slice x rs.length cx, .slice y ts.length cy] w fun r w' => ∃ a1 c1 a2 c2, r = .returned (.agg #[.int .i64 (pkC rs ts), .bool (pkX rs ts).isSome, .slice a1 (clA (pkX rs ts)).length c1, .slice a2 (clB (pkX rs ts)).length c2]) ∧ OwnC w' w.heap.size a1 a2 c1 c2 (clA (pkX rs ts)) (clB (pkX rs ts)) ∧ Below w.heap.size w w' := by
  have F1 : ∀ u : World, Below w.heap.size w u → Calls Tryd.prog 64 #[.slice x rs.length cx] u fun r w' => r = .returned (.int .i64 (pcF rs)) ∧ Below u.heap.size u w' := fun u hu => l6Fault_any x cx rs u (hx.below hu (Nat.le_refl _)) lx zx
  have F2 : ∀ u : World, Below w.heap.size w u → Calls Tryd.prog 64 #[.slice y ts.length cy] u fun r w' => r = .returned (.int .i64 (pcF ts)) ∧ Below u.heap.size u w' := fun u hu => l6Fault_any y cy ts u (hy.below hu (Nat.le_refl _)) ly zy
  have S1 : pcF rs = 0 → ∀ u : World, Below w.heap.size w u → Calls Tryd.prog 54 #[.slice x rs.length cx] u fun r w' => ∃ pa pc, r = .returned (.slice pa (smL rs).length pc) ∧ World.ownsRow w' u.heap.size 2 1 (.slice pa (smL rs).length pc) (smL rs).length ((smL rs).map (.int .i64)) ∧ Below u.heap.size u w' := fun h u hu => l6Sums_any x cx rs u (hx.below hu (Nat.le_refl _)) (pcF_zero h).1 zx
  have S2 : pcF ts = 0 → ∀ u : World, Below w.heap.size w u → Calls Tryd.prog 54 #[.slice y ts.length cy] u fun r w' => ∃ pa pc, r = .returned (.slice pa (smL ts).length pc) ∧ World.ownsRow w' u.heap.size 2 1 (.slice pa (smL ts).length pc) (smL ts).length ((smL ts).map (.int .i64)) ∧ Below u.heap.size u w' := fun h u hu => l6Sums_any y cy ts u (hy.below hu (Nat.le_refl _)) (pcF_zero h).1 zy
  have TC : pcF rs = 0 → pcF ts = 0 → ∀ (u : World) (pa1 : Option Addr) (pc1 : Nat) (pa2 : Option Addr) (pc2 base1 base2 : Nat), Below w.heap.size w u → World.ownsRow u base1 2 1 (.slice pa1 (smL rs).length pc1) (smL rs).length ((smL rs).map (.int .i64)) → World.ownsRow u base2 2 1 (.slice pa2 (smL ts).length pc2) (smL ts).length ((smL ts).map (.int .i64)) → Calls Tryd.prog 32 #[.slice pa1 (smL rs).length pc1, .slice pa2 (smL ts).length pc2] u fun r w' => ∃ a1 c1 a2 c2, r = .returned (.agg #[.int .i64 (tkC (smL rs) (smL ts)), .bool (tkX (smL rs) (smL ts)).isSome, .slice a1 (clA (tkX (smL rs) (smL ts))).length c1, .slice a2 (clB (tkX (smL rs) (smL ts))).length c2]) ∧ OwnC w' u.heap.size a1 a2 c1 c2 (clA (tkX (smL rs) (smL ts))) (clB (tkX (smL rs) (smL ts))) ∧ Below u.heap.size u w' := by
    intro h1 h2 u pa1 pc1 pa2 pc2 base1 base2 hu o1 o2
    obtain ⟨c1, c2⟩ := own_capsP o1
    obtain ⟨c3, c4⟩ := own_capsP o2
    have l1 := smL_len24 h1
    have l2 := smL_len24 h2
    exact specTreeClash_any pa1 pa2 pc1 pc2 (smL rs) (smL ts) u (has_of_own o1 (smL_wf rs)) (has_of_own o2 (smL_wf ts)) (by omega) (by omega) c1 c2 c3 c4
  by_cases h1 : pcF rs = 0
  · by_cases h2 : pcF ts = 0
    · have hK : pkC rs ts = tkC (smL rs) (smL ts) := by unfold pkC; rw [if_pos h1, if_pos h2]
      by_cases h3 : tkC (smL rs) (smL ts) = 0
      · have hX : pkX rs ts = (trC (smL rs) (smL ts) <|> lpC (rs.map Pc.zs) (ts.map Pc.zs)) := by unfold pkX; rw [if_pos (by rw [hK]; exact h3)]
        have hT : tkX (smL rs) (smL ts) = trC (smL rs) (smL ts) := by unfold tkX; rw [if_pos h3]
        rw [hT] at TC
        rw [hK, hX]
        cases hC : trC (smL rs) (smL ts) with
        | some yy =>
          rw [hC] at TC
          exact specPiece_tree x y rs.length ts.length cx cy (pcF rs) (pcF ts) (tkC (smL rs) (smL ts)) (some yy) (smL rs) (smL ts) w h1 h2 (.inr ⟨h3, yy, rfl⟩) F1 F2 S1 S2 TC
        | none =>
          rw [hC] at TC
          have hl := (pkC_zero (hK.trans h3)).2.2.2
          have := specPiece_loop x y cx cy (pcF rs) (pcF ts) (tkC (smL rs) (smL ts)) none (smL rs) (smL ts) rs ts rs.length ts.length w h1 h2 h3 rfl rfl rfl hl (pcF_zero h1).1 hx hy (pcF_zero h1).2 (pcF_zero h2).2 F1 F2 S1 S2 TC
          rw [h3]
          exact this
      · have hX : pkX rs ts = none := by unfold pkX; rw [if_neg (by rw [hK]; exact h3)]
        have hT : tkX (smL rs) (smL ts) = none := by unfold tkX; rw [if_neg h3]
        rw [hT] at TC
        rw [hK, hX]
        exact specPiece_tree x y rs.length ts.length cx cy (pcF rs) (pcF ts) (tkC (smL rs) (smL ts)) none (smL rs) (smL ts) w h1 h2 (.inl h3) F1 F2 S1 S2 TC
    · have hK : pkC rs ts = pcF ts := by unfold pkC; rw [if_pos h1, if_neg h2]
      have hX : pkX rs ts = none := by unfold pkX; rw [if_neg (by rw [hK]; exact h2)]
      rw [hK, hX]
      exact specPiece_code x y rs.length ts.length cx cy (pcF rs) (pcF ts) (pcF ts) _ _ (smL rs) (smL ts) w (.inr ⟨h1, h2, rfl⟩) F1 F2 S1 S2 TC
  · have hK : pkC rs ts = pcF rs := by unfold pkC; rw [if_neg h1]
    have hX : pkX rs ts = none := by unfold pkX; rw [if_neg (by rw [hK]; exact h1)]
    rw [hK, hX]
    exact specPiece_code x y rs.length ts.length cx cy (pcF rs) (pcF ts) (pcF rs) _ _ (smL rs) (smL ts) w (.inl ⟨h1, rfl⟩) F1 F2 S1 S2 TC

end Go.Proofs.YtklhkhlmhddmcaaDoor
