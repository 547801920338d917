/- Contracts: the program's PieceClash, whole; what it finds is a clash. -/
import Derived.Test.YtklhkhlmhddmcaaDoorIPkC
import Derived.Test.YtklhkhlmhddmcaaDoorExc
import Derived.Test.YtklhkhlmhddmcaaDoorLkX
namespace Go.Proofs.YtklhkhlmhddmcaaDoor
open Go.ChangeShapes Go.WideShapes Go.ChangeAt Go.RowKit
set_option linter.unusedVariables false
set_option linter.unusedSimpArgs false

set_option maxHeartbeats 2000000 in
theorem implPieceClash_any (x y : Option Addr) (cx cy : Nat) (rs ts : List Pc) (w : World) (hT : Tab w) (hx : HasP w x rs) (hy : HasP w y ts) (lx : rs.length ≤ 1048576) (ly : ts.length ≤ 1048576) (zx : ∀ r ∈ rs, r.zs.length ≤ 1048576) (zy : ∀ r ∈ ts, r.zs.length ≤ 1048576) :
    Calls Tryd.prog 29 #[.slice x rs.length cx, .slice y ts.length cy] w fun r w' => ∃ a1 c1 a2 c2, r = .returned (.agg #[.int .i64 (pkC rs ts), .bool (pkX rs ts).isSome, .slice a1 (clA (pkX rs ts)).length c1, .slice a2 (clB (pkX rs ts)).length c2]) ∧ OwnC w' w.heap.size a1 a2 c1 c2 (clA (pkX rs ts)) (clB (pkX rs ts)) ∧ Below w.heap.size w w' := by
  have F1 : ∀ u : World, Below w.heap.size w u → Calls Tryd.prog 18 #[.slice x rs.length cx] u fun r w' => r = .returned (.int .i64 (pcF rs)) ∧ Below u.heap.size u w' := fun u hu => implPiecesFault_any x cx rs u (hx.below hu (Nat.le_refl _)) lx zx
  have F2 : ∀ u : World, Below w.heap.size w u → Calls Tryd.prog 18 #[.slice y ts.length cy] u fun r w' => r = .returned (.int .i64 (pcF ts)) ∧ Below u.heap.size u w' := fun u hu => implPiecesFault_any y cy ts u (hy.below hu (Nat.le_refl _)) ly zy
  by_cases hor : orC (pcF rs) (pcF ts) = 0
  · have h1 : pcF rs = 0 := by unfold orC at hor; split at hor <;> omega
    have h2 : pcF ts = 0 := by unfold orC at hor; rw [if_pos h1] at hor; exact hor
    have e1 : psL rs = smL rs := by unfold psL; rw [if_pos h1]
    have e2 : psL ts = smL ts := by unfold psL; rw [if_pos h2]
    have S1 : ∀ u : World, Below w.heap.size w u → Calls Tryd.prog 15 #[.slice x rs.length cx] u fun r w' => ∃ pa pc, r = .returned (.agg #[.int .i64 0, .slice pa (smL rs).length pc]) ∧ World.ownsRow w' u.heap.size 2 1 (.slice pa (smL rs).length pc) (smL rs).length ((smL rs).map (.int .i64)) ∧ Below u.heap.size u w' := by
      intro u hu
      have := implPieceSums_any x cx rs u (hT.below hu (Nat.le_refl _)) (hx.below hu (Nat.le_refl _)) lx zx
      rw [h1, e1] at this
      exact this
    have S2 : ∀ u : World, Below w.heap.size w u → Calls Tryd.prog 15 #[.slice y ts.length cy] u fun r w' => ∃ pa pc, r = .returned (.agg #[.int .i64 0, .slice pa (smL ts).length pc]) ∧ World.ownsRow w' u.heap.size 2 1 (.slice pa (smL ts).length pc) (smL ts).length ((smL ts).map (.int .i64)) ∧ Below u.heap.size u w' := by
      intro u hu
      have := implPieceSums_any y cy ts u (hT.below hu (Nat.le_refl _)) (hy.below hu (Nat.le_refl _)) ly zy
      rw [h2, e2] at this
      exact this
    have TC : ∀ (u : World) (pa1 : Option Addr) (pc1 : Nat) (pa2 : Option Addr) (pc2 base1 base2 : Nat), Below w.heap.size w u → World.ownsRow u base1 2 1 (.slice pa1 (smL rs).length pc1) (smL rs).length ((smL rs).map (.int .i64)) → World.ownsRow u base2 2 1 (.slice pa2 (smL ts).length pc2) (smL ts).length ((smL ts).map (.int .i64)) → Calls Tryd.prog 31 #[.slice pa1 (smL rs).length pc1, .slice pa2 (smL ts).length pc2] u fun r w' => ∃ a1 c1 a2 c2, r = .returned (.agg #[.int .i64 (tkC (smL rs) (smL ts)), .bool (tkX (smL rs) (smL ts)).isSome, .slice a1 (clA (tkX (smL rs) (smL ts))).length c1, .slice a2 (clB (tkX (smL rs) (smL ts))).length c2]) ∧ OwnC w' u.heap.size a1 a2 c1 c2 (clA (tkX (smL rs) (smL ts))) (clB (tkX (smL rs) (smL ts))) ∧ Below u.heap.size u w' := by
      intro u pa1 pc1 pa2 pc2 base1 base2 hu o1 o2
      obtain ⟨c1, c2⟩ := own_capsP o1
      obtain ⟨c3, c4⟩ := own_capsP o2
      have l1 := smL_len24 h1
      have l2 := smL_len24 h2
      exact implTreeClash_any pa1 pa2 pc1 pc2 (smL rs) (smL ts) u (hT.below hu (Nat.le_refl _)) (has_of_own o1 (smL_wf rs)) (has_of_own o2 (smL_wf ts)) (by omega) (by omega) c1 c2 c3 c4
    have hK : pkC rs ts = tkC (smL rs) (smL ts) := by unfold pkC; rw [if_pos h1, if_pos h2]
    by_cases h3 : tkC (smL rs) (smL ts) = 0
    · have hX : pkX rs ts = (trC (smL rs) (smL ts) <|> lpC (rs.map Pc.zs) (ts.map Pc.zs)) := by unfold pkX; rw [if_pos (by rw [hK]; exact h3)]
      have hTX : tkX (smL rs) (smL ts) = trC (smL rs) (smL ts) := by unfold tkX; rw [if_pos h3]
      rw [hTX] at TC
      rw [hK, hX]
      cases hC : trC (smL rs) (smL ts) with
      | some yy =>
        rw [hC] at TC
        exact implPiece_tree x y rs.length ts.length cx cy (pcF rs) (pcF ts) (tkC (smL rs) (smL ts)) (some yy) (smL rs) (smL ts) w hor (.inr ⟨h3, yy, rfl⟩) F1 F2 S1 S2 TC
      | none =>
        rw [hC] at TC
        have hl := (pkC_zero (hK.trans h3)).2.2.2
        have := implPiece_loop x y rs.length ts.length cx cy (pcF rs) (pcF ts) (tkC (smL rs) (smL ts)) none (lpC (rs.map Pc.zs) (ts.map Pc.zs)) (smL rs) (smL ts) w hor h3 rfl F1 F2 S1 S2 TC (fun u pa pb hu ca cb la lb => pieceClash1_any pa pb x y cx cy rs ts rs.length u (hT.below hu (Nat.le_refl _)) rfl hl.symm (pcF_zero h1).1 (hx.below hu (Nat.le_refl _)) (hy.below hu (Nat.le_refl _)) (pcF_zero h1).2 (pcF_zero h2).2 ca (by rw [hl]; exact cb) la lb)
        rw [h3]
        exact this
    · have hX : pkX rs ts = none := by unfold pkX; rw [if_neg (by rw [hK]; exact h3)]
      have hTX : tkX (smL rs) (smL ts) = none := by unfold tkX; rw [if_neg h3]
      rw [hTX] at TC
      rw [hK, hX]
      exact implPiece_tree x y rs.length ts.length cx cy (pcF rs) (pcF ts) (tkC (smL rs) (smL ts)) none (smL rs) (smL ts) w hor (.inl h3) F1 F2 S1 S2 TC
  · have hK : pkC rs ts = orC (pcF rs) (pcF ts) := by
      unfold pkC orC at *
      by_cases hx0 : pcF rs = 0
      · rw [if_pos hx0] at hor ⊢
        rw [if_neg hor, if_pos hx0]
      · rw [if_neg hx0, if_neg hx0]
    have hX : pkX rs ts = none := by unfold pkX; rw [if_neg (by rw [hK]; exact hor)]
    rw [hK, hX]
    exact implPiece_code x y rs.length ts.length cx cy (pcF rs) (pcF ts) _ w ⟨hor, rfl⟩ F1 F2
theorem lpC_some : ∀ (xs ys : List (List Int)), (∀ z ∈ xs, z.length ≤ 250 ∧ ∀ n ∈ z, (Lit.int .u8 n).wf = true) → (∀ z ∈ ys, z.length ≤ 250 ∧ ∀ n ∈ z, (Lit.int .u8 n).wf = true) → ∀ x, lpC xs ys = some x → isCl x := by
  intro xs
  induction xs with
  | nil => intro ys _ _ x h; unfold lpC at h; cases h
  | cons a xs ih =>
    intro ys h1 h2 x h
    cases ys with
    | nil => unfold lpC at h; cases h
    | cons b ys =>
      rw [lpC] at h
      rcases or_some h with h | h
      · exact leaf_isCl h (h1 a (by simp)).1 (h2 b (by simp)).1 (h1 a (by simp)).2 (h2 b (by simp)).2
      · exact ih ys (fun z hz => h1 z (by simp [hz])) (fun z hz => h2 z (by simp [hz])) x h
theorem pkX_some (rs ts : List Pc) (wr : ∀ r ∈ rs, ∀ n ∈ r.zs, (Lit.int .u8 n).wf = true) (wt : ∀ r ∈ ts, ∀ n ∈ r.zs, (Lit.int .u8 n).wf = true) : ∀ x, pkX rs ts = some x → isCl x := by
  intro x h
  unfold pkX at h
  split at h
  · obtain ⟨h1, h2, h3, _⟩ := pkC_zero ‹_›
    rcases or_some h with h | h
    · exact trC_some _ _ _ (Nat.le_refl _) (smL_all rs) (smL_all ts) x h
    · refine lpC_some _ _ ?_ ?_ x h
      · intro z hz
        obtain ⟨r, hr, rfl⟩ := List.mem_map.1 hz
        exact ⟨(pcF_zero h1).2 r hr, wr r hr⟩
      · intro z hz
        obtain ⟨r, hr, rfl⟩ := List.mem_map.1 hz
        exact ⟨(pcF_zero h2).2 r hr, wt r hr⟩
  · cases h
theorem pkC_zs {rs qs ts us : List Pc} (h : qs.map Pc.zs = rs.map Pc.zs) (k : us.map Pc.zs = ts.map Pc.zs) : pkC qs us = pkC rs ts := by unfold pkC; rw [pcF_zs h, pcF_zs k, smL_zs h, smL_zs k]
theorem pkX_zs {rs qs ts us : List Pc} (h : qs.map Pc.zs = rs.map Pc.zs) (k : us.map Pc.zs = ts.map Pc.zs) : pkX qs us = pkX rs ts := by unfold pkX; rw [pkC_zs h k, smL_zs h, smL_zs k, h, k]
/-- A contract that speaks of copies speaks of what was copied. -/
theorem pk_of {rs qs ts us : List Pc} (e : qs.map Pc.zs = rs.map Pc.zs) (k : us.map Pc.zs = ts.map Pc.zs) {f : Nat} {p q : Option Addr} {x : World} (h : Calls Tryd.prog f #[.slice p qs.length rs.length, .slice q us.length ts.length] x fun r w' => ∃ a1 c1 a2 c2, r = .returned (.agg #[.int .i64 (pkC qs us), .bool (pkX qs us).isSome, .slice a1 (clA (pkX qs us)).length c1, .slice a2 (clB (pkX qs us)).length c2]) ∧ OwnC w' x.heap.size a1 a2 c1 c2 (clA (pkX qs us)) (clB (pkX qs us)) ∧ Below x.heap.size x w') :
    Calls Tryd.prog f #[.slice p rs.length rs.length, .slice q ts.length ts.length] x fun r w' => ∃ a1 c1 a2 c2, r = .returned (.agg #[.int .i64 (pkC rs ts), .bool (pkX rs ts).isSome, .slice a1 (clA (pkX rs ts)).length c1, .slice a2 (clB (pkX rs ts)).length c2]) ∧ OwnC w' x.heap.size a1 a2 c1 c2 (clA (pkX rs ts)) (clB (pkX rs ts)) ∧ Below x.heap.size x w' := by
  rw [pkC_zs e k, pkX_zs e k, zs_len e, zs_len k] at h
  exact h
theorem szV_lt {n : Int} {rs : List Pc} (h : ¬ szV n rs < 0) (hn : n ≤ 1048576) : 1 + (sumZ rs : Int) ≤ 1048576 := by
  unfold szV at h
  split at h
  · omega
  · cases rs with
    | nil => simp [sumZ]
    | cons r rs => simp at *; omega

end Go.Proofs.YtklhkhlmhddmcaaDoor
