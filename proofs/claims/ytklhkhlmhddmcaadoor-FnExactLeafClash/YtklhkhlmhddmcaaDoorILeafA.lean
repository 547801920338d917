/- Contracts: the program's walk on the way down to a leaf, by the size of the log. -/
import Derived.Test.YtklhkhlmhddmcaaDoorILeaf
namespace Go.Proofs.YtklhkhlmhddmcaaDoor
open Go.ChangeShapes Go.WideShapes Go.ChangeAt Go.RowKit
set_option linter.unusedVariables false
set_option linter.unusedSimpArgs false

set_option maxHeartbeats 4000000 in
theorem leafWalk1_any (n : Nat) : ∀ (pl pp pa pf : Nat) (x z : Option Addr) (cx cz : Nat) (xs p : List Int) (a l : Int) (w : World), xs.length ≤ n → 1 ≤ xs.length → xs.length ≤ 24 → 0 ≤ a → a < xs.length → p.length = stN a xs.length → allS xs = true → allS p = true → (0 ≤ l ∧ l ≤ 65520) → Tab w → Has w .i64 x xs.length xs → Has w .i64 z p.length p → xs.length ≤ cx → cx ≤ maxLen → p.length ≤ cz → cz ≤ maxLen →
    w.cell? ⟨pl, 0, none⟩ = some (.slice x xs.length cx) → w.cell? ⟨pp, 0, none⟩ = some (.slice z p.length cz) → w.cell? ⟨pa, 0, none⟩ = some (.int .i64 a) → w.cell? ⟨pf, 0, none⟩ = some (.int .i64 l) → pl < w.heap.size → pp < w.heap.size → pa < w.heap.size → pf < w.heap.size →
    Calls Tryd.prog 107 #[.pointer (some ⟨pl, 0, none⟩), .pointer (some ⟨pp, 0, none⟩), .pointer (some ⟨pa, 0, none⟩), .pointer (some ⟨pf, 0, none⟩)] w (WkE (lfC xs a l p) w) := by
  induction n with
  | zero => intro pl pp pa pf x z cx cz xs p a l w hn h1; omega
  | succ n ih =>
    intro pl pp pa pf x z cx cz xs p a l w hn h1 h24 ha0 ha1 hlen ax ap hl hT hx hz hcx hmx hcz hmz kl kp ka kf ll lp la lf
    by_cases ho : xs.length = 1
    · have e1 : ((xs.length : Int) == 1) = true := by simp [ho]
      rw [lfC_le _ _ _ (by omega)]
      clear ho ih
      go_enter Tryd.func107, Tryd.ntmps107
      go_wp2
      refine bodyPost_ret (results_none rfl _ _ _) rfl ?_
      exact WkE.ret (Below.refl _ _)
    · have h2 : 2 ≤ xs.length := by omega
      obtain ⟨q1, q2, q3⟩ := splN_bd (n := (xs.length : Int)) (by omega) (by omega)
      obtain ⟨m, hm⟩ : ∃ m : Nat, splN (xs.length : Int) = m := ⟨(splN (xs.length : Int)).toNat, by omega⟩
      have hpos : 0 < p.length := by
        by_cases ha : a < splN xs.length
        · rw [hlen, stN_lo (by omega) ha]; omega
        · rw [hlen, stN_hi (by omega) ha]; omega
      obtain ⟨q, hq⟩ : ∃ q, p.length = q + 1 := ⟨p.length - 1, by omega⟩
      have hdl : p.dropLast = p.take q := by rw [List.dropLast_eq_take, hq]; rfl
      have hgl : p.getLastD 0 = p[q]'(by omega) := by
        rw [List.getLastD_eq_getLast?, List.getLast?_eq_getElem?]
        simp [hq]
      have hlast := allS_get ap q (by omega)
      have hiz := hz.init q (by omega)
      have hil : (p.take q).length = q := by simp; omega
      have tl : (xs.take m).length = m := by simp; omega
      have dl : (xs.drop m).length = xs.length - m := by simp
      obtain ⟨b1, o1, hx1, hlt1⟩ : ∃ b off, x = some ⟨b, off, none⟩ ∧ b < w.heap.size := by
        rcases hx.2.2 with c | ⟨b, o, h, h2, _⟩
        · omega
        · exact ⟨b, o, h, h2⟩
      obtain ⟨b3, o3, hz1, hlt3, hcell⟩ : ∃ b off, z = some ⟨b, off, none⟩ ∧ b < w.heap.size ∧ ∀ i, i < p.length → w.cell? ⟨b, off + i, none⟩ = some (.int .i64 (p.getD i 0)) := by
        rcases hz.2.2 with c | h
        · omega
        · exact h
      subst hx1 hz1
      have hv : w.cell? ⟨b3, o3 + q, none⟩ = some (.int .i64 (p[q]'(by omega))) := by rw [hcell q (by omega)]; simp [List.getD, hq]
      generalize hvq : p[q]'(by omega) = v at *
      have hix := has_init hx m (by omega)
      have hrx := has_rest hx m (by omega)
      have hm0 : 1 ≤ m := by omega
      have RT : ∀ (a : Option Addr) (c : Nat) (zs : List Int), Has w .i64 a zs.length zs → zs.length ≤ 24 → allS zs = true → zs.length ≤ c → c ≤ maxLen → ∀ u : World, Below w.heap.size w u → Calls Tryd.prog 20 #[.slice a zs.length c] u fun r w' => r = .returned (.agg #[.int .i64 0, .int .i64 (rtM nS 11 zs)]) ∧ Below u.heap.size u w' := by
        intro a c zs h hz az hc hm u hu
        have := implRootOf_any a c zs u (hT.below hu (Nat.le_refl _)) (h.below hu (Nat.le_refl _)) (by omega) hc hm
        have hf : lvF zs = 0 := by unfold lvF; rw [if_neg (by omega), if_pos az]
        rw [hf, show rtV zs = rtM nS 11 zs by unfold rtV; rw [if_pos hf]] at this
        exact this
      have R1 := RT _ cx _ hix (by omega) (allS_take ax _) (by omega) hmx
      have R2 := RT _ (cx - m) _ hrx (by omega) (allS_drop ax _) (by omega) (Nat.le_trans (Nat.sub_le _ _) hmx)
      rw [tl] at R1
      rw [dl] at R2
      have d1 := rtM_bd _ (xs.take m) (Nat.le_refl _) (allS_take ax _)
      have d2 := rtM_bd _ (xs.drop m) (Nat.le_refl _) (allS_drop ax _)
      have RA : ∀ u : World, Below w.heap.size w u → Calls Tryd.prog 111 #[.agg #[.slice (some ⟨b1, o1, none⟩) m cx, .slice (some ⟨b1, o1 + m, none⟩) (xs.length - m) (cx - m)]] u fun r w' => r = .returned (.agg #[.int .i64 (rtM nS 11 (xs.take m)), .int .i64 (rtM nS 11 (xs.drop m)), .bool false]) ∧ Below u.heap.size u w' := by
        intro u hu
        exact roots_any b1 o1 xs.length cx m _ _ u (fun u' h => R1 u' (hu.trans (h.mono hu.size))) (fun u' h => R2 u' (hu.trans (h.mono hu.size))) hm0
      rw [hq] at kp
      by_cases ha : a < splN xs.length
      · have hl2 : (p.take q).length = stN a (splN xs.length) := by rw [hil]; rw [stN_lo (by omega) ha] at hlen; omega
        have hl3 : (p.take q).length = stN a (xs.take m).length := by rw [tl, ← hm]; exact hl2
        have EQ : lfC xs a l p = (ndC (clM nS l a m (p.take q)) v (rtM nS 11 (xs.take m)) (rtM nS 11 (xs.drop m)) <|> lfC (xs.take m) a l (p.take q)) := by
          rw [lfC_lo l p h2 ha, hdl, hgl, hm]; rfl
        rw [EQ]
        refine leafWalk1_lo pl pp pa pf b1 o1 b3 o3 xs.length m q cx cz a l v (clM nS l a m (p.take q)) _ _ _ _ w h2 h24 hm ha0 ha1 hcx hmx (by omega) hmz kl kp ka kf hv ll lp la lf hlt3 RA (by omega) ?_ ?_ ?_
        · intro u hu
          have := climbByPath_any l a m (some ⟨b3, o3, none⟩) cz (p.take q) u (hT.below hu (Nat.le_refl _)) hl ha0 (by omega) (by omega) (hiz.below hu (Nat.le_refl _)) (allS_take ap q) (by omega) hmz
          rw [show cpC a m (p.take q) = 0 by unfold cpC; rw [if_pos (by rw [hl2, hm])], show cpV l a m (p.take q) = clM nS l a m (p.take q) by unfold cpV; rw [if_pos (by rw [hl2, hm])], hil] at this
          exact this
        · intro u hu
          exact lookInNodes_any _ _ _ _ u (hT.below hu (Nat.le_refl _)) (clM_bd _ _ _ _ _ (Nat.le_refl _) hl.1 hl.2) hlast d1 d2
        · intro u ql qp qa qf hu c1 c2 c3 c4 l1 l2 l3 l4
          exact ih ql qp qa qf _ _ cx cz _ _ a l u (by omega) (by omega) (by omega) ha0 (by omega) hl3 (allS_take ax _) (allS_take ap q) hl (hT.below hu (Nat.le_refl _)) (hix.below hu (Nat.le_refl _)) (hiz.below hu (Nat.le_refl _)) (by omega) hmx (by omega) hmz (by rw [tl]; exact c1) (by rw [hil]; exact c2) c3 c4 l1 l2 l3 l4
      · have ex : ((xs.length - m : Nat) : Int) = (xs.length : Int) - m := by omega
        have hl2 : (p.take q).length = stN (a - m) ((xs.length : Int) - m) := by rw [hil]; rw [stN_hi (by omega) ha, hm] at hlen; omega
        have hl3 : (p.take q).length = stN (a - m) (xs.drop m).length := by rw [dl, ex]; exact hl2
        have EQ : lfC xs a l p = (ndC v (clM nS l (a - m) ((xs.length : Int) - m) (p.take q)) (rtM nS 11 (xs.take m)) (rtM nS 11 (xs.drop m)) <|> lfC (xs.drop m) (a - m) l (p.take q)) := by
          rw [lfC_hi l p h2 ha, hdl, hgl, hm]; rfl
        rw [EQ]
        refine leafWalk1_hi pl pp pa pf b1 o1 b3 o3 xs.length m q cx cz a l v (clM nS l (a - m) ((xs.length : Int) - m) (p.take q)) _ _ _ _ w h2 h24 hm ha0 ha1 hcx hmx (by omega) hmz kl kp ka kf hv ll lp la lf hlt3 RA (by omega) ?_ ?_ ?_
        · intro u hu
          have := climbByPath_any l (a - m) ((xs.length : Int) - m) (some ⟨b3, o3, none⟩) cz (p.take q) u (hT.below hu (Nat.le_refl _)) hl (by omega) (by omega) (by omega) (hiz.below hu (Nat.le_refl _)) (allS_take ap q) (by omega) hmz
          rw [show cpC (a - m) ((xs.length : Int) - m) (p.take q) = 0 by unfold cpC; rw [if_pos hl2], show cpV l (a - m) ((xs.length : Int) - m) (p.take q) = clM nS l (a - m) ((xs.length : Int) - m) (p.take q) by unfold cpV; rw [if_pos hl2], hil] at this
          exact this
        · intro u hu
          exact lookInNodes_any _ _ _ _ u (hT.below hu (Nat.le_refl _)) hlast (clM_bd _ _ _ _ _ (Nat.le_refl _) hl.1 hl.2) d1 d2
        · intro u ql qp qa qf hu c1 c2 c3 c4 l1 l2 l3 l4
          exact ih ql qp qa qf _ _ (cx - m) cz _ _ (a - m) l u (by omega) (by omega) (by omega) (by omega) (by omega) hl3 (allS_drop ax _) (allS_take ap q) hl (hT.below hu (Nat.le_refl _)) (hrx.below hu (Nat.le_refl _)) (hiz.below hu (Nat.le_refl _)) (by omega) (Nat.le_trans (Nat.sub_le _ _) hmx) (by omega) hmz (by rw [dl]; exact c1) (by rw [hil]; exact c2) c3 c4 l1 l2 l3 l4

end Go.Proofs.YtklhkhlmhddmcaaDoor
