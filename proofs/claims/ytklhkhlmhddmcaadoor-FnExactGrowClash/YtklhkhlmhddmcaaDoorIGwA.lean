/- Contracts: the program's walk along a growth, by the size of the log. -/
import Derived.Test.YtklhkhlmhddmcaaDoorIGwL
import Derived.Test.YtklhkhlmhddmcaaDoorIGwH
import Derived.Test.YtklhkhlmhddmcaaDoorIGw2
namespace Go.Proofs.YtklhkhlmhddmcaaDoor
open Go.ChangeShapes Go.WideShapes Go.ChangeAt Go.RowKit
set_option linter.unusedVariables false
set_option linter.unusedSimpArgs false

set_option maxHeartbeats 8000000 in
theorem growWalk_any (n : Nat) : ∀ (s t : Int) (x y z : Option Addr) (cx cy cz : Nat) (xs ys p : List Int) (wh : Bool) (r : Int) (u : World), ys.length ≤ n → s = xs.length → t = ys.length → 1 ≤ xs.length → xs.length ≤ ys.length → ys.length ≤ 24 → (wh = true → 0 ≤ r ∧ r ≤ 65520) → p.length = gsN xs.length ys.length wh → allS xs = true → allS ys = true → allS p = true → Tab u → Has u .i64 x xs.length xs → Has u .i64 y ys.length ys → Has u .i64 z p.length p → xs.length ≤ cx → cx ≤ maxLen → ys.length ≤ cy → cy ≤ maxLen → p.length ≤ cz → cz ≤ maxLen →
    Calls Tryd.prog 80 #[.agg #[.int .i64 (s), .int .i64 (t), .bool wh], .int .i64 r, .slice z p.length cz, .slice x xs.length cx, .slice y ys.length cy] u fun e w' => ∃ k caps, e = .returned (.func (.func k) #[] caps) ∧ (∀ v : World, (callFunc k caps).run Tryd.prog v = .ok (.enter k caps) v) ∧ (∀ v : World, Below w'.heap.size w' v → Calls Tryd.prog k caps v (WkE (gkC xs ys wh r p) v)) ∧ Below u.heap.size u w' := by
  induction n with
  | zero => intro s t x y z cx cy cz xs ys p wh r u hn hs ht h1 hle; omega
  | succ n ih =>
    intro s t x y z cx cy cz xs ys p wh r u hn hs ht h1 hle h24 hr hlen ax ay ap hT hx hy hz hcx hmx hcy hmy hcz hmz
    by_cases he : xs.length = ys.length
    · rw [gkC_eq wh r p he]
      refine (growWalk_eq s t r wh x y z xs.length cx ys.length cy p.length cz u (by omega)).mono ?_
      rintro e w' ⟨p1, p2, rfl, c1, c2, l1, l2, hb⟩
      refine ⟨_, _, rfl, fun v => by simp [go_sem], fun v hv => ?_, hb⟩
      have hh := hb.trans (hv.mono hb.size)
      exact treeWalk1_any _ p1 p2 x y cx cy xs ys v (Nat.le_refl _) (by omega) he (by omega) ax ay (hT.below hh (Nat.le_refl _)) (hx.below hh (Nat.le_refl _)) (hy.below hh (Nat.le_refl _)) hcx hmx hcy hmy ((hv.cell (p := ⟨p1, 0, none⟩) l1).trans c1) ((hv.cell (p := ⟨p2, 0, none⟩) l2).trans c2) (Nat.lt_of_lt_of_le l1 hv.size) (Nat.lt_of_lt_of_le l2 hv.size)
    · have h2 : 2 ≤ ys.length := by omega
      obtain ⟨q1, q2, q3⟩ := splN_bd (n := (ys.length : Int)) (by omega) (by omega)
      obtain ⟨m, hm⟩ : ∃ m : Nat, splN (ys.length : Int) = m := ⟨(splN (ys.length : Int)).toNat, by omega⟩
      have hpos : 0 < p.length := by
        by_cases ha : (xs.length : Int) ≤ splN ys.length
        · rw [hlen, gsN_lo wh (by omega) ha]; omega
        · rw [hlen, gsN_hi wh (by omega) ha (by omega)]; omega
      obtain ⟨q, hq⟩ : ∃ q, p.length = q + 1 := ⟨p.length - 1, by omega⟩
      have hdl : p.dropLast = p.take q := by rw [List.dropLast_eq_take, hq]; rfl
      have hgl : p.getLastD 0 = p[q]'(by omega) := by
        rw [List.getLastD_eq_getLast?, List.getLast?_eq_getElem?]
        simp [hq]
      have hlast := allS_get ap q (by omega)
      have hiz := hz.init q (by omega)
      have hil : (p.take q).length = q := by simp; omega
      have tly : (ys.take m).length = m := by simp; omega
      have dly : (ys.drop m).length = ys.length - m := by simp
      have hm0 : 1 ≤ m := by omega
      obtain ⟨b1, o1, hx1, hlt1⟩ : ∃ b off, x = some ⟨b, off, none⟩ ∧ b < u.heap.size := by
        rcases hx.2.2 with c | ⟨b, o, h, h2, _⟩
        · omega
        · exact ⟨b, o, h, h2⟩
      obtain ⟨b2, o2, hy1, hlt2⟩ : ∃ b off, y = some ⟨b, off, none⟩ ∧ b < u.heap.size := by
        rcases hy.2.2 with c | ⟨b, o, h, h2, _⟩
        · omega
        · exact ⟨b, o, h, h2⟩
      obtain ⟨b3, o3, hz1, hlt3, hcell⟩ : ∃ b off, z = some ⟨b, off, none⟩ ∧ b < u.heap.size ∧ ∀ i, i < p.length → u.cell? ⟨b, off + i, none⟩ = some (.int .i64 (p.getD i 0)) := by
        rcases hz.2.2 with c | h
        · omega
        · exact h
      subst hx1 hy1 hz1
      have hv : u.cell? ⟨b3, o3 + q, none⟩ = some (.int .i64 (p[q]'(by omega))) := by rw [hcell q (by omega)]; simp [List.getD, hq]
      generalize hvq : p[q]'(by omega) = v at *
      have hiy := has_init hy m (by omega)
      have hry := has_rest hy m (by omega)
      have RT : ∀ (a : Option Addr) (c : Nat) (zs : List Int), Has u .i64 a zs.length zs → zs.length ≤ 24 → allS zs = true → zs.length ≤ c → c ≤ maxLen → ∀ u' : World, Below u.heap.size u u' → Calls Tryd.prog 20 #[.slice a zs.length c] u' fun r w' => r = .returned (.agg #[.int .i64 0, .int .i64 (rtM nS 11 zs)]) ∧ Below u'.heap.size u' w' := by
        intro a c zs h hz az hc hm u' hu
        have := implRootOf_any a c zs u' (hT.below hu (Nat.le_refl _)) (h.below hu (Nat.le_refl _)) (by omega) hc hm
        have hf : lvF zs = 0 := by unfold lvF; rw [if_neg (by omega), if_pos az]
        rw [hf, show rtV zs = rtM nS 11 zs by unfold rtV; rw [if_pos hf]] at this
        exact this
      have R3 := RT _ cy _ hiy (by omega) (allS_take ay _) (by omega) hmy
      have R4 := RT _ (cy - m) _ hry (by omega) (allS_drop ay _) (by omega) (Nat.le_trans (Nat.sub_le _ _) hmy)
      rw [tly] at R3
      rw [dly] at R4
      have d3 := rtM_bd _ (ys.take m) (Nat.le_refl _) (allS_take ay _)
      have d4 := rtM_bd _ (ys.drop m) (Nat.le_refl _) (allS_drop ay _)
      have RY : ∀ u' : World, Below u.heap.size u u' → Calls Tryd.prog 111 #[.agg #[.slice (some ⟨b2, o2, none⟩) m cy, .slice (some ⟨b2, o2 + m, none⟩) (ys.length - m) (cy - m)]] u' fun r w' => r = .returned (.agg #[.int .i64 (rtM nS 11 (ys.take m)), .int .i64 (rtM nS 11 (ys.drop m)), .bool false]) ∧ Below u'.heap.size u' w' := by
        intro u' hu
        exact roots_any b2 o2 ys.length cy m _ _ u' (fun u'' h => R3 u'' (hu.trans (h.mono hu.size))) (fun u'' h => R4 u'' (hu.trans (h.mono hu.size))) hm0
      rw [hq]
      by_cases ha : (xs.length : Int) ≤ splN ys.length
      · have hl2 : (p.take q).length = gsN xs.length m wh := by rw [hil]; rw [gsN_lo wh (by omega) ha, hm] at hlen; omega
        have hbd := grR_bd _ xs.length m wh r (p.take q) (Nat.le_refl _) (by omega) (by omega) (by omega) hr hl2 (allS_take ap q)
        have EQ : gkC xs ys wh r p = (ndC (grR nS xs.length m wh r (p.take q)).2 v (rtM nS 11 (ys.take m)) (rtM nS 11 (ys.drop m)) <|> gkC xs (ys.take m) wh r (p.take q)) := by
          rw [gkC_lo wh r p h2 ha, hdl, hgl, hm]; rfl
        rw [EQ]
        have PA : ∀ u' : World, Below u.heap.size u u' → Calls Tryd.prog 122 #[.agg #[.int .i64 (s), .int .i64 (t), .bool wh]] u' fun r w' => r = .returned (.agg #[.int .i64 (s), .int .i64 (m), .bool wh]) ∧ Below u'.heap.size u' w' := by
          intro u' hu
          have := part_lo s t wh u' (by omega) (by omega) (by rw [ht, hm, hs]; omega)
          rw [ht, hm] at this
          rw [ht]
          exact this
        refine (growWalk_lo s t s m r (grR nS xs.length m wh r (p.take q)).1 (grR nS xs.length m wh r (p.take q)).2 v wh wh (some ⟨b1, o1, none⟩) xs.length cx b2 o2 ys.length m cy b3 o3 q cz u (by omega) (by rw [ht, hm, hs]; omega) (by omega) (by omega) (by omega) h24 hm hcy hmy (by omega) hmz hv hlt3 PA ?_).mono ?_
        · intro u' hu
          have := rootsBy_any _ s m wh r (some ⟨b3, o3, none⟩) cz (p.take q) u' (Nat.le_refl _) (by omega) (by omega) (by omega) hr (by rw [hs]; exact hl2) (allS_take ap q) (hT.below hu (Nat.le_refl _)) (hiz.below hu (Nat.le_refl _)) (by omega) hmz
          rw [hil, hs] at this
          rw [hs]
          exact this
        rintro e w' ⟨qw, qb, qg, qr, rfl, ⟨c0, c1, c2, c3, c4, c5, c6, c7, c8, c9⟩, ⟨l0, l1, l2, l3, l4, l5, l6⟩, hb⟩
        refine ⟨_, _, rfl, fun v => by simp [go_sem], fun w1 hw1 => ?_, hb⟩
        have hh := hb.trans (hw1.mono hb.size)
        refine growWalk1_step qw qb qg u.heap.size (u.heap.size + 1) qr (u.heap.size + 2) b2 o2 b3 o3 ys.length m q cy cz xs.length cx (some ⟨b1, o1, none⟩) s t s m r _ _ v _ _ wh wh _ _ w1 hbd.2.1 hbd.2.2 ((hw1.cell (p := ⟨qw, 0, none⟩) l0).trans c0) ((hw1.cell (p := ⟨qb, 0, none⟩) l1).trans c1) ((hw1.cell (p := ⟨qg, 0, none⟩) l2).trans c2) ((hw1.cell (p := ⟨qg, 1, none⟩) l2).trans c3) ((hw1.cell (p := ⟨u.heap.size, 0, none⟩) l3).trans c4) ((hw1.cell (p := ⟨u.heap.size, 1, none⟩) l3).trans c5) ((hw1.cell (p := ⟨u.heap.size, 2, none⟩) l3).trans c6) ((hw1.cell (p := ⟨u.heap.size + 1, 0, none⟩) l4).trans c7) ((hw1.cell (p := ⟨qr, 0, none⟩) l5).trans c8) ((hw1.cell (p := ⟨u.heap.size + 2, 0, none⟩) l6).trans c9) (Nat.lt_of_lt_of_le l0 hw1.size) (Nat.lt_of_lt_of_le l1 hw1.size) (Nat.lt_of_lt_of_le l2 hw1.size) (Nat.lt_of_lt_of_le l3 hw1.size) (Nat.lt_of_lt_of_le l4 hw1.size) (Nat.lt_of_lt_of_le l5 hw1.size) (Nat.lt_of_lt_of_le l6 hw1.size) (fun u' hu => RY u' (hh.trans (hu.mono hh.size))) ?_ (fun u' hu => PA u' (hh.trans (hu.mono hh.size))) ?_
        · intro u' hu
          exact lookInNodes_any _ _ _ _ u' (hT.below (hh.trans (hu.mono hh.size)) (Nat.le_refl _)) hbd.2 hlast d3 d4
        · intro u' hu
          have h5 := hh.trans (hu.mono hh.size)
          have := ih s m (some ⟨b1, o1, none⟩) (some ⟨b2, o2, none⟩) (some ⟨b3, o3, none⟩) cx cy cz xs (ys.take m) (p.take q) wh r u' (by omega) hs (by rw [tly]) h1 (by omega) (by omega) hr (by rw [tly]; exact hl2) ax (allS_take ay m) (allS_take ap q) (hT.below h5 (Nat.le_refl _)) (hx.below h5 (Nat.le_refl _)) (hiy.below h5 (Nat.le_refl _)) (hiz.below h5 (Nat.le_refl _)) hcx hmx (by omega) hmy (by omega) hmz
          rw [tly, hil] at this
          exact this
      · have tlx : (xs.take m).length = m := by simp; omega
        have dlx : (xs.drop m).length = xs.length - m := by simp
        have hix := has_init hx m (by omega)
        have hrx := has_rest hx m (by omega)
        have ex : ((xs.length - m : Nat) : Int) = (xs.length : Int) - m := by omega
        have ey : ((ys.length - m : Nat) : Int) = (ys.length : Int) - m := by omega
        have hl2 : (p.take q).length = gsN ((xs.length : Int) - m) ((ys.length : Int) - m) false := by rw [hil]; rw [gsN_hi wh (by omega) ha (by omega), hm] at hlen; omega
        have hsm : splN (xs.length : Int) = m := by rw [splN_same (t := (ys.length : Int)) (by omega) (by omega) (by omega) (by omega)]; exact hm
        have hbd := grR_bd _ ((xs.length : Int) - m) ((ys.length : Int) - m) false r (p.take q) (Nat.le_refl _) (by omega) (by omega) (by omega) (by simp) hl2 (allS_take ap q)
        have R1 := RT _ cx _ hix (by omega) (allS_take ax _) (by omega) hmx
        have R2 := RT _ (cx - m) _ hrx (by omega) (allS_drop ax _) (by omega) (Nat.le_trans (Nat.sub_le _ _) hmx)
        rw [tlx] at R1
        rw [dlx] at R2
        have d1 := rtM_bd _ (xs.take m) (Nat.le_refl _) (allS_take ax _)
        have d2 := rtM_bd _ (xs.drop m) (Nat.le_refl _) (allS_drop ax _)
        have RX : ∀ u' : World, Below u.heap.size u u' → Calls Tryd.prog 111 #[.agg #[.slice (some ⟨b1, o1, none⟩) m cx, .slice (some ⟨b1, o1 + m, none⟩) (xs.length - m) (cx - m)]] u' fun r w' => r = .returned (.agg #[.int .i64 (rtM nS 11 (xs.take m)), .int .i64 (rtM nS 11 (xs.drop m)), .bool false]) ∧ Below u'.heap.size u' w' := by
          intro u' hu
          exact roots_any b1 o1 xs.length cx m _ _ u' (fun u'' h => R1 u'' (hu.trans (h.mono hu.size))) (fun u'' h => R2 u'' (hu.trans (h.mono hu.size))) hm0
        have EQ : gkC xs ys wh r p = (ndC v (grR nS ((xs.length : Int) - m) ((ys.length : Int) - m) false r (p.take q)).1 (rtM nS 11 (xs.take m)) (rtM nS 11 (xs.drop m)) <|> (ndC v (grR nS ((xs.length : Int) - m) ((ys.length : Int) - m) false r (p.take q)).2 (rtM nS 11 (ys.take m)) (rtM nS 11 (ys.drop m)) <|> (trC (xs.take m) (ys.take m) <|> gkC (xs.drop m) (ys.drop m) false r (p.take q)))) := by
          rw [gkC_hi wh r p h2 ha (by omega), hdl, hgl, hm]; rfl
        rw [EQ]
        have PA : ∀ u' : World, Below u.heap.size u u' → Calls Tryd.prog 122 #[.agg #[.int .i64 (s), .int .i64 (t), .bool wh]] u' fun r w' => r = .returned (.agg #[.int .i64 ((xs.length : Int) - m), .int .i64 ((ys.length : Int) - m), .bool false]) ∧ Below u'.heap.size u' w' := by
          intro u' hu
          have := part_hi s t wh u' (by omega) (by omega) (by rw [ht, hm, hs]; omega) (by omega)
          rw [ht, hm, hs] at this
          rw [ht, hs]
          exact this
        refine (growWalk_hi s t ((xs.length : Int) - m) ((ys.length : Int) - m) r (grR nS ((xs.length : Int) - m) ((ys.length : Int) - m) false r (p.take q)).1 (grR nS ((xs.length : Int) - m) ((ys.length : Int) - m) false r (p.take q)).2 v wh false b1 o1 xs.length cx b2 o2 ys.length m cy b3 o3 q cz u (by omega) (by rw [ht, hm, hs]; omega) (by omega) (by omega) (by omega) h24 (by omega) (by omega) hm hsm hcx hmx hcy hmy (by omega) hmz hv hlt3 PA ?_).mono ?_
        · intro u' hu
          have := rootsBy_any _ ((xs.length : Int) - m) ((ys.length : Int) - m) false r (some ⟨b3, o3, none⟩) cz (p.take q) u' (Nat.le_refl _) (by omega) (by omega) (by omega) (by simp) hl2 (allS_take ap q) (hT.below hu (Nat.le_refl _)) (hiz.below hu (Nat.le_refl _)) (by omega) hmz
          rw [hil] at this
          exact this
        rintro e w' ⟨qw, qb, qx, qg, qr, rfl, ⟨c0, c1, c2, c3, c4, c5, c6, c7, c8, c9, c10⟩, ⟨l0, l1, l2, l3, l4, l5, l6, l7⟩, hb⟩
        refine ⟨_, _, rfl, fun v => by simp [go_sem], fun w1 hw1 => ?_, hb⟩
        have hh := hb.trans (hw1.mono hb.size)
        refine growWalk2_step qb qw qx qg u.heap.size (u.heap.size + 1) qr b1 o1 b2 o2 b3 o3 xs.length ys.length m q cx cy cz s t ((xs.length : Int) - m) ((ys.length : Int) - m) r _ _ v _ _ _ _ wh false _ _ _ _ w1 hbd.1.1 hbd.1.2 hbd.2.1 hbd.2.2 ((hw1.cell (p := ⟨qw, 0, none⟩) l0).trans c0) ((hw1.cell (p := ⟨qb, 0, none⟩) l1).trans c1) ((hw1.cell (p := ⟨qg, 0, none⟩) l2).trans c2) ((hw1.cell (p := ⟨qg, 1, none⟩) l2).trans c3) ((hw1.cell (p := ⟨u.heap.size, 0, none⟩) l3).trans c4) ((hw1.cell (p := ⟨u.heap.size, 1, none⟩) l3).trans c5) ((hw1.cell (p := ⟨u.heap.size, 2, none⟩) l3).trans c6) ((hw1.cell (p := ⟨u.heap.size + 1, 0, none⟩) l4).trans c7) ((hw1.cell (p := ⟨qr, 0, none⟩) l5).trans c8) ((hw1.cell (p := ⟨qx, 0, none⟩) l7).trans c9) ((hw1.cell (p := ⟨qx, 1, none⟩) l7).trans c10) (Nat.lt_of_lt_of_le l0 hw1.size) (Nat.lt_of_lt_of_le l1 hw1.size) (Nat.lt_of_lt_of_le l2 hw1.size) (Nat.lt_of_lt_of_le l3 hw1.size) (Nat.lt_of_lt_of_le l4 hw1.size) (Nat.lt_of_lt_of_le l5 hw1.size) (Nat.lt_of_lt_of_le l7 hw1.size) (fun u' hu => RX u' (hh.trans (hu.mono hh.size))) (fun u' hu => RY u' (hh.trans (hu.mono hh.size))) ?_ ?_ ?_ (fun u' hu => PA u' (hh.trans (hu.mono hh.size))) ?_
        · intro u' hu
          exact lookInNodes_any _ _ _ _ u' (hT.below (hh.trans (hu.mono hh.size)) (Nat.le_refl _)) hlast hbd.1 d1 d2
        · intro u' hu
          exact lookInNodes_any _ _ _ _ u' (hT.below (hh.trans (hu.mono hh.size)) (Nat.le_refl _)) hlast hbd.2 d3 d4
        · intro u' pa pb hu k1 k2 e1 e2
          have h5 := hh.trans (hu.mono hh.size)
          exact treeWalk1_any _ pa pb _ _ cx cy (xs.take m) (ys.take m) u' (Nat.le_refl _) (by omega) (by omega) (by omega) (allS_take ax m) (allS_take ay m) (hT.below h5 (Nat.le_refl _)) (hix.below h5 (Nat.le_refl _)) (hiy.below h5 (Nat.le_refl _)) (by omega) hmx (by omega) hmy (by rw [tlx]; exact k1) (by rw [tly]; exact k2) e1 e2
        · intro u' hu
          have h5 := hh.trans (hu.mono hh.size)
          have := ih ((xs.length : Int) - m) ((ys.length : Int) - m) (some ⟨b1, o1 + m, none⟩) (some ⟨b2, o2 + m, none⟩) (some ⟨b3, o3, none⟩) (cx - m) (cy - m) cz (xs.drop m) (ys.drop m) (p.take q) false r u' (by omega) (by rw [dlx]; omega) (by rw [dly]; omega) (by omega) (by omega) (by omega) (by simp) (by rw [dlx, dly, ex, ey]; exact hl2) (allS_drop ax m) (allS_drop ay m) (allS_take ap q) (hT.below h5 (Nat.le_refl _)) (hrx.below h5 (Nat.le_refl _)) (hry.below h5 (Nat.le_refl _)) (hiz.below h5 (Nat.le_refl _)) (by omega) (Nat.le_trans (Nat.sub_le _ _) hmx) (by omega) (Nat.le_trans (Nat.sub_le _ _) hmy) (by omega) hmz
          rw [dlx, dly, hil] at this
          exact this

end Go.Proofs.YtklhkhlmhddmcaaDoor
