/- Contracts: the model's clash of slots. Contracts: the model's MapClash. -/
import Derived.Test.YtjjddjohckcmbaaDoorSlQ
import Derived.Test.YtjjddjohckcmbaaDoorExt6C
namespace Go.Proofs.YtjjddjohckcmbaaDoor
open Go.ChangeShapes Go.WideShapes Go.ChangeAt Go.RowKit
set_option maxRecDepth 100000
set_option linter.unusedVariables false
set_option linter.unusedSimpArgs false

theorem mpC_take (k leaf : Int) (p : List Int) (i : Nat) : ∀ j, j ≤ i → mpC k leaf (p.take i) j = mpC k leaf p j
  | 0, _ => rfl
  | j + 1, h => by
    unfold mpC
    rw [mpC_take k leaf p i j (by omega)]
    have : (p.take i).getD j 0 = p.getD j 0 := by simp [List.getD, List.getElem?_take, show j < i by omega]
    rw [this]
theorem k_facts {k : Int} {j : Nat} (hj : j < 6) (h0 : 0 ≤ k) (h1 : k ≤ 63) : (1 ≤ (2 : Int) ^ j ∧ (2 : Int) ^ j ≤ 32) ∧ k / (2 * 2 ^ j) * (2 * 2 ^ j) = mpB k (j + 1) ∧ 0 ≤ mpB k (j + 1) ∧ mpB k (j + 1) + 2 ^ j + 2 ^ j ≤ 64 ∧ 0 ≤ k / (2 * 2 ^ j) ∧ k / (2 * 2 ^ j) ≤ 63 := by
  have e : (2 : Int) ^ (j + 1) = 2 * 2 ^ j := by rw [Int.pow_succ]; omega
  have hc : ∀ m : Fin 64, ∀ i : Fin 6, 0 ≤ mpB (m.val : Int) (i.val + 1) ∧ mpB (m.val : Int) (i.val + 1) + 2 ^ i.val + 2 ^ i.val ≤ 64 ∧ (1 ≤ (2 : Int) ^ i.val ∧ (2 : Int) ^ i.val ≤ 32) ∧ 0 ≤ (m.val : Int) / (2 * 2 ^ i.val) ∧ (m.val : Int) / (2 * 2 ^ i.val) ≤ 63 := by decide +kernel
  have := hc ⟨k.toNat, by omega⟩ ⟨j, hj⟩
  simp only [show ((k.toNat : Nat) : Int) = k by omega] at this
  obtain ⟨a1, a2, a3, a4, a5⟩ := this
  refine ⟨a3, ?_, a1, a2, a4, a5⟩
  unfold mpB
  rw [e]

set_option maxHeartbeats 8000000 in
theorem l7Clash_any (a : Option Addr) (c : Nat) (l : List Sl) (k v : Int) (t : Bool) (b : Option Addr) (cb : Nat) (q : Option Addr) (cq : Nat) (p : List Int) (w : World) (h : HasS w a l) (hl : l.length ≤ 1048576) (hok : ∀ s ∈ l, slOk s = true) (hk : 0 ≤ k ∧ k ≤ 63) (hv : 0 ≤ v ∧ v ≤ 65520) (hb : Has w .u8 b (lfB k t v).length (lfB k t v)) (hp : Has w .i64 q p.length p) (h6 : p.length = 6) (hall : allS p = true) (hcq : 6 ≤ cq ∧ cq ≤ maxLen) :
    Calls Tryd.prog 74 #[.slice a l.length c, .int .i64 k, .slice b (lfB k t v).length cb, .slice q 6 cq] w fun r w' => ∃ a1 c1 a2 c2, r = .returned (.agg #[.bool (mpK l k t v p 6).isSome, .slice a1 (clA (mpK l k t v p 6)).length c1, .slice a2 (clB (mpK l k t v p 6)).length c2]) ∧ OwnC w' w.heap.size a1 a2 c1 c2 (clA (mpK l k t v p 6)) (clB (mpK l k t v p 6)) ∧ Below w.heap.size w w' := by
  obtain ⟨bq, oq, rfl, hbq, hcell⟩ : ∃ b off, q = some ⟨b, off, none⟩ ∧ b < w.heap.size ∧ ∀ i, i < p.length → w.cell? ⟨b, off + i, none⟩ = some (.int .i64 (p.getD i 0)) := by
    rcases hp.2.2 with h0 | h1
    · omega
    · exact h1
  have LB : (lfB k t v).length ≤ 4 := lfB_len k v t
  have SB : 0 ≤ sumL (lfB k t v) ∧ sumL (lfB k t v) ≤ 65520 := sum_bd _
  obtain ⟨E, hE⟩ : ∃ E, E = w.alloc (.cells #[.bool false, .slice none 0 0, .slice none 0 0] 45) := ⟨_, rfl⟩
  have RE : Blk E w.heap.size #[.bool false, .slice none 0 0, .slice none 0 0] 45 := by rw [hE]; exact Blk.new _ _ _
  have B0 : Below w.heap.size w E := by rw [hE]; exact (Below.refl _ _).alloc (Nat.le_refl _) _
  have SU := l2Sum_any b cb (lfB k t v) E (hb.below B0 (Nat.le_refl _)) (by omega)
  have PC : Hid (∀ j : Nat, j < 6 → ∀ u : World, Below w.heap.size w u → Calls Tryd.prog 61 #[.int .i64 k, .int .i64 (sumL (lfB k t v)), .slice (some ⟨bq, oq, none⟩) j cq] u fun r w' => r = .returned (.int .i64 (mpC k (sumL (lfB k t v)) p j)) ∧ Below u.heap.size u w') := fun j hj u hu => by
    have hi := (hp.below hu (Nat.le_refl _)).init j (by omega)
    have tl : (p.take j).length = j := by simp; omega
    have := l7Climb_any (some ⟨bq, oq, none⟩) cq (p.take j) k (sumL (lfB k t v)) u hi (by omega) (allS_take hall j) hk.1 hk.2 SB
    rw [tl, mpC_take _ _ _ _ _ (Nat.le_refl _)] at this
    exact this
  have PN : Hid (∀ (j : Nat) (f : Int) (u : World), Below w.heap.size w u → j < 6 → 0 ≤ f → f + 2 ^ j ≤ 64 → Calls Tryd.prog 57 #[.slice a l.length c, .int .i64 f, .int .i64 (2 ^ j)] u fun r w' => r = .returned (.int .i64 (mpN l j f)) ∧ Below u.heap.size u w') := fun j f u hu hj h0 h1 => l7Node_any a c l hl hok j f (2 ^ j) u (h.below hu (Nat.le_refl _)) rfl (by have := (k_facts hj hk.1 hk.2).1.2; omega) h0 h1
  have PL : Hid (∀ u : World, Below w.heap.size w u → Calls Tryd.prog 94 #[.slice a l.length c, .int .i64 k] u fun r w' => ∃ a' c', r = .returned (.slice a' (slLeaf l k).length c') ∧ Has w' .u8 a' (slLeaf l k).length (slLeaf l k) ∧ Below u.heap.size u w') := fun u hu => (l7Leaf_any a c l k u (h.below hu (Nat.le_refl _)) hl hok hk).mono fun r w' ⟨a', c', e, O, hb⟩ => ⟨a', c', e, has_of_own O (slLeaf_wf hok hk), hb⟩
  have HB : Hid (∀ u : World, Below w.heap.size w u → Has u .u8 b (lfB k t v).length (lfB k t v)) := fun u hu => hb.below hu (Nat.le_refl _)
  have HQ : Hid (∀ (j : Nat) (u : World), j < 6 → Below w.heap.size w u → u.cell? ⟨bq, oq + j, none⟩ = some (.int .i64 (p.getD j 0)) ∧ bq < u.heap.size) := fun j u hj hu => ⟨(hu.cell (p := ⟨bq, oq + j, none⟩) hbq).trans (hcell j (by omega)), Nat.lt_of_lt_of_le hbq hu.size⟩
  have PB : Hid (∀ j, 0 ≤ p.getD j 0 ∧ p.getD j 0 ≤ 65520) := fun j => getD_bd hall j
  have MB : Hid (∀ j, 0 ≤ mpC k (sumL (lfB k t v)) p j ∧ mpC k (sumL (lfB k t v)) p j ≤ 65520) := fun j => mpC_bd k p SB j
  have LL : (slLeaf l k).length ≤ 4 := slLeaf_len l k
  clear h hb hp hcell hall hok hl
  have cq1 := hcq.1
  clear hcq
  go_enter Tryd.func74, Tryd.ntmps74
  go_wp2_with fail
  simp only [← hE]
  clear hE
  refine SU.mono ?_
  rintro r u ⟨rfl, hu⟩; have hu2 := hu.symm; subst hu2; clear hu SU
  have r0 := RE.cell 0
  have zE := RE.lt
  go_wp2_with fail
  go_loopw [10, 11, 12, 13, 14, 15, 16] (fun i s f m lo hi c wr => ∃ j : Nat, j ≤ 6 ∧ i = .int .i64 ((j : Int) - 1) ∧ mpK l k t v p 6 = mpK l k t v p j ∧ Below w.heap.size w wr ∧ Blk wr w.heap.size #[.bool false, .slice none 0 0, .slice none 0 0] 45) (fun i _ _ _ _ _ _ _ => (intOf i + 1).toNat)
  case atStart => exact ⟨6, Nat.le_refl _, by simp, rfl, B0, RE⟩
  case round =>
    clear r0 B0
    obtain ⟨j', hj, rfl, hK, hbel, R1⟩ := hrel
    cases j' with
    | zero =>
      have hneg : ¬ (0 : Int) ≤ ((0 : Nat) : Int) - 1 := by decide
      have r0 := R1.cell 0
      have r1 := R1.cell 1
      have r2 := R1.cell 2
      have rl := R1.lt
      simp at r0 r1 r2
      have zb := hbel.size
      have HK6 : Hid (mpK l k t v p 6 = lookC (lfB k t v) (slLeaf l k)) := hK
      go_wp2_with fail
      refine (PL.out _ hbel).mono ?_
      rintro r u1 ⟨a', c', rfl, HL, hb1⟩
      have B1 := hbel.trans (hb1.mono zb)
      have RU := R1.below hb1 R1.lt
      have HBU := HB.out _ B1
      go_wp2_with fail
      refine (l2Clash_own b a' cb c' _ _ _ HBU HL (by omega) (by omega)).mono ?_
      rintro r u2 ⟨a1, c1, a2, c2, rfl, O2, hb2⟩
      have B2 := B1.trans (hb2.mono B1.size)
      have RV := RU.below hb2 RU.lt
      generalize lookC (lfB k t v) (slLeaf l k) = X at *
      have r0 := RV.cell 0
      have r1 := RV.cell 1
      have r2 := RV.cell 2
      have g0 := RV.frozen 0
      have g1 := RV.frozen 1
      have g2 := RV.frozen 2
      have rl := RV.lt
      simp at r0 r1 r2
      have OH : Hid (OwnC u2 (w.heap.size + 1) a1 a2 c1 c2 (clA X) (clB X)) := O2.mono (by have := RU.lt; omega)
      have BH : Hid (Below w.heap.size w u2) := B2
      clear O2 B2 B1 RU R1 hb1 hb2 HL HBU hbel hK RV
      go_wp2
      refine bodyPost_ret (v := .agg #[.bool X.isSome, .slice a1 (clA X).length c1, .slice a2 (clB X).length c2]) (by simp [results, Tryd.results74, go_sem, r0, r1, r2]) rfl ⟨a1, c1, a2, c2, by rw [HK6.out], ?_, ?_⟩
      · rw [HK6.out]
        exact (((OH.out.set _ _ (Nat.lt_succ_self _)).set _ _ (Nat.lt_succ_self _)).set _ _ (Nat.lt_succ_self _)).mono (Nat.le_succ _)
      · exact ((BH.out.setCell (Nat.le_refl _) _).setCell (Nat.le_refl _) _).setCell (Nat.le_refl _) _
    | succ j =>
      have hj6 : j < 6 := by omega
      obtain ⟨⟨f1, f2⟩, f3, f4, f5, f6, f7⟩ := k_facts hj6 hk.1 hk.2
      have hi0 : ((j + 1 : Nat) : Int) - 1 = j := by omega
      have hij : (0 : Int) ≤ (j : Int) := by omega
      have hj6' : (j : Int) < 6 := by omega
      rw [hi0]
      go_wp2_with fail
      refine (PC.out j hj6 _ hbel).mono ?_
      rintro r u1 ⟨rfl, hb1⟩
      have B1 := hbel.trans (hb1.mono hbel.size)
      replace R1 := R1.below hb1 R1.lt
      go_wp2_with fail
      refine (PN.out j (mpB k (j + 1)) _ B1 hj6 f4 (by omega)).mono ?_
      rintro r u2 ⟨rfl, hb2⟩
      have B2 := B1.trans (hb2.mono B1.size)
      replace R1 := R1.below hb2 R1.lt
      go_wp2_with fail
      refine (PN.out j (mpB k (j + 1) + 2 ^ j) _ B2 hj6 (by omega) (by omega)).mono ?_
      rintro r u3 ⟨rfl, hb3⟩
      have B3 := B2.trans (hb3.mono B2.size)
      replace R1 := R1.below hb3 R1.lt
      clear hb1 hb2 hb3 hbel B1 B2
      obtain ⟨cc, kq⟩ := HQ.out j u3 hj6 B3
      have py := PB.out j
      have mb := MB.out j
      have nl := mpN_bd l j (mpB k (j + 1))
      have nh := mpN_bd l j (mpB k (j + 1) + 2 ^ j)
      have EK : mpK l k t v p (j + 1) = (ndC (ndQ k (sumL (lfB k t v)) p j).1 (ndQ k (sumL (lfB k t v)) p j).2 (mpN l j (mpB k (j + 1))) (mpN l j (mpB k (j + 1) + 2 ^ j)) <|> mpK l k t v p j) := rfl
      have EQ : ndQ k (sumL (lfB k t v)) p j = if k / 2 ^ j % 2 = 0 then (mpC k (sumL (lfB k t v)) p j, p.getD j 0) else (p.getD j 0, mpC k (sumL (lfB k t v)) p j) := rfl
      generalize mpC k (sumL (lfB k t v)) p j = m at *
      generalize p.getD j 0 = y at *
      generalize mpN l j (mpB k (j + 1)) = lo at *
      generalize mpN l j (mpB k (j + 1) + 2 ^ j) = hi at *
      have zr := B3.size
      have rl := R1.lt
      have hcj : (j : Int) < 6 := by omega
      go_wp2_with fail
      refine (l6Nodes_any y m lo hi _ py mb nl nh).mono ?_
      rintro r u4 ⟨a1, c1, a2, c2, rfl, O4, hb4⟩
      have B4 := B3.trans (hb4.mono B3.size)
      have R4 := R1.below hb4 R1.lt
      have z4 := hb4.size
      obtain ⟨Q, hQ⟩ : ∃ Q, k / 2 ^ j = Q := ⟨_, rfl⟩
      rw [hQ] at EQ
      have hq0 : 0 ≤ Q := by rw [← hQ]; exact Int.ediv_nonneg hk.1 (by omega)
      obtain ⟨F, hF⟩ : ∃ F, F = u4.alloc (.cells #[.bool (ndC y m lo hi).isSome, .slice a1 (clA (ndC y m lo hi)).length c1, .slice a2 (clB (ndC y m lo hi)).length c2] 45) := ⟨_, rfl⟩
      obtain ⟨V, hV⟩ : ∃ V, V = u4.heap.size := ⟨_, rfl⟩
      have SV : Blk F V #[.bool (ndC y m lo hi).isSome, .slice a1 (clA (ndC y m lo hi)).length c1, .slice a2 (clB (ndC y m lo hi)).length c2] 45 := by rw [hF, hV]; exact Blk.new _ _ _
      have bF : Below u4.heap.size u4 F := by rw [hF]; exact (Below.refl _ _).alloc (Nat.le_refl _) _
      have BF := B4.trans (bF.mono B4.size)
      have RV := R4.below bF R4.lt
      have vw : w.heap.size < V := by omega
      by_cases hbit : Q % 2 = 0
      · have hbb : (Q % 2 == 0) = true := by simpa using hbit
        rw [if_pos hbit] at EQ
        rw [EQ] at EK
        rw [EK] at hK
        have hK' : mpK l k t v p 6 = (ndC m y lo hi <|> mpK l k t v p j) := hK
        have b34 : Below u3.heap.size u3 F := hb4.trans (bF.mono z4)
        have cF := (b34.cell (p := ⟨bq, oq + j, none⟩) kq).trans cc
        have kF : bq < F.heap.size := Nat.lt_of_lt_of_le kq b34.size
        have zF := SV.lt
        clear EK EQ hK hbit O4 B4 R4 bF hb4 B3 R1 cc kq b34
        go_upto_region 12 with fail
        simp only [← hV, ← hF]
        clear hF hV
        go_wp2_with fail
        refine (l6Nodes_any m y lo hi _ mb py nl nh).mono ?_
        rintro r u5 ⟨a1', c1', a2', c2', rfl, O5, hb5⟩
        replace SV := SV.below hb5 SV.lt
        replace RV := RV.below hb5 RV.lt
        have B5 := BF.trans (hb5.mono BF.size)
        have m0 := SV.cell 0
        have m1 := SV.cell 1
        have m2 := SV.cell 2
        have n0 := SV.frozen 0
        have n1 := SV.frozen 1
        have n2 := SV.frozen 2
        simp at m0 m1 m2
        clear hb5 BF cF kF
        generalize ndC m y lo hi = X at *
        obtain ⟨T, hT⟩ : ∃ T, T = ((u5.setCell ⟨V, 0, none⟩ (.bool X.isSome)).setCell ⟨V, 1, none⟩ (.slice a1' (clA X).length c1')).setCell ⟨V, 2, none⟩ (.slice a2' (clB X).length c2') := ⟨_, rfl⟩
        have fT : Fr (fun k => k = V) u5 T := by rw [hT]; exact Fr.setCell (Fr.setCell (Fr.setCell (Fr.refl (fun k => k = V) u5) ⟨V, 0, none⟩ _ rfl) ⟨V, 1, none⟩ _ rfl) ⟨V, 2, none⟩ _ rfl
        have vF : V < F.heap.size := zF
        have OT : OwnC T F.heap.size a1' a2' c1' c2' (clA X) (clB X) := by rw [hT]; exact ((O5.set _ _ vF).set _ _ vF).set _ _ vF
        have BT : Below w.heap.size w T := by rw [hT]; exact ((B5.setCell (Nat.le_of_lt vw) _).setCell (Nat.le_of_lt vw) _).setCell (Nat.le_of_lt vw) _
        replace RV := RV.fr fT (show ¬ w.heap.size = V by omega)
        replace SV : Blk T V #[.bool X.isSome, .slice a1' (clA X).length c1', .slice a2' (clB X).length c2'] 45 := by rw [hT]; have := ((SV.set 0 (.bool X.isSome)).set 1 (.slice a1' (clA X).length c1')).set 2 (.slice a2' (clB X).length c2'); simpa using this
        clear B5 O5 fT
        go_upto_region 13 with fail
        simp only [← hT]
        clear hT m0 m1 m2 n0 n1 n2
        obtain ⟨a1, ha1⟩ : ∃ x, x = a1' := ⟨_, rfl⟩
        obtain ⟨a2, ha2⟩ : ∃ x, x = a2' := ⟨_, rfl⟩
        rw [← ha1, ← ha2] at OT SV
        rw [← ha1, ← ha2]
        clear ha1 ha2
        have t0 := SV.cell 0
        have t1 := SV.cell 1
        have t2 := SV.cell 2
        have vl := SV.lt
        simp at t0 t1 t2
        cases X with
        | some x =>
          have O6 : Hid (OwnC T (w.heap.size + 1) a1 a2 c1' c2' x.1 x.2) := OT.mono (by omega)
          have HK6 : Hid (mpK l k t v p 6 = some x) := hK'
          have r0 := RV.cell 0
          have r1 := RV.cell 1
          have r2 := RV.cell 2
          have g0 := RV.frozen 0
          have g1 := RV.frozen 1
          have g2 := RV.frozen 2
          have rl := RV.lt
          simp at r0 r1 r2
          simp only [Option.isSome_some, clA, clB] at t0 t1 t2
          have BH : Hid (Below w.heap.size w T) := BT
          clear OT hK' SV RV BT
          go_wp2
          refine bodyPost_ret (v := .agg #[.bool true, .slice a1 x.1.length c1', .slice a2 x.2.length c2']) (by simp [results, Tryd.results74, go_sem, r0, r1, r2]) rfl ⟨a1, c1', a2, c2', by rw [HK6.out]; rfl, ?_, ?_⟩
          · rw [HK6.out]
            exact (((O6.out.set _ _ (Nat.lt_succ_self _)).set _ _ (Nat.lt_succ_self _)).set _ _ (Nat.lt_succ_self _)).mono (Nat.le_succ _)
          · exact ((BH.out.setCell (Nat.le_refl _) _).setCell (Nat.le_refl _) _).setCell (Nat.le_refl _) _
        | none =>
          have HK6 : Hid (mpK l k t v p 6 = mpK l k t v p j) := hK'
          have hf : (none : Cl).isSome = false := rfl
          rw [hf] at t0
          clear OT hK' t1 t2 SV
          go_wp2
          go_roundw
          case rel => exact ⟨j, by omega, by go_num, HK6.out, BT, RV⟩
          case measure => simp [intOf]
      · have hbb : (Q % 2 == 0) = false := by simpa using hbit
        rw [if_neg hbit] at EQ
        rw [EQ] at EK
        rw [EK] at hK
        have hK' : mpK l k t v p 6 = (ndC y m lo hi <|> mpK l k t v p j) := hK
        have O4F := O4.below bF
        generalize ndC y m lo hi = X at *
        have zF := SV.lt
        clear EK EQ hK hbit O4 B4 R4 bF hb4 B3 R1 cc
        go_upto_region 13 with fail
        simp only [← hV, ← hF]
        clear hF hV
        have t0 := SV.cell 0
        have t1 := SV.cell 1
        have t2 := SV.cell 2
        have vl := SV.lt
        simp at t0 t1 t2
        cases X with
        | some x =>
          have O6 : Hid (OwnC F (w.heap.size + 1) a1 a2 c1 c2 x.1 x.2) := O4F.mono (by omega)
          have HK6 : Hid (mpK l k t v p 6 = some x) := hK'
          have r0 := RV.cell 0
          have r1 := RV.cell 1
          have r2 := RV.cell 2
          have g0 := RV.frozen 0
          have g1 := RV.frozen 1
          have g2 := RV.frozen 2
          have rl := RV.lt
          simp at r0 r1 r2
          simp only [Option.isSome_some, clA, clB] at t0 t1 t2
          have BH : Hid (Below w.heap.size w F) := BF
          clear O4F hK' SV RV BF
          go_wp2
          refine bodyPost_ret (v := .agg #[.bool true, .slice a1 x.1.length c1, .slice a2 x.2.length c2]) (by simp [results, Tryd.results74, go_sem, r0, r1, r2]) rfl ⟨a1, c1, a2, c2, by rw [HK6.out]; rfl, ?_, ?_⟩
          · rw [HK6.out]
            exact (((O6.out.set _ _ (Nat.lt_succ_self _)).set _ _ (Nat.lt_succ_self _)).set _ _ (Nat.lt_succ_self _)).mono (Nat.le_succ _)
          · exact ((BH.out.setCell (Nat.le_refl _) _).setCell (Nat.le_refl _) _).setCell (Nat.le_refl _) _
        | none =>
          have HK6 : Hid (mpK l k t v p 6 = mpK l k t v p j) := hK'
          have hf : (none : Cl).isSome = false := rfl
          rw [hf] at t0
          clear O4F hK' t1 t2 SV
          go_wp2
          go_roundw
          case rel => exact ⟨j, by omega, by go_num, HK6.out, BF, RV⟩
          case measure => simp [intOf]

end Go.Proofs.YtjjddjohckcmbaaDoor

namespace Go.Proofs.YtjjddjohckcmbaaDoor
open Go.ChangeShapes Go.WideShapes Go.ChangeAt Go.RowKit
set_option maxRecDepth 100000
set_option linter.unusedVariables false
set_option linter.unusedSimpArgs false

/-- The code of MapClash. -/
def mkC (l : List Sl) (k : Int) (t : Bool) (v : Int) (p : List Int) : Int := if slF l = 0 then (if clF k t v p = 0 then (if clW k t v p = mpN l 6 0 then 0 else 8) else clF k t v p) else slF l
/-- The clash of MapClash. -/
def mkX (l : List Sl) (k : Int) (t : Bool) (v : Int) (p : List Int) : Cl := if mkC l k t v p = 0 then mpK l k t v p 6 else none
theorem mkX_none {l : List Sl} {k v : Int} {t : Bool} {p : List Int} {c : Int} (h : mkC l k t v p = c) (hc : c ≠ 0) : mkX l k t v p = none := by unfold mkX; rw [if_neg (by rw [h]; exact hc)]
theorem mkC_zero {l : List Sl} {k v : Int} {t : Bool} {p : List Int} (h : mkC l k t v p = 0) : slF l = 0 ∧ clF k t v p = 0 ∧ clW k t v p = mpN l 6 0 := by
  unfold mkC at h
  split at h
  · split at h
    · split at h
      · exact ⟨‹_›, ‹_›, ‹_›⟩
      · omega
    · omega
  · omega
theorem mkX_some (l : List Sl) (k v : Int) (t : Bool) (p : List Int) : ∀ x, mkX l k t v p = some x → isCl x := by
  intro x h
  unfold mkX at h
  split at h
  · obtain ⟨h1, h2, _⟩ := mkC_zero ‹_›
    obtain ⟨k1, k2, _, _, k5⟩ := clF_zero h2
    exact mpK_some (slF_zero h1).2.1 k1 k2 k5 6 h
  · cases h

set_option maxHeartbeats 8000000 in
theorem specMapClash_any (a : Option Addr) (c : Nat) (l : List Sl) (k v : Int) (t : Bool) (q : Option Addr) (cq : Nat) (p : List Int) (w : World) (h : HasS w a l) (hl : l.length ≤ 1048576) (hp : Has w .i64 q p.length p) (hlp : p.length ≤ 1048576) (hcq : p.length ≤ cq) (hm : cq ≤ maxLen) :
    Calls Tryd.prog 31 #[.slice a l.length c, .int .i64 k, .bool t, .int .i64 v, .slice q p.length cq] w fun r w' => ∃ a1 c1 a2 c2, r = .returned (.agg #[.int .i64 (mkC l k t v p), .bool (mkX l k t v p).isSome, .slice a1 (clA (mkX l k t v p)).length c1, .slice a2 (clB (mkX l k t v p)).length c2]) ∧ OwnC w' w.heap.size a1 a2 c1 c2 (clA (mkX l k t v p)) (clB (mkX l k t v p)) ∧ Below w.heap.size w w' := by
  obtain ⟨E, hE⟩ : ∃ E, E = w.alloc (.cells #[.int .i64 0, .bool false, .slice none 0 0, .slice none 0 0] 47) := ⟨_, rfl⟩
  have RE : Blk E w.heap.size #[.int .i64 0, .bool false, .slice none 0 0, .slice none 0 0] 47 := by rw [hE]; exact Blk.new _ _ _
  have B0 : Below w.heap.size w E := by rw [hE]; exact (Below.refl _ _).alloc (Nat.le_refl _) _
  have LF := l7Fault_any a c l E (h.below B0 (Nat.le_refl _)) hl
  have CS : Hid (∀ u : World, Below w.heap.size w u → Calls Tryd.prog 16 #[.int .i64 k, .bool t, .int .i64 v, .slice q p.length cq] u fun r w' => r = .returned (.agg #[.int .i64 (clF k t v p), .int .i64 (clW k t v p)]) ∧ Below u.heap.size u w') := fun u hu => specClimbSlot_any k v t q cq p u (hp.below hu (Nat.le_refl _)) hlp
  by_cases hs : slF l = 0
  case neg =>
    have e : mkC l k t v p = slF l := by unfold mkC; rw [if_neg hs]
    rw [e, mkX_none e hs]
    have hs' : (slF l != 0) = true := by simpa using hs
    generalize slF l = sc at *
    clear CS h hp e hs
    go_enter Tryd.func31, Tryd.ntmps31
    go_wp2_with fail
    simp only [← hE]
    clear hE
    refine LF.mono ?_
    rintro r u1 ⟨rfl, hb1⟩
    have B1 := B0.trans (hb1.mono B0.size)
    replace RE := RE.below hb1 RE.lt
    have r0 : u1.cell? ⟨w.heap.size, 0, none⟩ = some (.int .i64 0) := (RE.cell 0).trans rfl
    have r1 : u1.cell? ⟨w.heap.size, 1, none⟩ = some (.bool false) := (RE.cell 1).trans rfl
    have r2 : u1.cell? ⟨w.heap.size, 2, none⟩ = some (.slice none 0 0) := (RE.cell 2).trans rfl
    have r3 : u1.cell? ⟨w.heap.size, 3, none⟩ = some (.slice none 0 0) := (RE.cell 3).trans rfl
    have g0 := RE.frozen 0
    have g1 := RE.frozen 1
    have g2 := RE.frozen 2
    have g3 := RE.frozen 3
    have rl := RE.lt
    clear LF hb1 RE
    go_wp2
    refine bodyPost_ret (v := .agg #[.int .i64 (sc), .bool false, .slice none 0 0, .slice none 0 0]) (by simp [results, Tryd.results31, go_sem, r0, r1, r2, r3]) rfl ⟨none, 0, none, 0, rfl, OwnC.nil _ _, ?_⟩
    exact ((((B1).setCell (Nat.le_refl _) _).setCell (Nat.le_refl _) _).setCell (Nat.le_refl _) _).setCell (Nat.le_refl _) _
  obtain ⟨_, ok, _⟩ := slF_zero hs
  rw [hs] at LF
  by_cases hcl : clF k t v p = 0
  case neg =>
    have e : mkC l k t v p = clF k t v p := by unfold mkC; rw [if_pos hs, if_neg hcl]
    rw [e, mkX_none e hcl]
    have hs' : (clF k t v p != 0) = true := by simpa using hcl
    generalize clF k t v p = sc at *
    generalize clW k t v p = sv at *
    clear h hp e hs hcl ok
    go_enter Tryd.func31, Tryd.ntmps31
    go_wp2_with fail
    simp only [← hE]
    clear hE
    refine LF.mono ?_
    rintro r u1 ⟨rfl, hb1⟩
    have B1 := B0.trans (hb1.mono B0.size)
    replace RE := RE.below hb1 RE.lt
    clear LF hb1
    go_wp2_with fail
    refine (CS.out _ B1).mono ?_
    rintro r u2 ⟨rfl, hb2⟩
    have B2 := B1.trans (hb2.mono B1.size)
    replace RE := RE.below hb2 RE.lt
    obtain ⟨Y, hY⟩ : ∃ Y, Y = u2.alloc (.cells #[.int .i64 sc, .int .i64 sv] 34) := ⟨_, rfl⟩
    obtain ⟨V, hV⟩ : ∃ V, V = u2.heap.size := ⟨_, rfl⟩
    have SV : Blk Y V #[.int .i64 sc, .int .i64 sv] 34 := by rw [hY, hV]; exact Blk.new _ _ _
    have bY : Below u2.heap.size u2 Y := by rw [hY]; exact (Below.refl _ _).alloc (Nat.le_refl _) _
    have BY := B2.trans (bY.mono B2.size)
    replace RE := RE.below bY RE.lt
    have s0 := SV.cell 0
    have sl := SV.lt
    simp at s0
    clear CS hb2 bY B1 B2 SV
    go_upto_region 5 with fail
    simp only [← hV, ← hY]
    clear hV hY
    have r0 : Y.cell? ⟨w.heap.size, 0, none⟩ = some (.int .i64 0) := (RE.cell 0).trans rfl
    have r1 : Y.cell? ⟨w.heap.size, 1, none⟩ = some (.bool false) := (RE.cell 1).trans rfl
    have r2 : Y.cell? ⟨w.heap.size, 2, none⟩ = some (.slice none 0 0) := (RE.cell 2).trans rfl
    have r3 : Y.cell? ⟨w.heap.size, 3, none⟩ = some (.slice none 0 0) := (RE.cell 3).trans rfl
    have g0 := RE.frozen 0
    have g1 := RE.frozen 1
    have g2 := RE.frozen 2
    have g3 := RE.frozen 3
    have rl := RE.lt
    clear RE
    go_wp2
    refine bodyPost_ret (v := .agg #[.int .i64 (sc), .bool false, .slice none 0 0, .slice none 0 0]) (by simp [results, Tryd.results31, go_sem, r0, r1, r2, r3]) rfl ⟨none, 0, none, 0, rfl, OwnC.nil _ _, ?_⟩
    exact ((((BY).setCell (Nat.le_refl _) _).setCell (Nat.le_refl _) _).setCell (Nat.le_refl _) _).setCell (Nat.le_refl _) _
  obtain ⟨k1, k2, k3, k4, k5⟩ := clF_zero hcl
  have ND : Hid (∀ u : World, Below w.heap.size w u → Calls Tryd.prog 57 #[.slice a l.length c, .int .i64 0, .int .i64 64] u fun r w' => r = .returned (.int .i64 (mpN l 6 0)) ∧ Below u.heap.size u w') := fun u hu => l7Node_any a c l hl ok 6 0 64 u (h.below hu (Nat.le_refl _)) (by decide) (by decide) (by decide) (by decide)
  have LB : Hid (∀ u : World, Below w.heap.size w u → Calls Tryd.prog 63 #[.int .i64 k, .bool t, .int .i64 v] u fun r w' => ∃ b cb, r = .returned (.slice b (lfB k t v).length cb) ∧ Has w' .u8 b (lfB k t v).length (lfB k t v) ∧ Below u.heap.size u w') := fun u _ => (l7Bytes_any k v t u k1 k2).mono fun r w' ⟨b, cb, e, O, hb⟩ => ⟨b, cb, e, has_of_own O (lfB_wf t k1 k2), hb⟩
  have CK : Hid (∀ (b : Option Addr) (cb : Nat) (u : World), Below w.heap.size w u → Has u .u8 b (lfB k t v).length (lfB k t v) → Calls Tryd.prog 74 #[.slice a l.length c, .int .i64 k, .slice b (lfB k t v).length cb, .slice q 6 cq] u fun r w' => ∃ a1 c1 a2 c2, r = .returned (.agg #[.bool (mpK l k t v p 6).isSome, .slice a1 (clA (mpK l k t v p 6)).length c1, .slice a2 (clB (mpK l k t v p 6)).length c2]) ∧ OwnC w' u.heap.size a1 a2 c1 c2 (clA (mpK l k t v p 6)) (clB (mpK l k t v p 6)) ∧ Below u.heap.size u w') := fun b cb u hu hb => l7Clash_any a c l k v t b cb q cq p u (h.below hu (Nat.le_refl _)) hl ok k1 k2 hb (hp.below hu (Nat.le_refl _)) k4 k5 ⟨by omega, hm⟩
  rw [hcl] at CS
  have EC : mkC l k t v p = if clW k t v p = mpN l 6 0 then 0 else 8 := by unfold mkC; rw [if_pos hs, if_pos hcl]
  have EX : mkC l k t v p = 0 → mkX l k t v p = mpK l k t v p 6 := fun e => by unfold mkX; rw [if_pos e]
  have EN : ∀ cc, mkC l k t v p = cc → cc ≠ 0 → mkX l k t v p = none := fun cc e hc => mkX_none e hc
  generalize mkC l k t v p = MC at *
  generalize mkX l k t v p = MX at *
  rw [k4] at CS ⊢
  by_cases hr : clW k t v p = mpN l 6 0
  case neg =>
    rw [if_neg hr] at EC
    have e1 := EN 8 EC (by decide)
    subst EC
    rw [e1]
    have hr' : (clW k t v p != mpN l 6 0) = true := by simpa using hr
    generalize clW k t v p = sv at *
    generalize mpN l 6 0 = rv at *
    clear EN EX LB CK h hp hs hcl ok hr k1 k2 k3 k4 k5 e1
    go_enter Tryd.func31, Tryd.ntmps31
    go_wp2_with fail
    simp only [← hE]
    clear hE
    refine LF.mono ?_
    rintro r u1 ⟨rfl, hb1⟩
    have B1 := B0.trans (hb1.mono B0.size)
    replace RE := RE.below hb1 RE.lt
    clear LF hb1
    go_wp2_with fail
    refine (CS.out _ B1).mono ?_
    rintro r u2 ⟨rfl, hb2⟩
    have B2 := B1.trans (hb2.mono B1.size)
    replace RE := RE.below hb2 RE.lt
    obtain ⟨Y, hY⟩ : ∃ Y, Y = u2.alloc (.cells #[.int .i64 0, .int .i64 sv] 34) := ⟨_, rfl⟩
    obtain ⟨V, hV⟩ : ∃ V, V = u2.heap.size := ⟨_, rfl⟩
    have SV : Blk Y V #[.int .i64 0, .int .i64 sv] 34 := by rw [hY, hV]; exact Blk.new _ _ _
    have bY : Below u2.heap.size u2 Y := by rw [hY]; exact (Below.refl _ _).alloc (Nat.le_refl _) _
    have BY := B2.trans (bY.mono B2.size)
    replace RE := RE.below bY RE.lt
    clear CS hb2 bY B1 B2
    go_upto_region 7 with fail
    simp only [← hV, ← hY]
    clear hV hY
    have hne : Nonempty (KeptW Y) := ⟨⟨Y, Below.refl _ _⟩⟩
    have KB : Hid (∀ d : KeptW Y, Below w.heap.size w d.wd) := fun d => BY.trans (d.hb.mono BY.size)
    have K1 := KeptW.cell (v := .int .i64 sv) ((SV.cell 1).trans rfl) SV.lt
    have REH : Hid (Blk Y w.heap.size #[.int .i64 0, .bool false, .slice none 0 0, .slice none 0 0] 47) := RE
    clear SV BY RE
    refine wp_region_kept (by kernel_rfl) (by kernel_rfl) ?_
    iterate 5 (go_big_quiet_step ((go_at_call 57; exact KeptW.calls (ND.out _ (KB.out _)))))
    refine wpQuiet_nil ?_
    rintro _ ⟨d, rfl⟩
    have RE := REH.out.below d.hb REH.out.lt
    have BD := KB.out d
    obtain ⟨X, hX⟩ : ∃ X, X = d.wd := ⟨_, rfl⟩
    rw [← hX] at RE BD ⊢
    clear hX
    have r0 : X.cell? ⟨w.heap.size, 0, none⟩ = some (.int .i64 0) := (RE.cell 0).trans rfl
    have r1 : X.cell? ⟨w.heap.size, 1, none⟩ = some (.bool false) := (RE.cell 1).trans rfl
    have r2 : X.cell? ⟨w.heap.size, 2, none⟩ = some (.slice none 0 0) := (RE.cell 2).trans rfl
    have r3 : X.cell? ⟨w.heap.size, 3, none⟩ = some (.slice none 0 0) := (RE.cell 3).trans rfl
    have g0 := RE.frozen 0
    have g1 := RE.frozen 1
    have g2 := RE.frozen 2
    have g3 := RE.frozen 3
    have rl := RE.lt
    clear RE REH
    go_wp2
    refine bodyPost_ret (v := .agg #[.int .i64 (8), .bool false, .slice none 0 0, .slice none 0 0]) (by simp [results, Tryd.results31, go_sem, r0, r1, r2, r3]) rfl ⟨none, 0, none, 0, rfl, OwnC.nil _ _, ?_⟩
    exact ((((BD).setCell (Nat.le_refl _) _).setCell (Nat.le_refl _) _).setCell (Nat.le_refl _) _).setCell (Nat.le_refl _) _
  rw [if_pos hr] at EC
  have e1 := EX EC
  subst EC
  rw [e1]
  have hr' : (clW k t v p != mpN l 6 0) = false := by simpa using hr
  generalize clW k t v p = sv at *
  generalize mpN l 6 0 = rv at *
  generalize mpK l k t v p 6 = X at *
  generalize lfB k t v = bs at *
  clear EN EX h hp hs hcl ok hr k1 k2 k3 k4 k5 e1
  go_enter Tryd.func31, Tryd.ntmps31
  go_wp2_with fail
  simp only [← hE]
  clear hE
  refine LF.mono ?_
  rintro r u1 ⟨rfl, hb1⟩
  have B1 := B0.trans (hb1.mono B0.size)
  replace RE := RE.below hb1 RE.lt
  clear LF hb1
  go_wp2_with fail
  refine (CS.out _ B1).mono ?_
  rintro r u2 ⟨rfl, hb2⟩
  have B2 := B1.trans (hb2.mono B1.size)
  replace RE := RE.below hb2 RE.lt
  obtain ⟨Y, hY⟩ : ∃ Y, Y = u2.alloc (.cells #[.int .i64 0, .int .i64 sv] 34) := ⟨_, rfl⟩
  obtain ⟨V, hV⟩ : ∃ V, V = u2.heap.size := ⟨_, rfl⟩
  have SV : Blk Y V #[.int .i64 0, .int .i64 sv] 34 := by rw [hY, hV]; exact Blk.new _ _ _
  have bY : Below u2.heap.size u2 Y := by rw [hY]; exact (Below.refl _ _).alloc (Nat.le_refl _) _
  have BY := B2.trans (bY.mono B2.size)
  replace RE := RE.below bY RE.lt
  clear CS hb2 bY B1 B2
  go_upto_region 7 with fail
  simp only [← hV, ← hY]
  clear hV hY
  have hne : Nonempty (KeptW Y) := ⟨⟨Y, Below.refl _ _⟩⟩
  have KB : Hid (∀ d : KeptW Y, Below w.heap.size w d.wd) := fun d => BY.trans (d.hb.mono BY.size)
  have K1 := KeptW.cell (v := .int .i64 sv) ((SV.cell 1).trans rfl) SV.lt
  have REH : Hid (Blk Y w.heap.size #[.int .i64 0, .bool false, .slice none 0 0, .slice none 0 0] 47) := RE
  clear SV BY RE
  refine wp_region_kept (by kernel_rfl) (by kernel_rfl) ?_
  iterate 5 (go_big_quiet_step ((go_at_call 57; exact KeptW.calls (ND.out _ (KB.out _)))))
  refine wpQuiet_nil ?_
  rintro _ ⟨d, rfl⟩
  have RE := REH.out.below d.hb REH.out.lt
  have BD := KB.out d
  obtain ⟨T, hT⟩ : ∃ X, X = d.wd := ⟨_, rfl⟩
  rw [← hT] at RE BD ⊢
  clear hT REH K1 KB ND hne
  go_wp2_with fail
  refine (LB.out _ BD).mono ?_
  rintro r u3 ⟨b, cb, rfl, HB, hb3⟩
  have B3 := BD.trans (hb3.mono BD.size)
  replace RE := RE.below hb3 RE.lt
  clear hb3
  go_wp2_with fail
  refine (CK.out _ _ _ B3 HB).mono ?_
  rintro r u4 ⟨a1, c1, a2, c2, rfl, O4, hb4⟩
  have B4 := B3.trans (hb4.mono B3.size)
  have zz := RE.lt
  replace RE := RE.below hb4 RE.lt
  have OH : Hid (OwnC u4 (w.heap.size + 1) a1 a2 c1 c2 (clA X) (clB X)) := O4.mono (by omega)
  have BH : Hid (Below w.heap.size w u4) := B4
  clear zz
  have r0 : u4.cell? ⟨w.heap.size, 0, none⟩ = some (.int .i64 0) := (RE.cell 0).trans rfl
  have r1 : u4.cell? ⟨w.heap.size, 1, none⟩ = some (.bool false) := (RE.cell 1).trans rfl
  have r2 : u4.cell? ⟨w.heap.size, 2, none⟩ = some (.slice none 0 0) := (RE.cell 2).trans rfl
  have r3 : u4.cell? ⟨w.heap.size, 3, none⟩ = some (.slice none 0 0) := (RE.cell 3).trans rfl
  have g0 := RE.frozen 0
  have g1 := RE.frozen 1
  have g2 := RE.frozen 2
  have g3 := RE.frozen 3
  have rl := RE.lt
  clear RE O4 B4 B3 hb4 HB LB CK BD
  go_wp2
  refine bodyPost_ret (v := .agg #[.int .i64 0, .bool X.isSome, .slice a1 (clA X).length c1, .slice a2 (clB X).length c2]) (by simp [results, Tryd.results31, go_sem, r0, r1, r2, r3]) rfl ⟨a1, c1, a2, c2, rfl, ?_, ?_⟩
  · exact ((((OH.out.set _ _ (Nat.lt_succ_self _)).set _ _ (Nat.lt_succ_self _)).set _ _ (Nat.lt_succ_self _)).set _ _ (Nat.lt_succ_self _)).mono (Nat.le_succ _)
  · exact (((BH.out.setCell (Nat.le_refl _) _).setCell (Nat.le_refl _) _).setCell (Nat.le_refl _) _).setCell (Nat.le_refl _) _

end Go.Proofs.YtjjddjohckcmbaaDoor
