/- Contracts: the model's draw for CheckSign. -/
import Derived.Test.YtncckpdglimdoaaDoorKyBo
import Derived.Test.YtncckpdglimdoaaDoorPath4S
namespace Go.Proofs.YtncckpdglimdoaaDoor
open Go.ChangeShapes Go.WideShapes Go.ChangeAt Go.RowKit
set_option maxRecDepth 100000
set_option linter.unusedVariables false
set_option linter.unusedSimpArgs false

theorem l1Min_any (x y : Int) (w : World) : Calls Tryd.prog 87 #[.int .i64 x, .int .i64 y] w fun r w' => r = .returned (.int .i64 (if x < y then x else y)) ∧ w' = w := by
  by_cases h : x < y
  · rw [if_pos h]
    go_enter Tryd.func87, Tryd.ntmps87
    go_wp2
    go_ret
    exact ⟨rfl, rfl⟩
  · rw [if_neg h]
    have h' : y ≤ x := by omega
    go_enter Tryd.func87, Tryd.ntmps87
    go_wp2
    go_ret
    exact ⟨rfl, rfl⟩

theorem l1Max_any (x y : Int) (w : World) : Calls Tryd.prog 86 #[.int .i64 x, .int .i64 y] w fun r w' => r = .returned (.int .i64 (if y < x then x else y)) ∧ w' = w := by
  by_cases h : y < x
  · rw [if_pos h]
    go_enter Tryd.func86, Tryd.ntmps86
    go_wp2
    go_ret
    exact ⟨rfl, rfl⟩
  · rw [if_neg h]
    have h' : x ≤ y := by omega
    go_enter Tryd.func86, Tryd.ntmps86
    go_wp2
    go_ret
    exact ⟨rfl, rfl⟩

theorem has_only {w w' : World} {k : IntKind} {a : Option Addr} {len s : Nat} {zs : List Int} (h : Has w k a len zs) (hs : ∀ y, a = some y → s ≠ y.block) (ho : Only s w w') : Has w' k a len zs := by
  refine ⟨h.1, h.2.1, h.2.2.imp id ?_⟩
  rintro ⟨b, off, rfl, hlt, hc⟩
  have := hs _ rfl
  exact ⟨b, off, rfl, Nat.lt_of_lt_of_le hlt ho.size, fun i hi => (ho.cell hlt (Ne.symm this)).trans (hc i hi)⟩

/-- What DrawCheckSign answers with. -/
def CsAt (w : World) (e : Ending) (w' : World) : Prop := ∃ (i : Int) (a1 : Option Addr) (c1 : Nat) (sh : List Int) (a2 : Option Addr) (c2 : Nat) (ot : List Int) (x : Int) (a3 : Option Addr) (c3 : Nat) (ps : List Int) (rt : Int), e = .returned (.tuple #[.agg #[.int .i64 i, .slice a1 sh.length c1, .slice a2 ot.length c2], .int .i64 x, .int .i64 5, .slice a3 ps.length c3, .int .i64 rt]) ∧ sh.length ≤ 16 ∧ ot.length ≤ 16 ∧ ps.length ≤ 10 ∧ ps.length ≤ c3 ∧ c3 ≤ maxLen ∧ Has w' .i64 a1 sh.length sh ∧ Has w' .i64 a2 ot.length ot ∧ Has w' .i64 a3 ps.length ps ∧ Below w.heap.size w w'

set_option maxHeartbeats 8000000 in
theorem drawCheckSign_any (w : World) (a : Option Addr) (len cap : Nat) (zs : List Int) (h : Has w .u8 a len zs) (hl : len ≤ 1048576) :
    Calls Tryd.prog 32 #[.slice a len cap] w fun e w' => CsAt w e w' := by
  obtain ⟨j0, hi, hz0, hz1, hz2⟩ := info_parts info64
  obtain ⟨V0, hV0⟩ : ∃ V0, V0 = w.heap.size := ⟨_, rfl⟩
  obtain ⟨E, hE⟩ : ∃ E, E = w.alloc (.cells #[.int .i64 0, .slice none 0 0, .slice none 0 0] 28) := ⟨_, rfl⟩
  have RE : Blk E V0 #[.int .i64 0, .slice none 0 0, .slice none 0 0] 28 := by rw [hE, hV0]; exact Blk.new _ _ _
  have B0 : Below w.heap.size w E := by rw [hE]; exact (Below.refl _ _).alloc (Nat.le_refl _) _
  have h' := h.below B0 (Nat.le_refl _)
  have vw : w.heap.size ≤ V0 := by omega
  clear h
  go_enter Tryd.func32, Tryd.ntmps32
  go_wp2_with fail
  simp only [← hV0, ← hE]
  clear hE hV0
  refine (source_any E a len cap zs h' hl).mono ?_
  rintro e u1 ⟨rfl, S1, hb1, hs1⟩
  have R1 := RE.below hb1 RE.lt
  have B1 := B0.trans (hb1.mono B0.size)
  have zE := RE.lt
  have z0 := B0.size
  obtain ⟨s0, hs0⟩ : ∃ s, s = E.heap.size := ⟨_, rfl⟩
  rw [← hs0] at S1 hs1 ⊢
  have hsV : s0 ≠ V0 := by omega
  have hsw : w.heap.size ≤ s0 := by omega
  have hVs : V0 < s0 := by omega
  clear RE hb1 B0 h' hs0 zE z0
  go_wp2_with fail
  refine (next_any _ _ _ a len cap zs 0 4 S1 (by omega) (by omega) (by omega)).mono ?_
  rintro e u2 ⟨s, rfl, s00, s01, S2, Y2⟩
  have R2 := R1.fr (M := fun k => s0 = k) (.of_grown Y2.grown (fun k e => by simpa using e)) hsV
  replace B1 := B1.trans (Y2.below hsw B1.size)
  have hs2 : s0 < u2.heap.size := Nat.lt_of_lt_of_le hs1 Y2.size
  clear S1 R1 Y2 hs1
  go_wp2_with fail
  refine (l8Keys_any s 5 _ (by omega) (by omega)).mono ?_
  rintro e u3 ⟨ak, ck, rfl, KO, hb3⟩
  have KL := keysL_len s 5
  have KA := keysL_all s 5
  obtain ⟨ks, hks⟩ : ∃ l, l = keysL s 5 := ⟨_, rfl⟩
  rw [← hks] at KO KL KA ⊢
  clear hks
  have KW := allS_wf KA
  have KLH : Hid (ks.length = 5) := KL
  clear KL
  have R3 := R2.below hb3 R2.lt
  have S3 := S2.below' hb3 hs2
  replace B1 := B1.trans (hb3.mono B1.size)
  have hs3 : s0 < u3.heap.size := Nat.lt_of_lt_of_le hs2 hb3.size
  have zz3 := hb3.size
  clear S2 R2 hb3
  go_wp2_with fail
  refine (l8Bent_any _ _ _ a len cap zs _ S3 (by omega)).mono ?_
  rintro e u4 ⟨i, a1, c1, sh, a2, c2, ot, x, t', rfl, l1, l2, b1, b2, H1, H2, S, ht', Y⟩
  have RV := R3.fr (M := fun k => s0 = k) (.of_grown Y.grown (fun k e => by simpa using e)) hsV
  have N1 : Hid (∀ y, a1 = some y → s0 ≠ y.block) := fun y hy => by have := b1 y hy; omega
  have N2 : Hid (∀ y, a2 = some y → s0 ≠ y.block) := fun y hy => by have := b2 y hy; omega
  have M1 : Hid (∀ y, a1 = some y → V0 ≠ y.block) := fun y hy => by have := b1 y hy; omega
  have M2 : Hid (∀ y, a2 = some y → V0 ≠ y.block) := fun y hy => by have := b2 y hy; omega
  replace KO := own_only KO Y hs2
  replace B1 := B1.trans (Y.below hsw B1.size)
  have hs4 : s0 < u4.heap.size := Nat.lt_of_lt_of_le hs3 Y.size
  have zz4 := Y.size
  have KV : Hid (∀ g, (Value.slice ak ks.length ck).ownBlock = some g → g < u4.heap.size) := fun g e => (KO.lt g e).2
  clear R3 S3 Y b1 b2
  obtain ⟨F, hF⟩ : ∃ F, F = u4.alloc (.cells #[.int .i64 i, .slice a1 sh.length c1, .slice a2 ot.length c2] 28) := ⟨_, rfl⟩
  obtain ⟨V, hV⟩ : ∃ V, V = u4.heap.size := ⟨_, rfl⟩
  have SV : Blk F V #[.int .i64 i, .slice a1 sh.length c1, .slice a2 ot.length c2] 28 := by rw [hF, hV]; exact Blk.new _ _ _
  have bb : Below u4.heap.size u4 F := by rw [hF]; exact (Below.refl _ _).alloc (Nat.le_refl _) _
  have SF := S.below' bb hs4
  replace RV := RV.below bb RV.lt
  replace H1 := H1.below bb (Nat.le_refl _)
  replace H2 := H2.below bb (Nat.le_refl _)
  replace KO := own_below KO bb
  replace B1 := B1.trans (bb.mono B1.size)
  have hsW : s0 ≠ V := by omega
  have hVV : V0 ≠ V := by omega
  have hVb : w.heap.size ≤ V := by omega
  have hu2V : u2.heap.size ≤ V := by omega
  have KV2 : Hid (∀ g, (Value.slice ak ks.length ck).ownBlock = some g → g ≠ V) := fun g e => by have := KV.out g e; omega
  have SVL := SV.lt
  clear bb S
  go_wp2_with fail
  simp only [← hV, ← hF]
  clear hF hV
  refine (chance_any _ _ _ a len cap zs _ 2 SF (by omega) (by omega) (by omega)).mono ?_
  rintro e u5 ⟨v, rfl, S, Y⟩
  have S5 := S
  have hs5 : s0 < u5.heap.size := Nat.lt_of_lt_of_le (by omega) Y.size
  have hzV : V < u5.heap.size := Nat.lt_of_lt_of_le SVL Y.size
  have hs1 := hs2
  have f := (.of_grown Y.grown (fun k e => by simpa using e) : Fr (fun k => s0 = k) _ _)
  replace RV := RV.fr f hsV
  replace SV := SV.fr f hsW
  replace H1 := has_only H1 N1.out Y
  replace H2 := has_only H2 N2.out Y
  replace KO := own_only KO Y hs1
  replace B1 := B1.trans (Y.below hsw B1.size)
  clear f Y S
  clear SF
  cases v with
  | true =>
    go_wp2_with fail
    refine (next_wide _ _ _ a len cap zs _ 65521 S5 (by omega) (by omega) (by omega)).mono ?_
    rintro e u6 ⟨x, rfl, x0, x1, S, Y⟩
    have S6 := S
    have f := (.of_grown Y.grown (fun k e => by simpa using e) : Fr (fun k => s0 = k) _ _)
    replace RV := RV.fr f hsV
    replace SV := SV.fr f hsW
    replace H1 := has_only H1 N1.out Y
    replace H2 := has_only H2 N2.out Y
    replace KO := own_only KO Y hs1
    replace B1 := B1.trans (Y.below hsw B1.size)
    clear f Y S
    clear S5
    go_wp2_with fail
    refine (next_any _ _ _ a len cap zs _ 5 S6 (by omega) (by omega) (by omega)).mono ?_
    rintro e u7 ⟨i, rfl, i0, i1, S, Y⟩
    have S7 := S
    have hs7 : s0 < u7.heap.size := S.lt
    have f := (.of_grown Y.grown (fun k e => by simpa using e) : Fr (fun k => s0 = k) _ _)
    replace RV := RV.fr f hsV
    replace SV := SV.fr f hsW
    replace H1 := has_only H1 N1.out Y
    replace H2 := has_only H2 N2.out Y
    replace KO := own_only KO Y hs1
    replace B1 := B1.trans (Y.below hsw B1.size)
    clear f Y S
    clear S6
    go_wp2_with fail
    refine (l8Sign_any s i x _ (by omega) (by omega) (by omega)).mono ?_
    rintro e u8 ⟨a1, c1, a2, c2, rfl, O1, O2, ap, hb8⟩
    have l1_ : (shW s i x (List.range 16)).length = 16 := by rw [shW_len]; simp
    have l2_ : (otW s i x (List.range 16)).length = 16 := by rw [otW_len]; simp
    have w1 := allS_wf (shW_all s i x (List.range 16))
    have w2 := allS_wf (otW_all s i x (List.range 16))
    generalize shW s i x (List.range 16) = sh at *
    generalize otW s i x (List.range 16) = ot at *
    have l1 : sh.length ≤ 16 := Nat.le_of_eq l1_
    have l2 : ot.length ≤ 16 := Nat.le_of_eq l2_
    have RQ := RV.lt
    have SQ := SV.lt
    have N1 : Hid (∀ y, a1 = some y → s0 ≠ y.block) := fun y hy => by have := own_base O1 y hy; omega
    have N2 : Hid (∀ y, a2 = some y → s0 ≠ y.block) := fun y hy => by have := own_base O2 y hy; omega
    have M1 : Hid (∀ y, a1 = some y → V0 ≠ y.block) := fun y hy => by have := own_base O1 y hy; omega
    have M2 : Hid (∀ y, a2 = some y → V0 ≠ y.block) := fun y hy => by have := own_base O2 y hy; omega
    have K1 : Hid (∀ y, a1 = some y → V ≠ y.block) := fun y hy => by have := own_base O1 y hy; omega
    have K2 : Hid (∀ y, a2 = some y → V ≠ y.block) := fun y hy => by have := own_base O2 y hy; omega
    have H1 := has_of_own O1 w1
    have H2 := has_of_own O2 w2
    have S8 := S7.below' hb8 hs7
    replace RV := RV.below hb8 RV.lt
    replace SV := SV.below hb8 SV.lt
    replace KO := own_below KO hb8
    replace B1 := B1.trans (hb8.mono B1.size)
    clear O1 O2 ap hb8 S7 l1_ l2_
    have m0 := SV.cell 0
    have m1 := SV.cell 1
    have m2 := SV.cell 2
    have f0 := SV.frozen 0
    have f1 := SV.frozen 1
    have f2 := SV.frozen 2
    simp at m0 m1 m2
    obtain ⟨T, hT⟩ : ∃ T, T = ((u8.setCell ⟨V, 0, none⟩ (.int .i64 i)).setCell ⟨V, 1, none⟩ (.slice a1 sh.length c1)).setCell ⟨V, 2, none⟩ (.slice a2 ot.length c2) := ⟨_, rfl⟩
    have fT : Fr (fun k => k = V) u8 T := by rw [hT]; exact Fr.setCell (Fr.setCell (Fr.setCell (Fr.refl (fun k => k = V) u8) ⟨V, 0, none⟩ _ rfl) ⟨V, 1, none⟩ _ rfl) ⟨V, 2, none⟩ _ rfl
    replace SV : Blk T V #[.int .i64 i, .slice a1 sh.length c1, .slice a2 ot.length c2] 28 := by rw [hT]; have := ((SV.set 0 (.int .i64 i)).set 1 (.slice a1 sh.length c1)).set 2 (.slice a2 ot.length c2); simpa using this
    replace RV := RV.fr fT hVV
    replace KO := own_fr KO fT (fun g e1 e2 => KV2.out g e1 e2)
    replace H1 : Has T .i64 a1 sh.length sh := by rw [hT]; exact has_off (has_off (has_off H1 K1.out _) K1.out _) K1.out _
    replace H2 : Has T .i64 a2 ot.length ot := by rw [hT]; exact has_off (has_off (has_off H2 K2.out _) K2.out _) K2.out _
    have ST := S8.below' (N := V) ((((Below.refl V u8).setCell (p := ⟨V, 0, none⟩) (Nat.le_refl _) (.int .i64 i)).setCell (p := ⟨V, 1, none⟩) (Nat.le_refl _) (.slice a1 sh.length c1)).setCell (p := ⟨V, 2, none⟩) (Nat.le_refl _) (.slice a2 ot.length c2)) (by omega)
    rw [← hT] at ST
    replace B1 : Below w.heap.size w T := by rw [hT]; exact ((B1.setCell hVb _).setCell hVb _).setCell hVb _
    have hsT : s0 < T.heap.size := ST.lt
    clear S8 fT
    go_wp2_with fail
    simp only [← hT]
    clear hT m0 m1 m2 f0 f1 f2
    refine (l1Min_any 4 i _).mono ?_
    rintro r u ⟨rfl, hu⟩; have hu2 := hu.symm; subst hu2; clear hu
    obtain ⟨p, hp⟩ : ∃ p, p = if 4 < i then 4 else i := ⟨_, rfl⟩
    rw [← hp]
    have hp4 : p ≤ 4 := by rw [hp]; split <;> omega
    clear hp
    go_wp2_with fail
    refine (l1Max_any 0 p _).mono ?_
    rintro r u ⟨rfl, hu⟩; have hu2 := hu.symm; subst hu2; clear hu
    obtain ⟨q, hq⟩ : ∃ q, q = if p < 0 then 0 else p := ⟨_, rfl⟩
    rw [← hq]
    have hq0 : 0 ≤ q := by rw [hq]; split <;> omega
    have hq4 : q ≤ 4 := by rw [hq]; split <;> omega
    clear hq hp4
    have kc := own_caps8 KO
    have KH := has_of_own KO KW
    go_wp2_with fail
    refine (l4Path_any _ ak ck ks q _ (Nat.le_refl _) (by have := KLH.out; omega) KA hq0 (by have := KLH.out; omega) KH kc.1 kc.2).mono ?_
    rintro r u9 ⟨a3, c3, rfl, O3, bb⟩
    have pl : (ptM nS 11 ks q).length ≤ 5 := by have := ptM_len nS 11 _ ks q (Nat.le_refl _); have := KLH.out; omega
    have pa := ptM_all _ ks q (Nat.le_refl _) KA
    generalize ptM nS 11 ks q = ps at *
    have S9 := ST.below' bb hsT
    have hs9 : s0 < u9.heap.size := Nat.lt_of_lt_of_le hsT bb.size
    have RL := RV.lt
    have SL := SV.lt
    have M3 : Hid (∀ y, a3 = some y → V0 ≠ y.block ∧ s0 ≠ y.block) := fun y hy => by have := own_base O3 y hy; omega
    have FT := Only.of_below (s := s0) bb
    clear KH ST bb
    go_wp2_with fail
    refine (chance_any _ _ _ a len cap zs _ 8 S9 (by omega) (by omega) (by omega)).mono ?_
    rintro e u10 ⟨v, rfl, _, Y⟩
    replace O3 := own_only O3 Y hsT
    replace FT := FT.trans Y
    have z10 := FT.size
    clear S9 Y
    cases v with
    | true =>
      go_wp2_with (at_builtin; refine wpList_append_own _ rfl _ _ 26 rfl T.heap.size 2 j0 (.int .i64 0) 1 8 Tryd.underlying26 hi hz0 hz1 hz2 rfl (by decide) _ _ _ rfl (O3.alloc _) ⟨u10.heap.size, 0, none⟩ 1 1 [.int .i64 5] rfl rfl (one_new _ _ _) (by intro u hu; simp at hu; subst hu; rfl) (by unfold maxLen; omega) (by omega) (by simp; omega) ?_; intro v' w3 hown3 hgrow _h4)
      have hown3' : w3.ownsRow T.heap.size 2 1 v' (ps ++ [5]).length ((ps ++ [5]).map (.int .i64)) := by simpa using hown3
      obtain ⟨a4, c4, rfl⟩ := own_row_shape hown3'
      have bG : Below T.heap.size (u10.alloc (.cells #[.int .i64 5] 2)) w3 := (Below.refl _ _).grown hgrow (by simp; omega) (fun k hk => (O3.lt k hk).1)
      replace FT := (FT.alloc (.cells #[.int .i64 5] 2)).then_below bG
      replace pa := allS_app pa (y := 5) (by omega) (by omega)
      replace M3 : Hid (∀ y, a4 = some y → V0 ≠ y.block ∧ s0 ≠ y.block) := fun y hy => by have := own_base hown3' y hy; omega
      have pl' : (ps ++ [5]).length ≤ 6 := by simp; omega
      clear O3 hown3 hgrow _h4 bG pl
      generalize ps ++ [5] = ps at *
      obtain ⟨Z, hZ⟩ : ∃ Z, Z = w3 := ⟨_, rfl⟩
      obtain ⟨a3, ha3⟩ : ∃ a, a = a4 := ⟨_, rfl⟩
      obtain ⟨c3, hc3⟩ : ∃ c, c = c4 := ⟨_, rfl⟩
      have O3 := hown3'
      rw [← hZ] at FT O3
      rw [← ha3] at O3 M3
      rw [← hc3] at O3
      have zZ : T.heap.size ≤ Z.heap.size := FT.size
      have pl := pl'
      rw [← hZ, ← ha3, ← hc3]
      clear hZ ha3 hc3 z10 hown3' pl'
      have HP := has_of_own O3 (allS_wf pa)
      have pc := own_caps8 O3
      have lp : ps.length ≤ 10 := by omega
      have M4 : Hid (∀ y, a3 = some y → V0 ≠ y.block) := fun y hy => (M3.out y hy).1
      have f : Fr (fun k => s0 = k) T Z := .of_grown FT.grown (fun k e => by simpa using e)
      replace RV := RV.fr f hsV
      replace SV := SV.fr f hsW
      replace H1 := has_only H1 N1.out FT
      replace H2 := has_only H2 N2.out FT
      replace KO := own_only KO FT hs2
      replace B1 := B1.trans (FT.below hsw B1.size)
      have KH := has_of_own KO KW
      have HF : Hid (Has Z .i64 a1 sh.length sh ∧ Has Z .i64 a2 ot.length ot ∧ Has Z .i64 a3 ps.length ps ∧ Below w.heap.size w Z) := ⟨H1, H2, HP, B1⟩
      have PC : Hid (ps.length ≤ c3 ∧ c3 ≤ maxLen) := pc
      have KC : Hid (ks.length ≤ ck ∧ ck ≤ maxLen) := kc
      have D : Below Z.heap.size Z Z.drew := (Below.refl _ _).drew
      clear O3 FT f H1 H2 HP B1 KO pc kc zZ pa
      go_wp2_with fail
      refine wp_region_noPanic ?_
      refine wp_region_held_drew (S := fun u => Blk u V #[.int .i64 i, .slice a1 sh.length c1, .slice a2 ot.length c2] 28) (by kernel_rfl) (SV.below (Below.refl _ _).drew SV.lt) (fun hs => ?_)
      obtain ⟨XD, hXD⟩ := al_w D
      rw [← hXD] at hs D
      simp only [← hXD]
      clear hXD
      refine take_at (i := 0) (d := some 46) (v := ?mv1) rfl rfl (by kernel_rfl) (by kernel_rfl) (by kernel_rfl) (fun _ _ _ h => h) (Or.inl ⟨by rfl, ?my1⟩) hs ?mg1
      case my1 => (intro z hSz; (have o0 := hSz.cell 0; have o1 := hSz.cell 1; have o2 := hSz.cell 2; have o3 := hSz.lt; simp at o0 o1 o2); go_simp; (try with_reducible rfl))
      try simp only [Act.put, List.setIfInBounds_toArray, List.set_cons_zero, List.set_cons_succ]
      refine take_at (i := 1) (d := some 47) (v := ?mv2) rfl rfl (by kernel_rfl) (by kernel_rfl) (by kernel_rfl) (fun _ _ _ h => h) (Or.inl ⟨by rfl, ?my2⟩) hs ?mg2
      case my2 => (intro z hSz; (have o0 := hSz.cell 0; have o1 := hSz.cell 1; have o2 := hSz.cell 2; have o3 := hSz.lt; simp at o0 o1 o2); go_simp; (try with_reducible rfl))
      try simp only [Act.put, List.setIfInBounds_toArray, List.set_cons_zero, List.set_cons_succ]
      refine take_at (i := 2) (d := some 48) (v := ?mv3) rfl rfl (by kernel_rfl) (by kernel_rfl) (by kernel_rfl) (fun _ _ _ h => h) (Or.inl ⟨by rfl, ?my3⟩) hs ?mg3
      case my3 => (intro z hSz; (have o0 := hSz.cell 0; have o1 := hSz.cell 1; have o2 := hSz.cell 2; have o3 := hSz.lt; simp at o0 o1 o2); go_simp; (try with_reducible rfl))
      try simp only [Act.put, List.setIfInBounds_toArray, List.set_cons_zero, List.set_cons_succ]
      refine take_at (i := 3) (d := some 49) (v := ?mv4) rfl rfl (by kernel_rfl) (by kernel_rfl) (by kernel_rfl) (fun _ _ _ h => h) (Or.inl ⟨by rfl, ?my4⟩) hs ?mg4
      case my4 => (intro z hSz; (have o0 := hSz.cell 0; have o1 := hSz.cell 1; have o2 := hSz.cell 2; have o3 := hSz.lt; simp at o0 o1 o2); go_simp; (try with_reducible rfl))
      try simp only [Act.put, List.setIfInBounds_toArray, List.set_cons_zero, List.set_cons_succ]
      refine wpAnyH_ready (rs := [4]) (by kernel_rfl) (by simp) ?_
      refine AllReadyH.cons rfl (fun K' hK' => ?_) AllReadyH.nil
      go_simp
      refine (l4Root_any _ ak ck ks _ (Nat.le_refl _) (by have := KLH.out; omega) KA (KH.below D (Nat.le_refl _)) KC.out.1 KC.out.2).mono ?_
      rintro _ uc ⟨rfl, hbc⟩
      refine hK'.out _ _ (hs.below hbc hs.lt) (fun hs => ?_)
      clear hK' K'
      try simp only [Act.put, List.setIfInBounds_toArray, List.set_cons_zero, List.set_cons_succ]
      replace D := D.trans (hbc.mono D.size)
      refine wpAnyH_ready (rs := [5]) (by kernel_rfl) (by simp) ?_
      refine AllReadyH.cons rfl (fun K' hK' => ?_) AllReadyH.nil
      replace RV := RV.below D RV.lt
      have r0 := RV.cell 0
      have r1 := RV.cell 1
      have r2 := RV.cell 2
      have e0 := RV.frozen 0
      have e1 := RV.frozen 1
      have e2 := RV.frozen 2
      simp at r0 r1 r2
      go_simp
      refine hK'.out _ _ (hs.fr (M := fun k => k = V0) (Fr.setCell (Fr.setCell (Fr.setCell (Fr.refl (fun k => k = V0) uc) ⟨V0, 0, none⟩ _ rfl) ⟨V0, 1, none⟩ _ rfl) ⟨V0, 2, none⟩ _ rfl) (Ne.symm hVV)) (fun hs => ?_)
      clear hK' K'
      try simp only [Act.put, List.setIfInBounds_toArray, List.set_cons_zero, List.set_cons_succ]
      refine take_at (i := 6) (d := some 3) (v := ?mv5) rfl rfl (by kernel_rfl) (by kernel_rfl) (by kernel_rfl) (fun _ _ _ h => h) (Or.inl ⟨by rfl, ?my5⟩) hs ?mg5
      case my5 => (intro z hSz; (have o0 := hSz.cell 0; have o1 := hSz.cell 1; have o2 := hSz.cell 2; have o3 := hSz.lt; simp at o0 o1 o2); go_simp; (try with_reducible rfl))
      try simp only [Act.put, List.setIfInBounds_toArray, List.set_cons_zero, List.set_cons_succ]
      refine take_at (i := 7) (d := some 4) (v := ?mv6) rfl rfl (by kernel_rfl) (by kernel_rfl) (by kernel_rfl) (fun _ _ _ h => h) (Or.inl ⟨by rfl, ?my6⟩) hs ?mg6
      case my6 => (intro z hSz; (have o0 := hSz.cell 0; have o1 := hSz.cell 1; have o2 := hSz.cell 2; have o3 := hSz.lt; simp at o0 o1 o2); go_simp; (try with_reducible rfl))
      try simp only [Act.put, List.setIfInBounds_toArray, List.set_cons_zero, List.set_cons_succ]
      refine take_at (i := 8) (d := some 5) (v := ?mv7) rfl rfl (by kernel_rfl) (by kernel_rfl) (by kernel_rfl) (fun _ _ _ h => h) (Or.inl ⟨by rfl, ?my7⟩) hs ?mg7
      case my7 => (intro z hSz; (have o0 := hSz.cell 0; have o1 := hSz.cell 1; have o2 := hSz.cell 2; have o3 := hSz.lt; simp at o0 o1 o2); go_simp; (try with_reducible rfl))
      try simp only [Act.put, List.setIfInBounds_toArray, List.set_cons_zero, List.set_cons_succ]
      refine take_at (i := 9) (d := some 6) (v := ?mv8) rfl rfl (by kernel_rfl) (by kernel_rfl) (by kernel_rfl) (fun _ _ _ h => h) (Or.inl ⟨by rfl, ?my8⟩) hs ?mg8
      case my8 => (intro z hSz; (have o0 := hSz.cell 0; have o1 := hSz.cell 1; have o2 := hSz.cell 2; have o3 := hSz.lt; simp at o0 o1 o2); go_simp; (try with_reducible rfl))
      try simp only [Act.put, List.setIfInBounds_toArray, List.set_cons_zero, List.set_cons_succ]
      refine wpAnyH_done (by kernel_rfl) (NoPanic.normal ?_) _
      have RX := RV
      clear RV
      have HQ := HF.out
      go_wp2_with fail
      refine bodyPost_ret (v := .tuple #[.agg #[.int .i64 i, .slice a1 sh.length c1, .slice a2 ot.length c2], .int .i64 x, .int .i64 5, .slice a3 ps.length c3, .int .i64 (rtM nS 11 ks)]) (by simp [results, Tryd.results32, go_sem, r0, r1, r2]) rfl ⟨i, a1, c1, sh, a2, c2, ot, x, a3, c3, ps, _, rfl, l1, l2, lp, PC.out.1, PC.out.2, ?_, ?_, ?_, ?_⟩
      · exact has_off (has_off (has_off (HQ.1.below D (Nat.le_refl _)) M1.out _) M1.out _) M1.out _
      · exact has_off (has_off (has_off (HQ.2.1.below D (Nat.le_refl _)) M2.out _) M2.out _) M2.out _
      · exact has_off (has_off (has_off (HQ.2.2.1.below D (Nat.le_refl _)) M4.out _) M4.out _) M4.out _
      · exact (((HQ.2.2.2.trans (D.mono HQ.2.2.2.size)).setCell vw _).setCell vw _).setCell vw _
    | false =>
      obtain ⟨Z, hZ⟩ : ∃ Z, Z = u10 := ⟨_, rfl⟩
      rw [← hZ] at FT O3
      have zZ : T.heap.size ≤ Z.heap.size := FT.size
      rw [← hZ]
      clear hZ z10
      have HP := has_of_own O3 (allS_wf pa)
      have pc := own_caps8 O3
      have lp : ps.length ≤ 10 := by omega
      have M4 : Hid (∀ y, a3 = some y → V0 ≠ y.block) := fun y hy => (M3.out y hy).1
      have f : Fr (fun k => s0 = k) T Z := .of_grown FT.grown (fun k e => by simpa using e)
      replace RV := RV.fr f hsV
      replace SV := SV.fr f hsW
      replace H1 := has_only H1 N1.out FT
      replace H2 := has_only H2 N2.out FT
      replace KO := own_only KO FT hs2
      replace B1 := B1.trans (FT.below hsw B1.size)
      have KH := has_of_own KO KW
      have HF : Hid (Has Z .i64 a1 sh.length sh ∧ Has Z .i64 a2 ot.length ot ∧ Has Z .i64 a3 ps.length ps ∧ Below w.heap.size w Z) := ⟨H1, H2, HP, B1⟩
      have PC : Hid (ps.length ≤ c3 ∧ c3 ≤ maxLen) := pc
      have KC : Hid (ks.length ≤ ck ∧ ck ≤ maxLen) := kc
      have D : Below Z.heap.size Z Z.drew := (Below.refl _ _).drew
      clear O3 FT f H1 H2 HP B1 KO pc kc zZ pa
      go_wp2_with fail
      refine wp_region_noPanic ?_
      refine wp_region_held_drew (S := fun u => Blk u V #[.int .i64 i, .slice a1 sh.length c1, .slice a2 ot.length c2] 28) (by kernel_rfl) (SV.below (Below.refl _ _).drew SV.lt) (fun hs => ?_)
      obtain ⟨XD, hXD⟩ := al_w D
      rw [← hXD] at hs D
      simp only [← hXD]
      clear hXD
      refine take_at (i := 0) (d := some 46) (v := ?mv9) rfl rfl (by kernel_rfl) (by kernel_rfl) (by kernel_rfl) (fun _ _ _ h => h) (Or.inl ⟨by rfl, ?my9⟩) hs ?mg9
      case my9 => (intro z hSz; (have o0 := hSz.cell 0; have o1 := hSz.cell 1; have o2 := hSz.cell 2; have o3 := hSz.lt; simp at o0 o1 o2); go_simp; (try with_reducible rfl))
      try simp only [Act.put, List.setIfInBounds_toArray, List.set_cons_zero, List.set_cons_succ]
      refine take_at (i := 1) (d := some 47) (v := ?mv10) rfl rfl (by kernel_rfl) (by kernel_rfl) (by kernel_rfl) (fun _ _ _ h => h) (Or.inl ⟨by rfl, ?my10⟩) hs ?mg10
      case my10 => (intro z hSz; (have o0 := hSz.cell 0; have o1 := hSz.cell 1; have o2 := hSz.cell 2; have o3 := hSz.lt; simp at o0 o1 o2); go_simp; (try with_reducible rfl))
      try simp only [Act.put, List.setIfInBounds_toArray, List.set_cons_zero, List.set_cons_succ]
      refine take_at (i := 2) (d := some 48) (v := ?mv11) rfl rfl (by kernel_rfl) (by kernel_rfl) (by kernel_rfl) (fun _ _ _ h => h) (Or.inl ⟨by rfl, ?my11⟩) hs ?mg11
      case my11 => (intro z hSz; (have o0 := hSz.cell 0; have o1 := hSz.cell 1; have o2 := hSz.cell 2; have o3 := hSz.lt; simp at o0 o1 o2); go_simp; (try with_reducible rfl))
      try simp only [Act.put, List.setIfInBounds_toArray, List.set_cons_zero, List.set_cons_succ]
      refine take_at (i := 3) (d := some 49) (v := ?mv12) rfl rfl (by kernel_rfl) (by kernel_rfl) (by kernel_rfl) (fun _ _ _ h => h) (Or.inl ⟨by rfl, ?my12⟩) hs ?mg12
      case my12 => (intro z hSz; (have o0 := hSz.cell 0; have o1 := hSz.cell 1; have o2 := hSz.cell 2; have o3 := hSz.lt; simp at o0 o1 o2); go_simp; (try with_reducible rfl))
      try simp only [Act.put, List.setIfInBounds_toArray, List.set_cons_zero, List.set_cons_succ]
      refine wpAnyH_ready (rs := [4]) (by kernel_rfl) (by simp) ?_
      refine AllReadyH.cons rfl (fun K' hK' => ?_) AllReadyH.nil
      go_simp
      refine (l4Root_any _ ak ck ks _ (Nat.le_refl _) (by have := KLH.out; omega) KA (KH.below D (Nat.le_refl _)) KC.out.1 KC.out.2).mono ?_
      rintro _ uc ⟨rfl, hbc⟩
      refine hK'.out _ _ (hs.below hbc hs.lt) (fun hs => ?_)
      clear hK' K'
      try simp only [Act.put, List.setIfInBounds_toArray, List.set_cons_zero, List.set_cons_succ]
      replace D := D.trans (hbc.mono D.size)
      refine wpAnyH_ready (rs := [5]) (by kernel_rfl) (by simp) ?_
      refine AllReadyH.cons rfl (fun K' hK' => ?_) AllReadyH.nil
      replace RV := RV.below D RV.lt
      have r0 := RV.cell 0
      have r1 := RV.cell 1
      have r2 := RV.cell 2
      have e0 := RV.frozen 0
      have e1 := RV.frozen 1
      have e2 := RV.frozen 2
      simp at r0 r1 r2
      go_simp
      refine hK'.out _ _ (hs.fr (M := fun k => k = V0) (Fr.setCell (Fr.setCell (Fr.setCell (Fr.refl (fun k => k = V0) uc) ⟨V0, 0, none⟩ _ rfl) ⟨V0, 1, none⟩ _ rfl) ⟨V0, 2, none⟩ _ rfl) (Ne.symm hVV)) (fun hs => ?_)
      clear hK' K'
      try simp only [Act.put, List.setIfInBounds_toArray, List.set_cons_zero, List.set_cons_succ]
      refine take_at (i := 6) (d := some 3) (v := ?mv13) rfl rfl (by kernel_rfl) (by kernel_rfl) (by kernel_rfl) (fun _ _ _ h => h) (Or.inl ⟨by rfl, ?my13⟩) hs ?mg13
      case my13 => (intro z hSz; (have o0 := hSz.cell 0; have o1 := hSz.cell 1; have o2 := hSz.cell 2; have o3 := hSz.lt; simp at o0 o1 o2); go_simp; (try with_reducible rfl))
      try simp only [Act.put, List.setIfInBounds_toArray, List.set_cons_zero, List.set_cons_succ]
      refine take_at (i := 7) (d := some 4) (v := ?mv14) rfl rfl (by kernel_rfl) (by kernel_rfl) (by kernel_rfl) (fun _ _ _ h => h) (Or.inl ⟨by rfl, ?my14⟩) hs ?mg14
      case my14 => (intro z hSz; (have o0 := hSz.cell 0; have o1 := hSz.cell 1; have o2 := hSz.cell 2; have o3 := hSz.lt; simp at o0 o1 o2); go_simp; (try with_reducible rfl))
      try simp only [Act.put, List.setIfInBounds_toArray, List.set_cons_zero, List.set_cons_succ]
      refine take_at (i := 8) (d := some 5) (v := ?mv15) rfl rfl (by kernel_rfl) (by kernel_rfl) (by kernel_rfl) (fun _ _ _ h => h) (Or.inl ⟨by rfl, ?my15⟩) hs ?mg15
      case my15 => (intro z hSz; (have o0 := hSz.cell 0; have o1 := hSz.cell 1; have o2 := hSz.cell 2; have o3 := hSz.lt; simp at o0 o1 o2); go_simp; (try with_reducible rfl))
      try simp only [Act.put, List.setIfInBounds_toArray, List.set_cons_zero, List.set_cons_succ]
      refine take_at (i := 9) (d := some 6) (v := ?mv16) rfl rfl (by kernel_rfl) (by kernel_rfl) (by kernel_rfl) (fun _ _ _ h => h) (Or.inl ⟨by rfl, ?my16⟩) hs ?mg16
      case my16 => (intro z hSz; (have o0 := hSz.cell 0; have o1 := hSz.cell 1; have o2 := hSz.cell 2; have o3 := hSz.lt; simp at o0 o1 o2); go_simp; (try with_reducible rfl))
      try simp only [Act.put, List.setIfInBounds_toArray, List.set_cons_zero, List.set_cons_succ]
      refine wpAnyH_done (by kernel_rfl) (NoPanic.normal ?_) _
      have RX := RV
      clear RV
      have HQ := HF.out
      go_wp2_with fail
      refine bodyPost_ret (v := .tuple #[.agg #[.int .i64 i, .slice a1 sh.length c1, .slice a2 ot.length c2], .int .i64 x, .int .i64 5, .slice a3 ps.length c3, .int .i64 (rtM nS 11 ks)]) (by simp [results, Tryd.results32, go_sem, r0, r1, r2]) rfl ⟨i, a1, c1, sh, a2, c2, ot, x, a3, c3, ps, _, rfl, l1, l2, lp, PC.out.1, PC.out.2, ?_, ?_, ?_, ?_⟩
      · exact has_off (has_off (has_off (HQ.1.below D (Nat.le_refl _)) M1.out _) M1.out _) M1.out _
      · exact has_off (has_off (has_off (HQ.2.1.below D (Nat.le_refl _)) M2.out _) M2.out _) M2.out _
      · exact has_off (has_off (has_off (HQ.2.2.1.below D (Nat.le_refl _)) M4.out _) M4.out _) M4.out _
      · exact (((HQ.2.2.2.trans (D.mono HQ.2.2.2.size)).setCell vw _).setCell vw _).setCell vw _
  | false =>
    obtain ⟨T, hT⟩ : ∃ T, T = u5 := ⟨_, rfl⟩
    rw [← hT] at RV SV H1 H2 KO B1 S5
    have ST := S5
    have hsT : s0 < T.heap.size := ST.lt
    have m0 := SV.cell 0
    simp at m0
    have n0 := SV.lt
    clear S5
    rw [← hT]
    clear hT
    go_wp2_with fail
    clear n0 m0
    refine (l1Min_any 4 i _).mono ?_
    rintro r u ⟨rfl, hu⟩; have hu2 := hu.symm; subst hu2; clear hu
    obtain ⟨p, hp⟩ : ∃ p, p = if 4 < i then 4 else i := ⟨_, rfl⟩
    rw [← hp]
    have hp4 : p ≤ 4 := by rw [hp]; split <;> omega
    clear hp
    go_wp2_with fail
    refine (l1Max_any 0 p _).mono ?_
    rintro r u ⟨rfl, hu⟩; have hu2 := hu.symm; subst hu2; clear hu
    obtain ⟨q, hq⟩ : ∃ q, q = if p < 0 then 0 else p := ⟨_, rfl⟩
    rw [← hq]
    have hq0 : 0 ≤ q := by rw [hq]; split <;> omega
    have hq4 : q ≤ 4 := by rw [hq]; split <;> omega
    clear hq hp4
    have kc := own_caps8 KO
    have KH := has_of_own KO KW
    go_wp2_with fail
    refine (l4Path_any _ ak ck ks q _ (Nat.le_refl _) (by have := KLH.out; omega) KA hq0 (by have := KLH.out; omega) KH kc.1 kc.2).mono ?_
    rintro r u9 ⟨a3, c3, rfl, O3, bb⟩
    have pl : (ptM nS 11 ks q).length ≤ 5 := by have := ptM_len nS 11 _ ks q (Nat.le_refl _); have := KLH.out; omega
    have pa := ptM_all _ ks q (Nat.le_refl _) KA
    generalize ptM nS 11 ks q = ps at *
    have S9 := ST.below' bb hsT
    have hs9 : s0 < u9.heap.size := Nat.lt_of_lt_of_le hsT bb.size
    have RL := RV.lt
    have SL := SV.lt
    have M3 : Hid (∀ y, a3 = some y → V0 ≠ y.block ∧ s0 ≠ y.block) := fun y hy => by have := own_base O3 y hy; omega
    have FT := Only.of_below (s := s0) bb
    clear KH ST bb
    go_wp2_with fail
    refine (chance_any _ _ _ a len cap zs _ 8 S9 (by omega) (by omega) (by omega)).mono ?_
    rintro e u10 ⟨v, rfl, _, Y⟩
    replace O3 := own_only O3 Y hsT
    replace FT := FT.trans Y
    have z10 := FT.size
    clear S9 Y
    cases v with
    | true =>
      go_wp2_with (at_builtin; refine wpList_append_own _ rfl _ _ 26 rfl T.heap.size 2 j0 (.int .i64 0) 1 8 Tryd.underlying26 hi hz0 hz1 hz2 rfl (by decide) _ _ _ rfl (O3.alloc _) ⟨u10.heap.size, 0, none⟩ 1 1 [.int .i64 5] rfl rfl (one_new _ _ _) (by intro u hu; simp at hu; subst hu; rfl) (by unfold maxLen; omega) (by omega) (by simp; omega) ?_; intro v' w3 hown3 hgrow _h4)
      have hown3' : w3.ownsRow T.heap.size 2 1 v' (ps ++ [5]).length ((ps ++ [5]).map (.int .i64)) := by simpa using hown3
      obtain ⟨a4, c4, rfl⟩ := own_row_shape hown3'
      have bG : Below T.heap.size (u10.alloc (.cells #[.int .i64 5] 2)) w3 := (Below.refl _ _).grown hgrow (by simp; omega) (fun k hk => (O3.lt k hk).1)
      replace FT := (FT.alloc (.cells #[.int .i64 5] 2)).then_below bG
      replace pa := allS_app pa (y := 5) (by omega) (by omega)
      replace M3 : Hid (∀ y, a4 = some y → V0 ≠ y.block ∧ s0 ≠ y.block) := fun y hy => by have := own_base hown3' y hy; omega
      have pl' : (ps ++ [5]).length ≤ 6 := by simp; omega
      clear O3 hown3 hgrow _h4 bG pl
      generalize ps ++ [5] = ps at *
      obtain ⟨Z, hZ⟩ : ∃ Z, Z = w3 := ⟨_, rfl⟩
      obtain ⟨a3, ha3⟩ : ∃ a, a = a4 := ⟨_, rfl⟩
      obtain ⟨c3, hc3⟩ : ∃ c, c = c4 := ⟨_, rfl⟩
      have O3 := hown3'
      rw [← hZ] at FT O3
      rw [← ha3] at O3 M3
      rw [← hc3] at O3
      have zZ : T.heap.size ≤ Z.heap.size := FT.size
      have pl := pl'
      rw [← hZ, ← ha3, ← hc3]
      clear hZ ha3 hc3 z10 hown3' pl'
      have HP := has_of_own O3 (allS_wf pa)
      have pc := own_caps8 O3
      have lp : ps.length ≤ 10 := by omega
      have M4 : Hid (∀ y, a3 = some y → V0 ≠ y.block) := fun y hy => (M3.out y hy).1
      have f : Fr (fun k => s0 = k) T Z := .of_grown FT.grown (fun k e => by simpa using e)
      replace RV := RV.fr f hsV
      replace SV := SV.fr f hsW
      replace H1 := has_only H1 N1.out FT
      replace H2 := has_only H2 N2.out FT
      replace KO := own_only KO FT hs2
      replace B1 := B1.trans (FT.below hsw B1.size)
      have KH := has_of_own KO KW
      have HF : Hid (Has Z .i64 a1 sh.length sh ∧ Has Z .i64 a2 ot.length ot ∧ Has Z .i64 a3 ps.length ps ∧ Below w.heap.size w Z) := ⟨H1, H2, HP, B1⟩
      have PC : Hid (ps.length ≤ c3 ∧ c3 ≤ maxLen) := pc
      have KC : Hid (ks.length ≤ ck ∧ ck ≤ maxLen) := kc
      have D : Below Z.heap.size Z Z.drew := (Below.refl _ _).drew
      clear O3 FT f H1 H2 HP B1 KO pc kc zZ pa
      go_wp2_with fail
      refine wp_region_noPanic ?_
      refine wp_region_held_drew (S := fun u => Blk u V #[.int .i64 i, .slice a1 sh.length c1, .slice a2 ot.length c2] 28) (by kernel_rfl) (SV.below (Below.refl _ _).drew SV.lt) (fun hs => ?_)
      obtain ⟨XD, hXD⟩ := al_w D
      rw [← hXD] at hs D
      simp only [← hXD]
      clear hXD
      refine take_at (i := 0) (d := some 46) (v := ?mv17) rfl rfl (by kernel_rfl) (by kernel_rfl) (by kernel_rfl) (fun _ _ _ h => h) (Or.inl ⟨by rfl, ?my17⟩) hs ?mg17
      case my17 => (intro z hSz; (have o0 := hSz.cell 0; have o1 := hSz.cell 1; have o2 := hSz.cell 2; have o3 := hSz.lt; simp at o0 o1 o2); go_simp; (try with_reducible rfl))
      try simp only [Act.put, List.setIfInBounds_toArray, List.set_cons_zero, List.set_cons_succ]
      refine take_at (i := 1) (d := some 47) (v := ?mv18) rfl rfl (by kernel_rfl) (by kernel_rfl) (by kernel_rfl) (fun _ _ _ h => h) (Or.inl ⟨by rfl, ?my18⟩) hs ?mg18
      case my18 => (intro z hSz; (have o0 := hSz.cell 0; have o1 := hSz.cell 1; have o2 := hSz.cell 2; have o3 := hSz.lt; simp at o0 o1 o2); go_simp; (try with_reducible rfl))
      try simp only [Act.put, List.setIfInBounds_toArray, List.set_cons_zero, List.set_cons_succ]
      refine take_at (i := 2) (d := some 48) (v := ?mv19) rfl rfl (by kernel_rfl) (by kernel_rfl) (by kernel_rfl) (fun _ _ _ h => h) (Or.inl ⟨by rfl, ?my19⟩) hs ?mg19
      case my19 => (intro z hSz; (have o0 := hSz.cell 0; have o1 := hSz.cell 1; have o2 := hSz.cell 2; have o3 := hSz.lt; simp at o0 o1 o2); go_simp; (try with_reducible rfl))
      try simp only [Act.put, List.setIfInBounds_toArray, List.set_cons_zero, List.set_cons_succ]
      refine take_at (i := 3) (d := some 49) (v := ?mv20) rfl rfl (by kernel_rfl) (by kernel_rfl) (by kernel_rfl) (fun _ _ _ h => h) (Or.inl ⟨by rfl, ?my20⟩) hs ?mg20
      case my20 => (intro z hSz; (have o0 := hSz.cell 0; have o1 := hSz.cell 1; have o2 := hSz.cell 2; have o3 := hSz.lt; simp at o0 o1 o2); go_simp; (try with_reducible rfl))
      try simp only [Act.put, List.setIfInBounds_toArray, List.set_cons_zero, List.set_cons_succ]
      refine wpAnyH_ready (rs := [4]) (by kernel_rfl) (by simp) ?_
      refine AllReadyH.cons rfl (fun K' hK' => ?_) AllReadyH.nil
      go_simp
      refine (l4Root_any _ ak ck ks _ (Nat.le_refl _) (by have := KLH.out; omega) KA (KH.below D (Nat.le_refl _)) KC.out.1 KC.out.2).mono ?_
      rintro _ uc ⟨rfl, hbc⟩
      refine hK'.out _ _ (hs.below hbc hs.lt) (fun hs => ?_)
      clear hK' K'
      try simp only [Act.put, List.setIfInBounds_toArray, List.set_cons_zero, List.set_cons_succ]
      replace D := D.trans (hbc.mono D.size)
      refine wpAnyH_ready (rs := [5]) (by kernel_rfl) (by simp) ?_
      refine AllReadyH.cons rfl (fun K' hK' => ?_) AllReadyH.nil
      replace RV := RV.below D RV.lt
      have r0 := RV.cell 0
      have r1 := RV.cell 1
      have r2 := RV.cell 2
      have e0 := RV.frozen 0
      have e1 := RV.frozen 1
      have e2 := RV.frozen 2
      simp at r0 r1 r2
      go_simp
      refine hK'.out _ _ (hs.fr (M := fun k => k = V0) (Fr.setCell (Fr.setCell (Fr.setCell (Fr.refl (fun k => k = V0) uc) ⟨V0, 0, none⟩ _ rfl) ⟨V0, 1, none⟩ _ rfl) ⟨V0, 2, none⟩ _ rfl) (Ne.symm hVV)) (fun hs => ?_)
      clear hK' K'
      try simp only [Act.put, List.setIfInBounds_toArray, List.set_cons_zero, List.set_cons_succ]
      refine take_at (i := 6) (d := some 3) (v := ?mv21) rfl rfl (by kernel_rfl) (by kernel_rfl) (by kernel_rfl) (fun _ _ _ h => h) (Or.inl ⟨by rfl, ?my21⟩) hs ?mg21
      case my21 => (intro z hSz; (have o0 := hSz.cell 0; have o1 := hSz.cell 1; have o2 := hSz.cell 2; have o3 := hSz.lt; simp at o0 o1 o2); go_simp; (try with_reducible rfl))
      try simp only [Act.put, List.setIfInBounds_toArray, List.set_cons_zero, List.set_cons_succ]
      refine take_at (i := 7) (d := some 4) (v := ?mv22) rfl rfl (by kernel_rfl) (by kernel_rfl) (by kernel_rfl) (fun _ _ _ h => h) (Or.inl ⟨by rfl, ?my22⟩) hs ?mg22
      case my22 => (intro z hSz; (have o0 := hSz.cell 0; have o1 := hSz.cell 1; have o2 := hSz.cell 2; have o3 := hSz.lt; simp at o0 o1 o2); go_simp; (try with_reducible rfl))
      try simp only [Act.put, List.setIfInBounds_toArray, List.set_cons_zero, List.set_cons_succ]
      refine take_at (i := 8) (d := some 5) (v := ?mv23) rfl rfl (by kernel_rfl) (by kernel_rfl) (by kernel_rfl) (fun _ _ _ h => h) (Or.inl ⟨by rfl, ?my23⟩) hs ?mg23
      case my23 => (intro z hSz; (have o0 := hSz.cell 0; have o1 := hSz.cell 1; have o2 := hSz.cell 2; have o3 := hSz.lt; simp at o0 o1 o2); go_simp; (try with_reducible rfl))
      try simp only [Act.put, List.setIfInBounds_toArray, List.set_cons_zero, List.set_cons_succ]
      refine take_at (i := 9) (d := some 6) (v := ?mv24) rfl rfl (by kernel_rfl) (by kernel_rfl) (by kernel_rfl) (fun _ _ _ h => h) (Or.inl ⟨by rfl, ?my24⟩) hs ?mg24
      case my24 => (intro z hSz; (have o0 := hSz.cell 0; have o1 := hSz.cell 1; have o2 := hSz.cell 2; have o3 := hSz.lt; simp at o0 o1 o2); go_simp; (try with_reducible rfl))
      try simp only [Act.put, List.setIfInBounds_toArray, List.set_cons_zero, List.set_cons_succ]
      refine wpAnyH_done (by kernel_rfl) (NoPanic.normal ?_) _
      have RX := RV
      clear RV
      have HQ := HF.out
      go_wp2_with fail
      refine bodyPost_ret (v := .tuple #[.agg #[.int .i64 i, .slice a1 sh.length c1, .slice a2 ot.length c2], .int .i64 x, .int .i64 5, .slice a3 ps.length c3, .int .i64 (rtM nS 11 ks)]) (by simp [results, Tryd.results32, go_sem, r0, r1, r2]) rfl ⟨i, a1, c1, sh, a2, c2, ot, x, a3, c3, ps, _, rfl, l1, l2, lp, PC.out.1, PC.out.2, ?_, ?_, ?_, ?_⟩
      · exact has_off (has_off (has_off (HQ.1.below D (Nat.le_refl _)) M1.out _) M1.out _) M1.out _
      · exact has_off (has_off (has_off (HQ.2.1.below D (Nat.le_refl _)) M2.out _) M2.out _) M2.out _
      · exact has_off (has_off (has_off (HQ.2.2.1.below D (Nat.le_refl _)) M4.out _) M4.out _) M4.out _
      · exact (((HQ.2.2.2.trans (D.mono HQ.2.2.2.size)).setCell vw _).setCell vw _).setCell vw _
    | false =>
      obtain ⟨Z, hZ⟩ : ∃ Z, Z = u10 := ⟨_, rfl⟩
      rw [← hZ] at FT O3
      have zZ : T.heap.size ≤ Z.heap.size := FT.size
      rw [← hZ]
      clear hZ z10
      have HP := has_of_own O3 (allS_wf pa)
      have pc := own_caps8 O3
      have lp : ps.length ≤ 10 := by omega
      have M4 : Hid (∀ y, a3 = some y → V0 ≠ y.block) := fun y hy => (M3.out y hy).1
      have f : Fr (fun k => s0 = k) T Z := .of_grown FT.grown (fun k e => by simpa using e)
      replace RV := RV.fr f hsV
      replace SV := SV.fr f hsW
      replace H1 := has_only H1 N1.out FT
      replace H2 := has_only H2 N2.out FT
      replace KO := own_only KO FT hs2
      replace B1 := B1.trans (FT.below hsw B1.size)
      have KH := has_of_own KO KW
      have HF : Hid (Has Z .i64 a1 sh.length sh ∧ Has Z .i64 a2 ot.length ot ∧ Has Z .i64 a3 ps.length ps ∧ Below w.heap.size w Z) := ⟨H1, H2, HP, B1⟩
      have PC : Hid (ps.length ≤ c3 ∧ c3 ≤ maxLen) := pc
      have KC : Hid (ks.length ≤ ck ∧ ck ≤ maxLen) := kc
      have D : Below Z.heap.size Z Z.drew := (Below.refl _ _).drew
      clear O3 FT f H1 H2 HP B1 KO pc kc zZ pa
      go_wp2_with fail
      refine wp_region_noPanic ?_
      refine wp_region_held_drew (S := fun u => Blk u V #[.int .i64 i, .slice a1 sh.length c1, .slice a2 ot.length c2] 28) (by kernel_rfl) (SV.below (Below.refl _ _).drew SV.lt) (fun hs => ?_)
      obtain ⟨XD, hXD⟩ := al_w D
      rw [← hXD] at hs D
      simp only [← hXD]
      clear hXD
      refine take_at (i := 0) (d := some 46) (v := ?mv25) rfl rfl (by kernel_rfl) (by kernel_rfl) (by kernel_rfl) (fun _ _ _ h => h) (Or.inl ⟨by rfl, ?my25⟩) hs ?mg25
      case my25 => (intro z hSz; (have o0 := hSz.cell 0; have o1 := hSz.cell 1; have o2 := hSz.cell 2; have o3 := hSz.lt; simp at o0 o1 o2); go_simp; (try with_reducible rfl))
      try simp only [Act.put, List.setIfInBounds_toArray, List.set_cons_zero, List.set_cons_succ]
      refine take_at (i := 1) (d := some 47) (v := ?mv26) rfl rfl (by kernel_rfl) (by kernel_rfl) (by kernel_rfl) (fun _ _ _ h => h) (Or.inl ⟨by rfl, ?my26⟩) hs ?mg26
      case my26 => (intro z hSz; (have o0 := hSz.cell 0; have o1 := hSz.cell 1; have o2 := hSz.cell 2; have o3 := hSz.lt; simp at o0 o1 o2); go_simp; (try with_reducible rfl))
      try simp only [Act.put, List.setIfInBounds_toArray, List.set_cons_zero, List.set_cons_succ]
      refine take_at (i := 2) (d := some 48) (v := ?mv27) rfl rfl (by kernel_rfl) (by kernel_rfl) (by kernel_rfl) (fun _ _ _ h => h) (Or.inl ⟨by rfl, ?my27⟩) hs ?mg27
      case my27 => (intro z hSz; (have o0 := hSz.cell 0; have o1 := hSz.cell 1; have o2 := hSz.cell 2; have o3 := hSz.lt; simp at o0 o1 o2); go_simp; (try with_reducible rfl))
      try simp only [Act.put, List.setIfInBounds_toArray, List.set_cons_zero, List.set_cons_succ]
      refine take_at (i := 3) (d := some 49) (v := ?mv28) rfl rfl (by kernel_rfl) (by kernel_rfl) (by kernel_rfl) (fun _ _ _ h => h) (Or.inl ⟨by rfl, ?my28⟩) hs ?mg28
      case my28 => (intro z hSz; (have o0 := hSz.cell 0; have o1 := hSz.cell 1; have o2 := hSz.cell 2; have o3 := hSz.lt; simp at o0 o1 o2); go_simp; (try with_reducible rfl))
      try simp only [Act.put, List.setIfInBounds_toArray, List.set_cons_zero, List.set_cons_succ]
      refine wpAnyH_ready (rs := [4]) (by kernel_rfl) (by simp) ?_
      refine AllReadyH.cons rfl (fun K' hK' => ?_) AllReadyH.nil
      go_simp
      refine (l4Root_any _ ak ck ks _ (Nat.le_refl _) (by have := KLH.out; omega) KA (KH.below D (Nat.le_refl _)) KC.out.1 KC.out.2).mono ?_
      rintro _ uc ⟨rfl, hbc⟩
      refine hK'.out _ _ (hs.below hbc hs.lt) (fun hs => ?_)
      clear hK' K'
      try simp only [Act.put, List.setIfInBounds_toArray, List.set_cons_zero, List.set_cons_succ]
      replace D := D.trans (hbc.mono D.size)
      refine wpAnyH_ready (rs := [5]) (by kernel_rfl) (by simp) ?_
      refine AllReadyH.cons rfl (fun K' hK' => ?_) AllReadyH.nil
      replace RV := RV.below D RV.lt
      have r0 := RV.cell 0
      have r1 := RV.cell 1
      have r2 := RV.cell 2
      have e0 := RV.frozen 0
      have e1 := RV.frozen 1
      have e2 := RV.frozen 2
      simp at r0 r1 r2
      go_simp
      refine hK'.out _ _ (hs.fr (M := fun k => k = V0) (Fr.setCell (Fr.setCell (Fr.setCell (Fr.refl (fun k => k = V0) uc) ⟨V0, 0, none⟩ _ rfl) ⟨V0, 1, none⟩ _ rfl) ⟨V0, 2, none⟩ _ rfl) (Ne.symm hVV)) (fun hs => ?_)
      clear hK' K'
      try simp only [Act.put, List.setIfInBounds_toArray, List.set_cons_zero, List.set_cons_succ]
      refine take_at (i := 6) (d := some 3) (v := ?mv29) rfl rfl (by kernel_rfl) (by kernel_rfl) (by kernel_rfl) (fun _ _ _ h => h) (Or.inl ⟨by rfl, ?my29⟩) hs ?mg29
      case my29 => (intro z hSz; (have o0 := hSz.cell 0; have o1 := hSz.cell 1; have o2 := hSz.cell 2; have o3 := hSz.lt; simp at o0 o1 o2); go_simp; (try with_reducible rfl))
      try simp only [Act.put, List.setIfInBounds_toArray, List.set_cons_zero, List.set_cons_succ]
      refine take_at (i := 7) (d := some 4) (v := ?mv30) rfl rfl (by kernel_rfl) (by kernel_rfl) (by kernel_rfl) (fun _ _ _ h => h) (Or.inl ⟨by rfl, ?my30⟩) hs ?mg30
      case my30 => (intro z hSz; (have o0 := hSz.cell 0; have o1 := hSz.cell 1; have o2 := hSz.cell 2; have o3 := hSz.lt; simp at o0 o1 o2); go_simp; (try with_reducible rfl))
      try simp only [Act.put, List.setIfInBounds_toArray, List.set_cons_zero, List.set_cons_succ]
      refine take_at (i := 8) (d := some 5) (v := ?mv31) rfl rfl (by kernel_rfl) (by kernel_rfl) (by kernel_rfl) (fun _ _ _ h => h) (Or.inl ⟨by rfl, ?my31⟩) hs ?mg31
      case my31 => (intro z hSz; (have o0 := hSz.cell 0; have o1 := hSz.cell 1; have o2 := hSz.cell 2; have o3 := hSz.lt; simp at o0 o1 o2); go_simp; (try with_reducible rfl))
      try simp only [Act.put, List.setIfInBounds_toArray, List.set_cons_zero, List.set_cons_succ]
      refine take_at (i := 9) (d := some 6) (v := ?mv32) rfl rfl (by kernel_rfl) (by kernel_rfl) (by kernel_rfl) (fun _ _ _ h => h) (Or.inl ⟨by rfl, ?my32⟩) hs ?mg32
      case my32 => (intro z hSz; (have o0 := hSz.cell 0; have o1 := hSz.cell 1; have o2 := hSz.cell 2; have o3 := hSz.lt; simp at o0 o1 o2); go_simp; (try with_reducible rfl))
      try simp only [Act.put, List.setIfInBounds_toArray, List.set_cons_zero, List.set_cons_succ]
      refine wpAnyH_done (by kernel_rfl) (NoPanic.normal ?_) _
      have RX := RV
      clear RV
      have HQ := HF.out
      go_wp2_with fail
      refine bodyPost_ret (v := .tuple #[.agg #[.int .i64 i, .slice a1 sh.length c1, .slice a2 ot.length c2], .int .i64 x, .int .i64 5, .slice a3 ps.length c3, .int .i64 (rtM nS 11 ks)]) (by simp [results, Tryd.results32, go_sem, r0, r1, r2]) rfl ⟨i, a1, c1, sh, a2, c2, ot, x, a3, c3, ps, _, rfl, l1, l2, lp, PC.out.1, PC.out.2, ?_, ?_, ?_, ?_⟩
      · exact has_off (has_off (has_off (HQ.1.below D (Nat.le_refl _)) M1.out _) M1.out _) M1.out _
      · exact has_off (has_off (has_off (HQ.2.1.below D (Nat.le_refl _)) M2.out _) M2.out _) M2.out _
      · exact has_off (has_off (has_off (HQ.2.2.1.below D (Nat.le_refl _)) M4.out _) M4.out _) M4.out _
      · exact (((HQ.2.2.2.trans (D.mono HQ.2.2.2.size)).setCell vw _).setCell vw _).setCell vw _

end Go.Proofs.YtncckpdglimdoaaDoor
