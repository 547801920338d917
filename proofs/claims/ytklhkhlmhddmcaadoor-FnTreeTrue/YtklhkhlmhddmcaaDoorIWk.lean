/- Contracts: how a walk of the program's chapter 6 ends; a clash that is looked for is a panic. -/
import Derived.Test.YtklhkhlmhddmcaaDoorIOn
import Derived.Test.YtklhkhlmhddmcaaDoorIClash
import Derived.Test.YtklhkhlmhddmcaaDoorISums
import Derived.Test.YtklhkhlmhddmcaaDoorKeep
import Derived.Deep.RegionHeld2
import Derived.Deep.RegionHeld3
namespace Go.Proofs.YtklhkhlmhddmcaaDoor
open Go.ChangeShapes Go.WideShapes Go.ChangeAt Go.RowKit
set_option linter.unusedVariables false
set_option linter.unusedSimpArgs false

set_option maxHeartbeats 1000000 in
theorem lookIn_any (a b : Option Addr) (ca cb : Nat) (zs ys : List Int) (w : World) (ha : Has w .u8 a zs.length zs) (hb : Has w .u8 b ys.length ys) (hla : zs.length ≤ 300) (hlb : ys.length ≤ 300) :
    Calls Tryd.prog 112 #[.slice a zs.length ca, .slice b ys.length cb] w fun e w' => Below w.heap.size w w' ∧ ((lookC zs ys = none ∧ e = .returned (.tuple #[])) ∨ (lookC zs ys = some (zs, ys) ∧ e = .panicked [{ v := .iface 29 (.agg #[.bool true, .slice a ((zs, ys)).1.length ca, .slice b ((zs, ys)).2.length cb]), recovered := false }])) := by
  have A := ha.alloc (.cells #[.bool true, .slice a zs.length ca, .slice b ys.length cb] 29)
  have B := hb.alloc (.cells #[.bool true, .slice a zs.length ca, .slice b ys.length cb] 29)
  have hcl : isClashB true zs ys = clashB zs ys := by unfold isClashB; simp [hla, hlb]
  have IC : Hid (∀ u : World, Has u .u8 a zs.length zs → Has u .u8 b ys.length ys → Calls Tryd.prog 24 #[.agg #[.bool true, .slice a zs.length ca, .slice b ys.length cb]] u fun r w' => r = .returned (.bool (clashB zs ys)) ∧ Below u.heap.size u w') := by
    intro u h1 h2
    have := implIsClash_any true a b ca cb zs ys u h1 h2 (by omega) (by omega)
    rw [hcl] at this
    exact this
  unfold lookC
  by_cases hc : clashB zs ys = true
  · rw [hc] at IC
    rw [if_pos hc]
    clear hc hcl
    go_enter Tryd.func112, Tryd.ntmps112
    go_wp2_with fail
    refine (IC.out _ A B).mono ?_
    rintro r u1 ⟨rfl, hb1⟩
    obtain ⟨⟨k0, k1, k2⟩, _, z1⟩ := var3 hb1
    have B1 : Below w.heap.size w u1 := ((Below.refl _ _).alloc (Nat.le_refl _) _).trans (hb1.mono (by simp))
    go_wp2
    exact ⟨rfl, B1, .inr ⟨trivial, rfl⟩⟩
  · have hc' : clashB zs ys = false := by simpa using hc
    rw [hc'] at IC
    rw [if_neg hc]
    clear hc hc' hcl
    go_enter Tryd.func112, Tryd.ntmps112
    go_wp2_with fail
    refine (IC.out _ A B).mono ?_
    rintro r u1 ⟨rfl, hb1⟩
    have B1 : Below w.heap.size w u1 := ((Below.refl _ _).alloc (Nat.le_refl _) _).trans (hb1.mono (by simp))
    go_wp2
    go_end0
    exact ⟨B1, .inl ⟨trivial, rfl⟩⟩

theorem fldB1 (x : Int) (a : Option Addr) (n c : Nat) (w : World) : (Instr.field 111 (.agg #[.int .i64 x, .slice a n c]) 1).run Tryd.prog w = .ok (.slice a n c) w := by kernel_rfl

set_option maxHeartbeats 2000000 in
theorem lookInLeaves_any (a b : Option Addr) (ca cb : Nat) (zs ys : List Int) (w : World) (hT : Tab w) (ha : Has w .u8 a zs.length zs) (hb : Has w .u8 b ys.length ys) (hla : zs.length ≤ 250) (hlb : ys.length ≤ 250) :
    Calls Tryd.prog 62 #[.slice a zs.length ca, .slice b ys.length cb] w (WkE (lookC (leafL zs) (leafL ys)) w) := by
  have F1 := fldB1
  have LB1 : Hid (∀ u : World, Below w.heap.size w u → Calls Tryd.prog 102 #[.slice a zs.length ca] u fun r w' => ∃ a' c', r = .returned (.agg #[.int .i64 0, .slice a' (leafL zs).length c']) ∧ w'.ownsRow u.heap.size 5 1 (.slice a' (leafL zs).length c') (leafL zs).length ((leafL zs).map (.int .u8)) ∧ Below u.heap.size u w') := by
    intro u hu
    have := implLeafBytes_any a ca zs u (hT.below hu (Nat.le_refl _)) (ha.below hu (Nat.le_refl _))
    rw [show leafC zs = 0 by unfold leafC; rw [if_neg (by omega)], show leafB zs = leafL zs by unfold leafB; rw [if_neg (by omega)]] at this
    exact this
  have LB2 : Hid (∀ u : World, Below w.heap.size w u → Calls Tryd.prog 102 #[.slice b ys.length cb] u fun r w' => ∃ a' c', r = .returned (.agg #[.int .i64 0, .slice a' (leafL ys).length c']) ∧ w'.ownsRow u.heap.size 5 1 (.slice a' (leafL ys).length c') (leafL ys).length ((leafL ys).map (.int .u8)) ∧ Below u.heap.size u w') := by
    intro u hu
    have := implLeafBytes_any b cb ys u (hT.below hu (Nat.le_refl _)) (hb.below hu (Nat.le_refl _))
    rw [show leafC ys = 0 by unfold leafC; rw [if_neg (by omega)], show leafB ys = leafL ys by unfold leafB; rw [if_neg (by omega)]] at this
    exact this
  have W1 : Hid (∀ n ∈ leafL zs, (Lit.int .u8 n).wf = true) := leaf_wf ha.2.1
  have W2 : Hid (∀ n ∈ leafL ys, (Lit.int .u8 n).wf = true) := leaf_wf hb.2.1
  have l1 : (leafL zs).length ≤ 300 := by simp [leafL]; omega
  have l2 : (leafL ys).length ≤ 300 := by simp [leafL]; omega
  generalize leafL zs = A at *
  generalize leafL ys = B at *
  go_enter Tryd.func62, Tryd.ntmps62
  go_wp2_with fail
  refine (LB1.out _ (Below.refl _ _)).mono ?_
  rintro r u1 ⟨a1, c1, rfl, O1, hb1⟩
  go_wp2_with fail
  refine (LB2.out _ hb1).mono ?_
  rintro r u2 ⟨a2, c2, rfl, O2, hb2⟩
  have B2 := hb1.trans (hb2.mono hb1.size)
  have C2 : Hid (OwnC u2 w.heap.size a1 a2 c1 c2 A B) := ⟨own_below O1 hb2, own_mono O2 hb1.size, fun x y e1 e2 => by
    subst e1 e2
    have h1 := own_lt O1 x rfl
    have h2 := own_base O2 y rfl
    omega⟩
  have H1 : Hid (Has u2 .u8 a1 A.length A) := (has_of_own O1 W1.out).below hb2 (Nat.le_refl _)
  have H2 : Hid (Has u2 .u8 a2 B.length B) := has_of_own O2 W2.out
  clear O1 O2 hb1 hb2
  go_wp2_with fail
  refine (lookIn_any a1 a2 c1 c2 A B _ H1.out H2.out l1 l2).mono ?_
  rintro e u3 ⟨hb3, h⟩
  have B3 := B2.trans (hb3.mono B2.size)
  rcases h with ⟨hn, rfl⟩ | ⟨hn, rfl⟩
  · go_wp2
    go_end0
    rw [hn]
    exact WkE.ret B3
  · rw [hn]
    exact ⟨rfl, B3, .inr ⟨(A, B), a1, c1, a2, c2, rfl, rfl, C2.out.below hb3⟩⟩

set_option maxHeartbeats 4000000 in
theorem lookInNodes_any (a b c d : Int) (w : World) (hT : Tab w) (ha : 0 ≤ a ∧ a ≤ 65520) (hb : 0 ≤ b ∧ b ≤ 65520) (hc : 0 ≤ c ∧ c ≤ 65520) (hd : 0 ≤ d ∧ d ≤ 65520) :
    Calls Tryd.prog 110 #[.agg #[.int .i64 a, .int .i64 b, .bool false], .agg #[.int .i64 c, .int .i64 d, .bool false]] w (WkE (ndC a b c d) w) := by
  have F1 := fldB1
  have NB1 : Hid (∀ u : World, Below w.heap.size w u → Calls Tryd.prog 138 #[.int .i64 a, .int .i64 b] u fun r w' => ∃ a' c', r = .returned (.agg #[.int .i64 0, .slice a' (nodeL a b).length c']) ∧ w'.ownsRow u.heap.size 5 1 (.slice a' (nodeL a b).length c') (nodeL a b).length ((nodeL a b).map (.int .u8)) ∧ Below u.heap.size u w') := by
    intro u hu
    have := implNodeBytes_any a b u (hT.below hu (Nat.le_refl _))
    rw [show nodeC a b = 0 by unfold nodeC; rw [if_pos ⟨ha, hb⟩], show nodeB a b = nodeL a b by unfold nodeB; rw [if_pos ⟨ha, hb⟩]] at this
    exact this
  have NB2 : Hid (∀ u : World, Below w.heap.size w u → Calls Tryd.prog 138 #[.int .i64 c, .int .i64 d] u fun r w' => ∃ a' c', r = .returned (.agg #[.int .i64 0, .slice a' (nodeL c d).length c']) ∧ w'.ownsRow u.heap.size 5 1 (.slice a' (nodeL c d).length c') (nodeL c d).length ((nodeL c d).map (.int .u8)) ∧ Below u.heap.size u w') := by
    intro u hu
    have := implNodeBytes_any c d u (hT.below hu (Nat.le_refl _))
    rw [show nodeC c d = 0 by unfold nodeC; rw [if_pos ⟨hc, hd⟩], show nodeB c d = nodeL c d by unfold nodeB; rw [if_pos ⟨hc, hd⟩]] at this
    exact this
  have W1 : Hid (∀ n ∈ nodeL a b, (Lit.int .u8 n).wf = true) := node_wf ha.1 (by omega) hb.1 (by omega)
  have W2 : Hid (∀ n ∈ nodeL c d, (Lit.int .u8 n).wf = true) := node_wf hc.1 (by omega) hd.1 (by omega)
  have l1 : (nodeL a b).length ≤ 300 := by simp [nodeL]
  have l2 : (nodeL c d).length ≤ 300 := by simp [nodeL]
  have LK : Hid (∀ (u0 u : World) (a1 a2 : Option Addr) (c1 c2 : Nat), Below w.heap.size w u0 → Below u0.heap.size u0 u → u0.ownsRow w.heap.size 5 1 (.slice a1 (nodeL a b).length c1) (nodeL a b).length ((nodeL a b).map (.int .u8)) → u.ownsRow u0.heap.size 5 1 (.slice a2 (nodeL c d).length c2) (nodeL c d).length ((nodeL c d).map (.int .u8)) → Calls Tryd.prog 112 #[.slice a1 (nodeL a b).length c1, .slice a2 (nodeL c d).length c2] u fun e w' => Below u.heap.size u w' ∧ ((ndC a b c d = none ∧ e = .returned (.tuple #[])) ∨ ∃ y, ndC a b c d = some y ∧ e = .panicked [{ v := .iface 29 (.agg #[.bool true, .slice a1 y.1.length c1, .slice a2 y.2.length c2]), recovered := false }] ∧ OwnC w' w.heap.size a1 a2 c1 c2 y.1 y.2)) := by
    intro u0 u a1 a2 c1 c2 h1 h2 o1 o2
    refine (lookIn_any a1 a2 c1 c2 _ _ u ((has_of_own o1 W1.out).below h2 (Nat.le_refl _)) (has_of_own o2 W2.out) l1 l2).mono ?_
    rintro e w' ⟨hb', h⟩
    refine ⟨hb', ?_⟩
    rcases h with ⟨hn, rfl⟩ | ⟨hn, rfl⟩
    · exact .inl ⟨hn, rfl⟩
    · refine .inr ⟨_, hn, rfl, OwnC.below ⟨own_below o1 h2, own_mono o2 h1.size, fun x y e1 e2 => ?_⟩ hb'⟩
      subst e1 e2
      have h1 := own_lt o1 x rfl
      have h2 := own_base o2 y rfl
      omega
  generalize ndC a b c d = X at *
  generalize nodeL a b = A at *
  generalize nodeL c d = B at *
  obtain ⟨E, hE⟩ : ∃ E, E = ((w.alloc (.cells #[.int .i64 a, .int .i64 b, .bool false] 121)).alloc (.cells #[.int .i64 c, .int .i64 d, .bool false] 121)) := ⟨_, rfl⟩
  have W0 : Below w.heap.size w E := by rw [hE]; exact ((Below.refl _ _).alloc (Nat.le_refl _) _).alloc (by simp) _
  have zE : E.heap.size = w.heap.size + 1 + 1 := by rw [hE]; simp
  have g1 : w.heap.size < E.heap.size := by omega
  have g2 : w.heap.size + 1 < E.heap.size := by omega
  have c0 : ∀ wx : World, Below E.heap.size E wx → wx.cell? ⟨w.heap.size, 0, none⟩ = some (.int .i64 a) := fun wx h => (h.cell (p := ⟨w.heap.size, 0, none⟩) g1).trans (by rw [hE]; simp [go_sem])
  have c1 : ∀ wx : World, Below E.heap.size E wx → wx.cell? ⟨w.heap.size, 1, none⟩ = some (.int .i64 b) := fun wx h => (h.cell (p := ⟨w.heap.size, 1, none⟩) g1).trans (by rw [hE]; simp [go_sem])
  have c2 : ∀ wx : World, Below E.heap.size E wx → wx.cell? ⟨w.heap.size + 1, 0, none⟩ = some (.int .i64 c) := fun wx h => (h.cell (p := ⟨w.heap.size + 1, 0, none⟩) g2).trans (by rw [hE]; simp [go_sem])
  have c3 : ∀ wx : World, Below E.heap.size E wx → wx.cell? ⟨w.heap.size + 1, 1, none⟩ = some (.int .i64 d) := fun wx h => (h.cell (p := ⟨w.heap.size + 1, 1, none⟩) g2).trans (by rw [hE]; simp [go_sem])
  have D0 : Below E.heap.size E E.drew := (Below.refl _ _).drew
  have V0 : Below w.heap.size w E.drew := W0.drew
  have W0H : Hid (_) := W0
  clear zE W0 hT
  go_enter Tryd.func110, Tryd.ntmps110
  go_wp2_with fail
  simp only [← hE]
  clear hE
  go_region_held2 (fun wx => Below E.heap.size E wx)
    ((first | exact D0 | exact D3 | exact D2 | exact D1))
    ((first | (go_at_call_of 138 (Value.int .i64 a); refine (NB1.out _ V0).mono ?_; rintro _ ua ⟨a1, k1, rfl, O1, hba⟩; have D1 : Below E.heap.size E ua := D0.trans (hba.mono D0.size); have O1' : Hid (World.ownsRow ua w.heap.size 5 1 (.slice a1 A.length k1) A.length (A.map (.int .u8))) := own_mono O1 V0.size; have V1 : Below w.heap.size w ua := V0.trans (hba.mono V0.size); clear O1) | (go_at_call_of 138 (Value.int .i64 c); refine (NB2.out _ V1).mono ?_; rintro _ ub ⟨a2, k2, rfl, O2, hbb⟩; have D2 : Below E.heap.size E ub := D1.trans (hbb.mono D1.size); have O2' : Hid (World.ownsRow ub ua.heap.size 5 1 (.slice a2 B.length k2) B.length (B.map (.int .u8))) := O2; clear O2) | (go_at_call 112; refine (LK.out _ _ _ _ _ _ V1 hbb O1'.out O2'.out).mono ?_; rintro e uc ⟨hbc, h⟩; have D3 : Below E.heap.size E uc := D2.trans (hbc.mono D2.size); have V3 : Below w.heap.size w uc := (V1.trans (hbb.mono V1.size)).trans (hbc.mono (V1.trans (hbb.mono V1.size)).size); (rcases h with ⟨hn, rfl⟩ | ⟨y, hn, rfl, OC⟩); rotate_left; exact ⟨rfl, V3, .inr ⟨y, a1, k1, a2, k2, hn, rfl, OC⟩⟩)))
  go_wp2
  go_end0
  rw [hn]
  exact WkE.ret V3

end Go.Proofs.YtklhkhlmhddmcaaDoor
