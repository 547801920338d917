/- Contracts: the model's clashes of chapter 6: two pieces, two nodes. Contracts: the model's clash of two trees. Contracts: the model's TreeClash. -/
import Derived.Test.YtklhkhlmhddmcaaDoorFrB
import Derived.Test.YtklhkhlmhddmcaaDoorExtD
import Derived.Test.YtklhkhlmhddmcaaDoorPcsM
import Derived.Test.YtklhkhlmhddmcaaDoorRoot4S
import Derived.Deep.DeepCutAuto
import Derived.Deep.RegionWith
namespace Go.Proofs.YtklhkhlmhddmcaaDoor
open Go.ChangeShapes Go.WideShapes Go.ChangeAt Go.RowKit
set_option linter.unusedVariables false
set_option linter.unusedSimpArgs false

/-- The first piece of a clash. -/
def clA (x : Cl) : List Int := match x with | some y => y.1 | none => []
/-- The second piece of a clash. -/
def clB (x : Cl) : List Int := match x with | some y => y.2 | none => []
theorem OwnC.nil (w : World) (base : Nat) : OwnC w base none none 0 0 [] [] := ⟨World.ownsRow_nil _ _ _ _, World.ownsRow_nil _ _ _ _, fun _ _ e => by cases e⟩
theorem OwnC.mono {w : World} {base base' : Nat} {a1 a2 : Option Addr} {c1 c2 : Nat} {xs ys : List Int} (h : OwnC w base a1 a2 c1 c2 xs ys) (hb : base' ≤ base) : OwnC w base' a1 a2 c1 c2 xs ys := ⟨own_mono h.one hb, own_mono h.two hb, h.apart⟩
theorem OwnC.set {w : World} {base : Nat} {a1 a2 : Option Addr} {c1 c2 : Nat} {xs ys : List Int} (h : OwnC w base a1 a2 c1 c2 xs ys) (p : Addr) (u : Value) (hp : p.block < base) : OwnC (w.setCell p u) base a1 a2 c1 c2 xs ys :=
  ⟨own_blk h.one (fun x e => Below.heap_setCell _ _ _ _ (by have := own_base h.one x e; omega)), own_blk h.two (fun x e => Below.heap_setCell _ _ _ _ (by have := own_base h.two x e; omega)), h.apart⟩

set_option maxHeartbeats 1000000 in
theorem l2Clash_own (a b : Option Addr) (ca cb : Nat) (zs ys : List Int) (w : World) (ha : Has w .u8 a zs.length zs) (hb : Has w .u8 b ys.length ys) (hla : zs.length ≤ 2097152) (hlb : ys.length ≤ 2097152) :
    Calls Tryd.prog 71 #[.slice a zs.length ca, .slice b ys.length cb] w fun r w' => ∃ a1 c1 a2 c2, r = .returned (.agg #[.bool (lookC zs ys).isSome, .slice a1 (clA (lookC zs ys)).length c1, .slice a2 (clB (lookC zs ys)).length c2]) ∧ OwnC w' w.heap.size a1 a2 c1 c2 (clA (lookC zs ys)) (clB (lookC zs ys)) ∧ Below w.heap.size w w' := by
  have ha' := ha.alloc (.cells #[.bool false, .slice none 0 0, .slice none 0 0] 29)
  have hb' := hb.alloc (.cells #[.bool false, .slice none 0 0, .slice none 0 0] 29)
  have s1 := ha'.str ca
  have s2 := hb'.str cb
  have hst := str_beq ha.2.1 hb.2.1
  have tok1 : True := trivial
  have tok2 : True := trivial
  by_cases he : zs = ys
  · have hst' : ((strOfNums zs).toList == (strOfNums ys).toList) = true := by rw [hst]; simpa using he
    have hcl : lookC zs ys = none := by unfold lookC clashB; simp [he]
    rw [hcl]
    clear hst he hcl
    go_enter Tryd.func71, Tryd.ntmps71
    go_wp2
    refine bodyPost_ret (v := .agg #[.bool false, .slice none 0 0, .slice none 0 0]) (by simp [results, Tryd.results71, go_sem]) rfl ⟨none, 0, none, 0, rfl, OwnC.nil _ _, ?_⟩
    repeat (first | exact Below.refl _ _ | refine Below.alloc ?_ (by (try simp) <;> omega) _ | refine Below.setCell ?_ (by (try simp) <;> omega) _)
  · have hst' : ((strOfNums zs).toList == (strOfNums ys).toList) = false := by rw [hst]; simpa using he
    by_cases hs : sumL zs = sumL ys
    · have hcl : lookC zs ys = some (zs, ys) := by unfold lookC clashB; simp [he, hs]
      have hs' : (sumL zs != sumL ys) = false := by simpa using hs
      rw [hcl]
      clear hst he hcl hs
      go_enter Tryd.func71, Tryd.ntmps71
      go_wp2_with (first | (go_at_call 100; have _t := tok1; refine (l2Sum_any a ca zs _ ha' hla).mono ?_; rintro r u ⟨rfl, rfl⟩; clear tok1 _t) | (go_at_call 100; have _t := tok2; refine (l2Sum_any b cb ys _ hb' hlb).mono ?_; rintro r u ⟨rfl, rfl⟩; clear tok2 _t; have tok3 : True := trivial) | (go_at_call 96; have _t := tok3; refine (copy_shape a ca zs _ ha' hla).mono ?_; rintro r u1 ⟨a1, c1, rfl, ho1, hb1⟩; clear tok3 _t; have hb2' := hb'.below hb1 (Nat.le_refl _)) | (go_at_call 96; refine (copy_shape b cb ys _ hb2' hlb).mono ?_; rintro r u2 ⟨a2, c2, rfl, ho2, hb2⟩; have hB := hb1.trans (hb2.mono hb1.size); obtain ⟨hc2, hf2⟩ := bcell hB; have hz2 := hB.size; have hz1 := hb1.size; (try simp at hz2); (try simp at hz1)))
      have C2 : OwnC u2 (w.heap.size + 1) a1 a2 c1 c2 zs ys := ⟨own_mono (own_below ho1 hb2) (by simp), own_mono ho2 (by omega), fun x y e1 e2 => by
        subst e1 e2
        have h1 := own_lt ho1 x rfl
        have h2 := own_base ho2 y rfl
        omega⟩
      refine bodyPost_ret (v := .agg #[.bool true, .slice a1 zs.length c1, .slice a2 ys.length c2]) (by simp [results, Tryd.results71, go_sem, hc2]) rfl ⟨a1, c1, a2, c2, rfl, ?_, ?_⟩
      · exact (((C2.set _ _ (Nat.lt_succ_self _)).set _ _ (Nat.lt_succ_self _)).set _ _ (Nat.lt_succ_self _)).mono (Nat.le_succ _)
      · exact (((((Below.refl _ _).alloc (Nat.le_refl _) _).trans (hB.mono (by simp))).setCell (by simp) _).setCell (by simp) _).setCell (by simp) _
    · have hcl : lookC zs ys = none := by unfold lookC clashB; simp [hs]
      have hs' : (sumL zs != sumL ys) = true := by simpa using hs
      rw [hcl]
      clear hst he hcl hs
      go_enter Tryd.func71, Tryd.ntmps71
      go_wp2_with (first | (go_at_call 100; have _t := tok1; refine (l2Sum_any a ca zs _ ha' hla).mono ?_; rintro r u ⟨rfl, rfl⟩; clear tok1 _t) | (go_at_call 100; have _t := tok2; refine (l2Sum_any b cb ys _ hb' hlb).mono ?_; rintro r u ⟨rfl, rfl⟩; clear tok2 _t))
      refine bodyPost_ret (v := .agg #[.bool false, .slice none 0 0, .slice none 0 0]) (by simp [results, Tryd.results71, go_sem]) rfl ⟨none, 0, none, 0, rfl, OwnC.nil _ _, ?_⟩
      repeat (first | exact Below.refl _ _ | refine Below.alloc ?_ (by (try simp) <;> omega) _ | refine Below.setCell ?_ (by (try simp) <;> omega) _)

set_option maxHeartbeats 1000000 in
theorem l6Nodes_any (a b c d : Int) (w : World) (ha : 0 ≤ a ∧ a ≤ 65520) (hb : 0 ≤ b ∧ b ≤ 65520) (hc : 0 ≤ c ∧ c ≤ 65520) (hd : 0 ≤ d ∧ d ≤ 65520) :
    Calls Tryd.prog 119 #[.int .i64 a, .int .i64 b, .int .i64 c, .int .i64 d] w fun r w' => ∃ a1 c1 a2 c2, r = .returned (.agg #[.bool (ndC a b c d).isSome, .slice a1 (clA (ndC a b c d)).length c1, .slice a2 (clB (ndC a b c d)).length c2]) ∧ OwnC w' w.heap.size a1 a2 c1 c2 (clA (ndC a b c d)) (clB (ndC a b c d)) ∧ Below w.heap.size w w' := by
  have w1 := node_wf ha.1 (show a ≤ 65535 by omega) hb.1 (show b ≤ 65535 by omega)
  have w2 := node_wf hc.1 (show c ≤ 65535 by omega) hd.1 (show d ≤ 65535 by omega)
  have W1 : Hid (_) := w1
  have W2 : Hid (_) := w2
  clear w1 w2
  have HX : Hid (lookC (nodeL a b) (nodeL c d) = ndC a b c d) := rfl
  generalize ndC a b c d = X at *
  go_enter Tryd.func119, Tryd.ntmps119
  go_wp2_with fail
  refine (l2Node_any a b _ ha.1 (by omega) hb.1 (by omega)).mono ?_
  rintro r u1 ⟨x1, k1, rfl, o1, hb1⟩
  have z1 := hb1.size
  simp at z1
  go_wp2_with fail
  refine (l2Node_any c d _ hc.1 (by omega) hd.1 (by omega)).mono ?_
  rintro r u2 ⟨x2, k2, rfl, o2, hb2⟩
  have z2 := hb2.size
  have H1 : Hid (Has u2 .u8 x1 (nodeL a b).length (nodeL a b)) := (has_of_own o1 W1.out).below hb2 (Nat.le_refl _)
  have H2 : Hid (Has u2 .u8 x2 (nodeL c d).length (nodeL c d)) := has_of_own o2 W2.out
  have B2 := hb1.trans (hb2.mono hb1.size)
  clear o1 o2
  go_wp2_with fail
  refine (l2Clash_own x1 x2 k1 k2 (nodeL a b) (nodeL c d) _ H1.out H2.out (by simp [nodeL]) (by simp [nodeL])).mono ?_
  rintro r u3 ⟨a1, c1, a2, c2, rfl, O3, hb3⟩
  have z3 := hb3.size
  have B3 := B2.trans (hb3.mono B2.size)
  obtain ⟨hc3, hf3⟩ := bcell B3
  rw [HX.out] at O3 ⊢
  have O3' : Hid (OwnC u3 (w.heap.size + 1) a1 a2 c1 c2 (clA X) (clB X)) := O3.mono (by omega)
  clear O3 hb1 hb2 hb3 B2
  go_wp2
  refine bodyPost_ret (v := .agg #[.bool X.isSome, .slice a1 (clA X).length c1, .slice a2 (clB X).length c2]) (by simp [results, Tryd.results119, go_sem, hc3]) rfl ⟨a1, c1, a2, c2, rfl, ?_, ?_⟩
  · exact (((O3'.out.set _ _ (Nat.lt_succ_self _)).set _ _ (Nat.lt_succ_self _)).set _ _ (Nat.lt_succ_self _)).mono (Nat.le_succ _)
  · exact (((((Below.refl _ _).alloc (Nat.le_refl _) _).trans (B3.mono (by simp))).setCell (by simp) _).setCell (by simp) _).setCell (by simp) _

/-- A variable of three cells that was written. -/
theorem var_set {E ua : World} {b base : Nat} {x0 x1 x2 v0 v1 v2 : Value} {a1 a2 : Option Addr} {c1 c2 : Nat} {xs ys : List Int} (q0 : ua.cell? ⟨b, 0, none⟩ = some x0) (q1 : ua.cell? ⟨b, 1, none⟩ = some x1) (q2 : ua.cell? ⟨b, 2, none⟩ = some x2) (f0 : ua.frozen? ⟨b, 0, none⟩ = false) (f1 : ua.frozen? ⟨b, 1, none⟩ = false) (f2 : ua.frozen? ⟨b, 2, none⟩ = false) (hb : E.heap.size ≤ b) (hlt : b < ua.heap.size) (D : Below E.heap.size E ua) (O : OwnC ua base a1 a2 c1 c2 xs ys) (hbase : b < base) :
    E.heap.size ≤ b ∧ b < (((ua.setCell ⟨b, 0, none⟩ v0).setCell ⟨b, 1, none⟩ v1).setCell ⟨b, 2, none⟩ v2).heap.size ∧ (((ua.setCell ⟨b, 0, none⟩ v0).setCell ⟨b, 1, none⟩ v1).setCell ⟨b, 2, none⟩ v2).cell? ⟨b, 0, none⟩ = some v0 ∧ (((ua.setCell ⟨b, 0, none⟩ v0).setCell ⟨b, 1, none⟩ v1).setCell ⟨b, 2, none⟩ v2).cell? ⟨b, 1, none⟩ = some v1 ∧ (((ua.setCell ⟨b, 0, none⟩ v0).setCell ⟨b, 1, none⟩ v1).setCell ⟨b, 2, none⟩ v2).cell? ⟨b, 2, none⟩ = some v2 ∧ ((((ua.setCell ⟨b, 0, none⟩ v0).setCell ⟨b, 1, none⟩ v1).setCell ⟨b, 2, none⟩ v2).frozen? ⟨b, 0, none⟩ = false ∧ (((ua.setCell ⟨b, 0, none⟩ v0).setCell ⟨b, 1, none⟩ v1).setCell ⟨b, 2, none⟩ v2).frozen? ⟨b, 1, none⟩ = false ∧ (((ua.setCell ⟨b, 0, none⟩ v0).setCell ⟨b, 1, none⟩ v1).setCell ⟨b, 2, none⟩ v2).frozen? ⟨b, 2, none⟩ = false) ∧ OwnC (((ua.setCell ⟨b, 0, none⟩ v0).setCell ⟨b, 1, none⟩ v1).setCell ⟨b, 2, none⟩ v2) E.heap.size a1 a2 c1 c2 xs ys ∧ Below E.heap.size E (((ua.setCell ⟨b, 0, none⟩ v0).setCell ⟨b, 1, none⟩ v1).setCell ⟨b, 2, none⟩ v2) := by
  have e1 : (ua.setCell ⟨b, 0, none⟩ v0).cell? ⟨b, 1, none⟩ = some x1 := (World.cell?_setCell_other (h := by simp) ..).trans q1
  have e2 : ((ua.setCell ⟨b, 0, none⟩ v0).setCell ⟨b, 1, none⟩ v1).cell? ⟨b, 2, none⟩ = some x2 := (World.cell?_setCell_other (h := by simp) ..).trans ((World.cell?_setCell_other (h := by simp) ..).trans q2)
  refine ⟨hb, by simpa using hlt, ?_, ?_, World.cell?_setCell_same (h := e2) .., ⟨by simpa using f0, by simpa using f1, by simpa using f2⟩, (((O.set _ _ hbase).set _ _ hbase).set _ _ hbase).mono (by omega), ((D.setCell hb _).setCell hb _).setCell hb _⟩
  · exact (World.cell?_setCell_other (h := by simp) ..).trans ((World.cell?_setCell_other (h := by simp) ..).trans (World.cell?_setCell_same (h := q0) ..))
  · exact (World.cell?_setCell_other (h := by simp) ..).trans (World.cell?_setCell_same (h := e1) ..)

end Go.Proofs.YtklhkhlmhddmcaaDoor

namespace Go.Proofs.YtklhkhlmhddmcaaDoor
open Go.ChangeShapes Go.WideShapes Go.ChangeAt Go.RowKit
set_option linter.unusedVariables false
set_option linter.unusedSimpArgs false

set_option maxRecDepth 100000 in
set_option maxHeartbeats 8000000 in
theorem l6Tree_any (n : Nat) : ∀ (x y : Option Addr) (cx cy : Nat) (xs ys : List Int) (w : World), xs.length ≤ n → xs.length = ys.length → xs.length ≤ 32 → allS xs = true → allS ys = true → Has w .i64 x xs.length xs → Has w .i64 y ys.length ys → xs.length ≤ cx → cx ≤ maxLen → ys.length ≤ cy → cy ≤ maxLen →
    Calls Tryd.prog 89 #[.slice x xs.length cx, .slice y ys.length cy] w fun r w' => ∃ a1 c1 a2 c2, r = .returned (.agg #[.bool (trC xs ys).isSome, .slice a1 (clA (trC xs ys)).length c1, .slice a2 (clB (trC xs ys)).length c2]) ∧ OwnC w' w.heap.size a1 a2 c1 c2 (clA (trC xs ys)) (clB (trC xs ys)) ∧ Below w.heap.size w w' := by
  induction n with
  | zero =>
    intro x y cx cy xs ys w hn hl h32 ax ay hx hy hcx hmx hcy hmy
    have h1' : (xs.length : Int) ≤ 1 := by omega
    rw [trC_le ys (by omega)]
    go_enter Tryd.func89, Tryd.ntmps89
    go_wp2
    refine bodyPost_ret (v := .agg #[.bool false, .slice none 0 0, .slice none 0 0]) (by simp [results, Tryd.results89, go_sem]) rfl ⟨none, 0, none, 0, rfl, OwnC.nil _ _, ?_⟩
    repeat (first | exact Below.refl _ _ | refine Below.alloc ?_ (by (try simp) <;> omega) _ | refine Below.setCell ?_ (by (try simp) <;> omega) _)
  | succ n ih =>
    intro x y cx cy xs ys w hn hl h32 ax ay hx hy hcx hmx hcy hmy
    unfold maxLen at hmx hmy
    by_cases h1 : xs.length ≤ 1
    · have h1' : (xs.length : Int) ≤ 1 := by omega
      rw [trC_le ys h1]
      go_enter Tryd.func89, Tryd.ntmps89
      go_wp2
      refine bodyPost_ret (v := .agg #[.bool false, .slice none 0 0, .slice none 0 0]) (by simp [results, Tryd.results89, go_sem]) rfl ⟨none, 0, none, 0, rfl, OwnC.nil _ _, ?_⟩
      repeat (first | exact Below.refl _ _ | refine Below.alloc ?_ (by (try simp) <;> omega) _ | refine Below.setCell ?_ (by (try simp) <;> omega) _)
    · obtain ⟨b1, o1, hx1, hlt1⟩ : ∃ b off, x = some ⟨b, off, none⟩ ∧ b < w.heap.size := by
        rcases hx.2.2 with c | ⟨b, o, h, h2, _⟩
        · omega
        · exact ⟨b, o, h, h2⟩
      obtain ⟨b2, o2, hy1, hlt2⟩ : ∃ b off, y = some ⟨b, off, none⟩ ∧ b < w.heap.size := by
        rcases hy.2.2 with c | ⟨b, o, h, h2, _⟩
        · omega
        · exact ⟨b, o, h, h2⟩
      subst hx1 hy1
      have hs' : (2 : Int) ≤ xs.length := by omega
      obtain ⟨q1, q2, q3⟩ := splN_bd hs' (by omega)
      obtain ⟨m, hm1⟩ : ∃ m : Nat, splN (xs.length : Int) = m := ⟨(splN (xs.length : Int)).toNat, by omega⟩
      have tl : (xs.take m).length = m := by simp; omega
      have dl : (xs.drop m).length = xs.length - m := by simp
      have tl2 : (ys.take m).length = m := by simp; omega
      have dl2 : (ys.drop m).length = xs.length - m := by simp; omega
      have hi := has_init hx m (by omega)
      have hr := has_rest hx m (by omega)
      have hi2 := has_init hy m (by omega)
      have hr2 := has_rest hy m (by omega)
      have HM : Hid (splN (xs.length : Int) = m) := hm1
      have R1 : Hid (∀ u : World, Below w.heap.size w u → Calls Tryd.prog 69 #[.slice (some ⟨b1, o1, none⟩) m cx] u fun r w' => r = .returned (.int .i64 (rtM nS 11 (xs.take m))) ∧ Below u.heap.size u w') := by
        intro u hu
        have := l4Root_any _ (some ⟨b1, o1, none⟩) cx (xs.take m) u (Nat.le_refl _) (by omega) (allS_take ax m) (hi.below hu (Nat.le_refl _)) (by omega) (by unfold maxLen; omega)
        rw [tl] at this; exact this
      have R2 : Hid (∀ u : World, Below w.heap.size w u → Calls Tryd.prog 69 #[.slice (some ⟨b1, o1 + m, none⟩) (xs.length - m) (cx - m)] u fun r w' => r = .returned (.int .i64 (rtM nS 11 (xs.drop m))) ∧ Below u.heap.size u w') := by
        intro u hu
        have := l4Root_any _ (some ⟨b1, o1 + m, none⟩) (cx - m) (xs.drop m) u (Nat.le_refl _) (by omega) (allS_drop ax m) (hr.below hu (Nat.le_refl _)) (by omega) (by unfold maxLen; omega)
        rw [dl] at this; exact this
      have R3 : Hid (∀ u : World, Below w.heap.size w u → Calls Tryd.prog 69 #[.slice (some ⟨b2, o2, none⟩) m cy] u fun r w' => r = .returned (.int .i64 (rtM nS 11 (ys.take m))) ∧ Below u.heap.size u w') := by
        intro u hu
        have := l4Root_any _ (some ⟨b2, o2, none⟩) cy (ys.take m) u (Nat.le_refl _) (by omega) (allS_take ay m) (hi2.below hu (Nat.le_refl _)) (by omega) (by unfold maxLen; omega)
        rw [tl2] at this; exact this
      have R4 : Hid (∀ u : World, Below w.heap.size w u → Calls Tryd.prog 69 #[.slice (some ⟨b2, o2 + m, none⟩) (xs.length - m) (cy - m)] u fun r w' => r = .returned (.int .i64 (rtM nS 11 (ys.drop m))) ∧ Below u.heap.size u w') := by
        intro u hu
        have := l4Root_any _ (some ⟨b2, o2 + m, none⟩) (cy - m) (ys.drop m) u (Nat.le_refl _) (by omega) (allS_drop ay m) (hr2.below hu (Nat.le_refl _)) (by omega) (by unfold maxLen; omega)
        rw [dl2] at this; exact this
      have T1 : Hid (∀ w : World, Below w.heap.size w w → True) := fun _ _ => trivial
      have IT : Hid (∀ u : World, Below w.heap.size w u → Calls Tryd.prog 89 #[.slice (some ⟨b1, o1, none⟩) m cx, .slice (some ⟨b2, o2, none⟩) m cy] u fun r w' => ∃ a1 c1 a2 c2, r = .returned (.agg #[.bool (trC (xs.take m) (ys.take m)).isSome, .slice a1 (clA (trC (xs.take m) (ys.take m))).length c1, .slice a2 (clB (trC (xs.take m) (ys.take m))).length c2]) ∧ OwnC w' u.heap.size a1 a2 c1 c2 (clA (trC (xs.take m) (ys.take m))) (clB (trC (xs.take m) (ys.take m))) ∧ Below u.heap.size u w') := by
        intro u hu
        have := ih (some ⟨b1, o1, none⟩) (some ⟨b2, o2, none⟩) cx cy (xs.take m) (ys.take m) u (by omega) (by omega) (by omega) (allS_take ax m) (allS_take ay m) (hi.below hu (Nat.le_refl _)) (hi2.below hu (Nat.le_refl _)) (by omega) (by unfold maxLen; omega) (by omega) (by unfold maxLen; omega)
        rw [tl, tl2] at this; exact this
      have ID : Hid (∀ u : World, Below w.heap.size w u → Calls Tryd.prog 89 #[.slice (some ⟨b1, o1 + m, none⟩) (xs.length - m) (cx - m), .slice (some ⟨b2, o2 + m, none⟩) (xs.length - m) (cy - m)] u fun r w' => ∃ a1 c1 a2 c2, r = .returned (.agg #[.bool (trC (xs.drop m) (ys.drop m)).isSome, .slice a1 (clA (trC (xs.drop m) (ys.drop m))).length c1, .slice a2 (clB (trC (xs.drop m) (ys.drop m))).length c2]) ∧ OwnC w' u.heap.size a1 a2 c1 c2 (clA (trC (xs.drop m) (ys.drop m))) (clB (trC (xs.drop m) (ys.drop m))) ∧ Below u.heap.size u w') := by
        intro u hu
        have := ih (some ⟨b1, o1 + m, none⟩) (some ⟨b2, o2 + m, none⟩) (cx - m) (cy - m) (xs.drop m) (ys.drop m) u (by omega) (by omega) (by omega) (allS_drop ax m) (allS_drop ay m) (hr.below hu (Nat.le_refl _)) (hr2.below hu (Nat.le_refl _)) (by omega) (by unfold maxLen; omega) (by omega) (by unfold maxLen; omega)
        rw [dl, dl2] at this; exact this
      have ND : Hid (∀ u : World, Calls Tryd.prog 119 #[.int .i64 (rtM nS 11 (xs.take m)), .int .i64 (rtM nS 11 (xs.drop m)), .int .i64 (rtM nS 11 (ys.take m)), .int .i64 (rtM nS 11 (ys.drop m))] u fun r w' => ∃ a1 c1 a2 c2, r = .returned (.agg #[.bool (ndC (rtM nS 11 (xs.take m)) (rtM nS 11 (xs.drop m)) (rtM nS 11 (ys.take m)) (rtM nS 11 (ys.drop m))).isSome, .slice a1 (clA (ndC (rtM nS 11 (xs.take m)) (rtM nS 11 (xs.drop m)) (rtM nS 11 (ys.take m)) (rtM nS 11 (ys.drop m)))).length c1, .slice a2 (clB (ndC (rtM nS 11 (xs.take m)) (rtM nS 11 (xs.drop m)) (rtM nS 11 (ys.take m)) (rtM nS 11 (ys.drop m)))).length c2]) ∧ OwnC w' u.heap.size a1 a2 c1 c2 (clA (ndC (rtM nS 11 (xs.take m)) (rtM nS 11 (xs.drop m)) (rtM nS 11 (ys.take m)) (rtM nS 11 (ys.drop m)))) (clB (ndC (rtM nS 11 (xs.take m)) (rtM nS 11 (xs.drop m)) (rtM nS 11 (ys.take m)) (rtM nS 11 (ys.drop m)))) ∧ Below u.heap.size u w') := fun u => l6Nodes_any _ _ _ _ u (rtM_bd _ _ (Nat.le_refl _) (allS_take ax m)) (rtM_bd _ _ (Nat.le_refl _) (allS_drop ax m)) (rtM_bd _ _ (Nat.le_refl _) (allS_take ay m)) (rtM_bd _ _ (Nat.le_refl _) (allS_drop ay m))
      have EQ : trC xs ys = (ndC (rtM nS 11 (xs.take m)) (rtM nS 11 (xs.drop m)) (rtM nS 11 (ys.take m)) (rtM nS 11 (ys.drop m)) <|> (trC (xs.take m) (ys.take m) <|> trC (xs.drop m) (ys.drop m))) := by
        rw [trC_gt ys (by omega), hm1]; rfl
      rw [EQ]
      have m1 : (1 : Int) ≤ m := by omega
      have m2 : (m : Int) < xs.length := by omega
      have m3 : (xs.length : Int) ≤ cx := by omega
      have m4 : ¬ (cx : Int) = m := by omega
      have m5 : (0 : Int) ≤ m := by omega
      have m8 : ¬ cx = m := by omega
      have m6 : (m : Int) ≤ cx := by omega
      have m7 : (m : Int) ≤ xs.length := by omega
      have p3 : (xs.length : Int) ≤ cy := by omega
      have p4 : ¬ (cy : Int) = m := by omega
      have p8 : ¬ cy = m := by omega
      have p6 : (m : Int) ≤ cy := by omega
      have h1' : ¬ (xs.length : Int) ≤ 1 := by omega
      rw [← hl]
      clear EQ ih hi hr hi2 hr2 tl dl tl2 dl2 hm1 hx hy h1 q1 q2 q3 hl T1
      generalize rtM nS 11 (xs.take m) = v1 at *
      generalize rtM nS 11 (xs.drop m) = v2 at *
      generalize rtM nS 11 (ys.take m) = v3 at *
      generalize rtM nS 11 (ys.drop m) = v4 at *
      generalize ndC v1 v2 v3 v4 = X1 at *
      generalize trC (xs.take m) (ys.take m) = X2 at *
      generalize trC (xs.drop m) (ys.drop m) = X3 at *
      go_enter Tryd.func89, Tryd.ntmps89
      go_wp2_with (go_at_call 99; refine (split_any xs.length _ (by omega) (by omega)).mono ?_; rintro r u2 ⟨rfl, hu2⟩; have hu3 := hu2.symm; subst hu3; clear hu2; rw [HM.out])
      have B0 : Below w.heap.size w (w.alloc (.cells #[.bool false, .slice none 0 0, .slice none 0 0] 29)) := (Below.refl _ _).alloc (Nat.le_refl _) _
      generalize hE : w.alloc (.cells #[.bool false, .slice none 0 0, .slice none 0 0] 29) = E at *
      have D0 : Below E.heap.size E E.drew := (Below.refl _ _).drew
      have WE : Hid (∀ u : World, Below E.heap.size E u → Below w.heap.size w u) := fun u h => B0.trans (h.mono B0.size)
      go_cut [7] (fun s7 wx => ∃ b a1 c1 a2 c2, s7 = .pointer (some ⟨b, 0, none⟩) ∧ E.heap.size ≤ b ∧ b < wx.heap.size ∧ wx.cell? ⟨b, 0, none⟩ = some (.bool X1.isSome) ∧ wx.cell? ⟨b, 1, none⟩ = some (.slice a1 (clA X1).length c1) ∧ wx.cell? ⟨b, 2, none⟩ = some (.slice a2 (clB X1).length c2) ∧ (wx.frozen? ⟨b, 0, none⟩ = false ∧ wx.frozen? ⟨b, 1, none⟩ = false ∧ wx.frozen? ⟨b, 2, none⟩ = false) ∧ OwnC wx E.heap.size a1 a2 c1 c2 (clA X1) (clB X1) ∧ Below E.heap.size E wx)
      case first =>
        go_region_held3 (fun wx => Below E.heap.size E wx)
          ((first | exact D0 | exact D1 | assumption | exact (D0.alloc (by simp) _) | exact (D1.alloc D1.size _) | exact ((D1.setCell (by first | omega | (simp; omega) | simp) _).setCell (by first | omega | (simp; omega) | simp) _).setCell (by first | omega | (simp; omega) | simp) _))
          ((first | (go_at_call_of 69 (Value.slice (some ⟨b1, o1, none⟩) m cx); refine (R1.out _ (WE.out _ (by assumption))).mono ?_; rintro _ ua ⟨rfl, hba⟩; have D1 : Below E.heap.size E ua := Below.trans (by assumption) (hba.mono (Below.size (by assumption))); have zD := D1.size; (try (first | (have hvv := var3 hba) | (have hbb := var_drew hba; have hvv := var3 hbb) | (have hbb := var_on (A := World.alloc _ _) (by assumption) hba; have hvv := var3 hbb)); obtain ⟨⟨q0, q1, q2⟩, ⟨f0, f1, f2⟩, q3⟩ := hvv; (try simp at q0 q1 q2 q3 f0 f1 f2))) | (go_at_call_of 69 (Value.slice (some ⟨b1, o1 + m, none⟩) (xs.length - m) (cx - m)); refine (R2.out _ (WE.out _ (by assumption))).mono ?_; rintro _ ua ⟨rfl, hba⟩; have D1 : Below E.heap.size E ua := Below.trans (by assumption) (hba.mono (Below.size (by assumption))); have zD := D1.size; (try (first | (have hvv := var3 hba) | (have hbb := var_drew hba; have hvv := var3 hbb) | (have hbb := var_on (A := World.alloc _ _) (by assumption) hba; have hvv := var3 hbb)); obtain ⟨⟨q0, q1, q2⟩, ⟨f0, f1, f2⟩, q3⟩ := hvv; (try simp at q0 q1 q2 q3 f0 f1 f2))) | (go_at_call_of 69 (Value.slice (some ⟨b2, o2, none⟩) m cy); refine (R3.out _ (WE.out _ (by assumption))).mono ?_; rintro _ ua ⟨rfl, hba⟩; have D1 : Below E.heap.size E ua := Below.trans (by assumption) (hba.mono (Below.size (by assumption))); have zD := D1.size; (try (first | (have hvv := var3 hba) | (have hbb := var_drew hba; have hvv := var3 hbb) | (have hbb := var_on (A := World.alloc _ _) (by assumption) hba; have hvv := var3 hbb)); obtain ⟨⟨q0, q1, q2⟩, ⟨f0, f1, f2⟩, q3⟩ := hvv; (try simp at q0 q1 q2 q3 f0 f1 f2))) | (go_at_call_of 69 (Value.slice (some ⟨b2, o2 + m, none⟩) (xs.length - m) (cy - m)); refine (R4.out _ (WE.out _ (by assumption))).mono ?_; rintro _ ua ⟨rfl, hba⟩; have D1 : Below E.heap.size E ua := Below.trans (by assumption) (hba.mono (Below.size (by assumption))); have zD := D1.size; (try (first | (have hvv := var3 hba) | (have hbb := var_drew hba; have hvv := var3 hbb) | (have hbb := var_on (A := World.alloc _ _) (by assumption) hba; have hvv := var3 hbb)); obtain ⟨⟨q0, q1, q2⟩, ⟨f0, f1, f2⟩, q3⟩ := hvv; (try simp at q0 q1 q2 q3 f0 f1 f2))) | (go_at_call 119; refine (ND.out _).mono ?_; rintro _ ua ⟨a1, c1, a2, c2, rfl, O1, hba⟩; have D1 : Below E.heap.size E ua := Below.trans (by assumption) (hba.mono (Below.size (by assumption))); have zD := D1.size; (try (first | (have hvv := var3 hba) | (have hbb := var_drew hba; have hvv := var3 hbb) | (have hbb := var_on (A := World.alloc _ _) (by assumption) hba; have hvv := var3 hbb)); obtain ⟨⟨q0, q1, q2⟩, ⟨f0, f1, f2⟩, q3⟩ := hvv; (try simp at q0 q1 q2 q3 f0 f1 f2))) | fail))
        all_goals go_wp2_with fail
        all_goals go_meet
        all_goals first
          | exact ⟨_, a1, c1, a2, c2, rfl, D1.size, by simp, by simp [go_sem], by simp [go_sem], by simp [go_sem], ⟨by simp [go_sem], by simp [go_sem], by simp [go_sem]⟩, (O1.mono (by assumption)).below ((Below.refl _ _).alloc (Nat.le_refl _) _), D1.alloc D1.size _⟩
          | exact ⟨_, a1, c1, a2, c2, rfl, var_set q0 q1 q2 f0 f1 f2 (by omega) q3 D1 O1 (by first | assumption | simp)⟩
      case rest =>
        obtain ⟨b, a1, c1, a2, c2, rfl, hb0, hb1, k0, k1, k2, ⟨z0, z1, z2⟩, O1, hcb⟩ := hcut
        generalize wc = X at *
        have zE : w.heap.size < E.heap.size := by rw [← hE]; simp
        have e0 : E.cell? ⟨w.heap.size, 0, none⟩ = some (.bool false) := by rw [← hE]; simp [go_sem]
        have e1 : E.cell? ⟨w.heap.size, 1, none⟩ = some (.slice none 0 0) := by rw [← hE]; simp [go_sem]
        have e2 : E.cell? ⟨w.heap.size, 2, none⟩ = some (.slice none 0 0) := by rw [← hE]; simp [go_sem]
        have e3 : ∀ o, E.frozen? ⟨w.heap.size, o, none⟩ = false := by intro o; rw [← hE]; simp [go_sem]
        have RV : Hid (∀ u : World, Below E.heap.size E u → (u.cell? ⟨w.heap.size, 0, none⟩ = some (.bool false) ∧ u.cell? ⟨w.heap.size, 1, none⟩ = some (.slice none 0 0) ∧ u.cell? ⟨w.heap.size, 2, none⟩ = some (.slice none 0 0)) ∧ (u.frozen? ⟨w.heap.size, 0, none⟩ = false ∧ u.frozen? ⟨w.heap.size, 1, none⟩ = false ∧ u.frozen? ⟨w.heap.size, 2, none⟩ = false)) := fun u h => ⟨⟨(h.cell (p := ⟨w.heap.size, 0, none⟩) zE).trans e0, (h.cell (p := ⟨w.heap.size, 1, none⟩) zE).trans e1, (h.cell (p := ⟨w.heap.size, 2, none⟩) zE).trans e2⟩, (h.frozen (p := ⟨w.heap.size, 0, none⟩) zE).trans (e3 0), (h.frozen (p := ⟨w.heap.size, 1, none⟩) zE).trans (e3 1), (h.frozen (p := ⟨w.heap.size, 2, none⟩) zE).trans (e3 2)⟩
        have zX : w.heap.size < X.heap.size := Nat.lt_of_lt_of_le zE hcb.size
        clear hE e0 e1 e2 e3 D0 R1 R2 R3 R4 ND
        obtain ⟨⟨r0, r1, r2⟩, ⟨g0, g1, g2⟩⟩ := RV.out X hcb
        cases X1 with
        | some y =>
          have O1' : Hid (OwnC X E.heap.size a1 a2 c1 c2 y.1 y.2) := O1
          clear O1 IT ID
          simp only [Option.isSome_some, clA, clB] at k0 k1 k2
          go_wp2
          refine bodyPost_ret (v := .agg #[.bool true, .slice a1 y.1.length c1, .slice a2 y.2.length c2]) (by simp [results, Tryd.results89, go_sem, r0, r1, r2]) rfl ⟨a1, c1, a2, c2, rfl, ?_, ?_⟩
          · exact (((O1'.out.set _ _ zE).set _ _ zE).set _ _ zE).mono (Nat.le_of_lt zE)
          · exact (((WE.out _ hcb).setCell (Nat.le_refl _) _).setCell (Nat.le_refl _) _).setCell (Nat.le_refl _) _
        | none =>
          clear O1
          simp only [Option.isSome_none, clA, clB] at k0 k1 k2
          have BV : Hid (∀ u : World, Below X.heap.size X u → (u.cell? ⟨b, 0, none⟩ = some (.bool false) ∧ u.cell? ⟨b, 1, none⟩ = some (.slice a1 ([] : List Int).length c1) ∧ u.cell? ⟨b, 2, none⟩ = some (.slice a2 ([] : List Int).length c2)) ∧ (u.frozen? ⟨b, 0, none⟩ = false ∧ u.frozen? ⟨b, 1, none⟩ = false ∧ u.frozen? ⟨b, 2, none⟩ = false)) := fun u h => ⟨⟨(h.cell (p := ⟨b, 0, none⟩) hb1).trans k0, (h.cell (p := ⟨b, 1, none⟩) hb1).trans k1, (h.cell (p := ⟨b, 2, none⟩) hb1).trans k2⟩, (h.frozen (p := ⟨b, 0, none⟩) hb1).trans z0, (h.frozen (p := ⟨b, 1, none⟩) hb1).trans z1, (h.frozen (p := ⟨b, 2, none⟩) hb1).trans z2⟩
          have D0 : Below X.heap.size X X.drew := (Below.refl _ _).drew
          have DD : Below E.heap.size E X.drew := hcb.trans (D0.mono hcb.size)
          go_wp2_with fail
          go_region_held3 (fun wx => Below E.heap.size E wx)
            ((first | exact DD | exact D1 | assumption | exact ((D1.setCell hb0 _).setCell hb0 _).setCell hb0 _))
            ((first | (go_at_call 89; refine (IT.out _ (WE.out _ (by assumption))).mono ?_; rintro _ ua ⟨a3, c3, a4, c4, rfl, O2, hba⟩; have D1 : Below E.heap.size E ua := Below.trans (by assumption) (hba.mono (Below.size (by assumption))); have DX : Below X.heap.size X ua := D0.trans hba; have zD := D1.size; have zX2 := DX.size; have hvv := BV.out _ DX; obtain ⟨⟨q0, q1, q2⟩, ⟨f0, f1, f2⟩⟩ := hvv) | fail))
          have O2' : OwnC ua X.heap.size a3 a4 c3 c4 (clA X2) (clB X2) := by simpa using O2
          obtain ⟨_, y1, n0, n1, n2, ⟨w0, w1, w2⟩, O3, D3⟩ := var_set (E := E) (v0 := .bool X2.isSome) (v1 := .slice a3 (clA X2).length c3) (v2 := .slice a4 (clB X2).length c4) q0 q1 q2 f0 f1 f2 hb0 (Nat.lt_of_lt_of_le hb1 zX2) D1 O2' hb1
          generalize hY : ((ua.setCell ⟨b, 0, none⟩ (.bool X2.isSome)).setCell ⟨b, 1, none⟩ (.slice a3 (clA X2).length c3)).setCell ⟨b, 2, none⟩ (.slice a4 (clB X2).length c4) = Y at *
          clear hY q0 q1 q2 f0 f1 f2 O2 O2' BV D0 DD k0 k1 k2 z0 z1 z2 IT r0 r1 r2 g0 g1 g2
          obtain ⟨⟨r0, r1, r2⟩, ⟨g0, g1, g2⟩⟩ := RV.out Y D3
          cases X2 with
          | some y =>
            have O3' : Hid (OwnC Y E.heap.size a3 a4 c3 c4 y.1 y.2) := O3
            clear O3 ID
            simp only [Option.isSome_some, clA, clB] at n0 n1 n2
            go_wp2
            refine bodyPost_ret (v := .agg #[.bool true, .slice a3 y.1.length c3, .slice a4 y.2.length c4]) (by simp [results, Tryd.results89, go_sem, r0, r1, r2]) rfl ⟨a3, c3, a4, c4, rfl, ?_, ?_⟩
            · exact (((O3'.out.set _ _ zE).set _ _ zE).set _ _ zE).mono (Nat.le_of_lt zE)
            · exact (((WE.out _ D3).setCell (Nat.le_refl _) _).setCell (Nat.le_refl _) _).setCell (Nat.le_refl _) _
          | none =>
            clear O3
            simp only [Option.isSome_none, clA, clB] at n0 n1 n2
            have D4 : Below E.heap.size E Y.drew := D3.drew
            have W4 : Below w.heap.size w Y.drew := WE.out _ D4
            go_wp2_with fail
            go_region_held3 (fun wx => Below w.heap.size w wx)
              ((first | exact W4 | exact D1 | assumption | exact ((D1.setCell (Nat.le_refl _) _).setCell (Nat.le_refl _) _).setCell (Nat.le_refl _) _))
              ((first | (go_at_call 89; refine (ID.out _ (by assumption)).mono ?_; rintro _ ua ⟨a5, c5, a6, c6, rfl, O5, hba⟩; have D1 : Below w.heap.size w ua := Below.trans (by assumption) (hba.mono (Below.size (by assumption))); have hvv := RV.out _ (D4.trans (hba.mono D4.size)); obtain ⟨⟨q0, q1, q2⟩, ⟨f0, f1, f2⟩⟩ := hvv) | fail))
            go_wp2
            have zY : w.heap.size < Y.heap.size := Nat.lt_of_lt_of_le zE D3.size
            have O5' : OwnC ua Y.heap.size a5 a6 c5 c6 (clA X3) (clB X3) := by simpa using O5
            refine bodyPost_ret (v := .agg #[.bool X3.isSome, .slice a5 (clA X3).length c5, .slice a6 (clB X3).length c6]) (by simp [results, Tryd.results89, go_sem, q0, q1, q2]) rfl ⟨a5, c5, a6, c6, rfl, ?_, ?_⟩
            · exact (((O5'.set _ _ zY).set _ _ zY).set _ _ zY).mono (Nat.le_of_lt zY)
            · exact ((D1.setCell (Nat.le_refl _) _).setCell (Nat.le_refl _) _).setCell (Nat.le_refl _) _

end Go.Proofs.YtklhkhlmhddmcaaDoor

namespace Go.Proofs.YtklhkhlmhddmcaaDoor
open Go.ChangeShapes Go.WideShapes Go.ChangeAt Go.RowKit
set_option linter.unusedVariables false
set_option linter.unusedSimpArgs false

/-- The code of TreeClash. -/
def tkC (xs ys : List Int) : Int := if lvF xs = 0 then (if lvF ys = 0 then (if xs.length = ys.length ∧ xs.length ≠ 0 then (if rtM nS 11 xs = rtM nS 11 ys then 0 else 8) else 1) else lvF ys) else lvF xs
/-- The clash of TreeClash. -/
def tkX (xs ys : List Int) : Cl := if tkC xs ys = 0 then trC xs ys else none
theorem tkC_zero {xs ys : List Int} (h : tkC xs ys = 0) : lvF xs = 0 ∧ lvF ys = 0 ∧ xs.length = ys.length ∧ 1 ≤ xs.length ∧ rtM nS 11 xs = rtM nS 11 ys := by
  unfold tkC at h
  split at h
  · split at h
    · split at h
      · split at h
        · exact ⟨‹_›, ‹_›, by omega, by omega, ‹_›⟩
        · omega
      · omega
    · omega
  · omega

set_option maxHeartbeats 2000000 in
theorem l6AskTree_any (x y : Option Addr) (cx cy : Nat) (xs ys : List Int) (w : World) (hx : Has w .i64 x xs.length xs) (hy : Has w .i64 y ys.length ys) (lx : xs.length ≤ 1048576) (ly : ys.length ≤ 1048576) (hcx : xs.length ≤ cx) (hmx : cx ≤ maxLen) (hcy : ys.length ≤ cy) (hmy : cy ≤ maxLen) :
    Calls Tryd.prog 88 #[.slice x xs.length cx, .slice y ys.length cy] w fun r w' => r = .returned (.int .i64 (tkC xs ys)) ∧ Below w.heap.size w w' := by
  by_cases h1 : lvF xs = 0
  · obtain ⟨g1, a1⟩ := lvF_zero h1
    have H1 : Hid (lvF xs = 0) := h1
    by_cases h2 : lvF ys = 0
    · obtain ⟨g2, a2⟩ := lvF_zero h2
      have H2 : Hid (lvF ys = 0) := h2
      by_cases h3 : xs.length = ys.length ∧ xs.length ≠ 0
      · have e3 : ((xs.length : Int) != (ys.length : Int)) = false := by simp [h3.1]
        have e4 : ((xs.length : Int) == 0) = false := by simp; exact fun h => h3.2 (by simp [h])
        have RX : Hid (∀ u : World, Below w.heap.size w u → Calls Tryd.prog 69 #[.slice x xs.length cx] u fun r w' => r = .returned (.int .i64 (rtM nS 11 xs)) ∧ Below u.heap.size u w') := fun u hu => l4Root_any _ x cx xs u (Nat.le_refl _) (by omega) a1 (hx.below hu (Nat.le_refl _)) hcx hmx
        have RY : Hid (∀ u : World, Below w.heap.size w u → Calls Tryd.prog 69 #[.slice y ys.length cy] u fun r w' => r = .returned (.int .i64 (rtM nS 11 ys)) ∧ Below u.heap.size u w') := fun u hu => l4Root_any _ y cy ys u (Nat.le_refl _) (by omega) a2 (hy.below hu (Nat.le_refl _)) hcy hmy
        have hK : tkC xs ys = if rtM nS 11 xs = rtM nS 11 ys then 0 else 8 := by unfold tkC; rw [if_pos h1, if_pos h2, if_pos h3]
        rw [hK]
        clear hK h1 h2 h3
        generalize rtM nS 11 xs = v1 at *
        generalize rtM nS 11 ys = v2 at *
        by_cases hv : v1 = v2
        · have bv : (v1 != v2) = false := by simpa using hv
          rw [if_pos hv]
          clear hv
          go_enter Tryd.func88, Tryd.ntmps88
          go_wp2_with fail
          refine (l4Fault_any x cx xs _ hx lx).mono ?_
          rintro r u ⟨rfl, hu⟩; have hu2 := hu.symm; subst hu2; clear hu
          rw [H1.out]
          go_wp2_with fail
          refine (l4Fault_any y cy ys _ hy ly).mono ?_
          rintro r u ⟨rfl, hu⟩; have hu2 := hu.symm; subst hu2; clear hu
          rw [H2.out]
          go_wp2_with fail
          refine (RX.out _ (Below.refl _ _)).mono ?_
          rintro r u1 ⟨rfl, hb1⟩
          go_wp2_with fail
          refine (RY.out _ hb1).mono ?_
          rintro r u2 ⟨rfl, hb2⟩
          go_wp2
          go_ret
          exact ⟨rfl, hb1.trans (hb2.mono hb1.size)⟩
        · have bv : (v1 != v2) = true := by simpa using hv
          rw [if_neg hv]
          clear hv
          go_enter Tryd.func88, Tryd.ntmps88
          go_wp2_with fail
          refine (l4Fault_any x cx xs _ hx lx).mono ?_
          rintro r u ⟨rfl, hu⟩; have hu2 := hu.symm; subst hu2; clear hu
          rw [H1.out]
          go_wp2_with fail
          refine (l4Fault_any y cy ys _ hy ly).mono ?_
          rintro r u ⟨rfl, hu⟩; have hu2 := hu.symm; subst hu2; clear hu
          rw [H2.out]
          go_wp2_with fail
          refine (RX.out _ (Below.refl _ _)).mono ?_
          rintro r u1 ⟨rfl, hb1⟩
          go_wp2_with fail
          refine (RY.out _ hb1).mono ?_
          rintro r u2 ⟨rfl, hb2⟩
          go_wp2
          go_ret
          exact ⟨rfl, hb1.trans (hb2.mono hb1.size)⟩
      · have hK : tkC xs ys = 1 := by unfold tkC; rw [if_pos h1, if_pos h2, if_neg h3]
        rw [hK]
        clear hK h1 h2
        by_cases h4 : xs.length = ys.length
        · have e3 : ((xs.length : Int) != (ys.length : Int)) = false := by simp [h4]
          have h5 : xs.length = 0 := by omega
          have e4 : ((xs.length : Int) == 0) = true := by simp [h5]
          clear h3 h4 h5
          go_enter Tryd.func88, Tryd.ntmps88
          go_wp2_with fail
          refine (l4Fault_any x cx xs _ hx lx).mono ?_
          rintro r u ⟨rfl, hu⟩; have hu2 := hu.symm; subst hu2; clear hu
          rw [H1.out]
          go_wp2_with fail
          refine (l4Fault_any y cy ys _ hy ly).mono ?_
          rintro r u ⟨rfl, hu⟩; have hu2 := hu.symm; subst hu2; clear hu
          rw [H2.out]
          go_wp2
          go_ret
          exact ⟨rfl, Below.refl _ _⟩
        · have e3 : ((xs.length : Int) != (ys.length : Int)) = true := by simp; omega
          clear h3 h4
          go_enter Tryd.func88, Tryd.ntmps88
          go_wp2_with fail
          refine (l4Fault_any x cx xs _ hx lx).mono ?_
          rintro r u ⟨rfl, hu⟩; have hu2 := hu.symm; subst hu2; clear hu
          rw [H1.out]
          go_wp2_with fail
          refine (l4Fault_any y cy ys _ hy ly).mono ?_
          rintro r u ⟨rfl, hu⟩; have hu2 := hu.symm; subst hu2; clear hu
          rw [H2.out]
          go_wp2
          go_ret
          exact ⟨rfl, Below.refl _ _⟩
    · have hK : tkC xs ys = lvF ys := by unfold tkC; rw [if_pos h1, if_neg h2]
      have b2 : (lvF ys != 0) = true := by simpa using h2
      rw [hK]
      clear hK h1 h2
      generalize hcc : lvF ys = cc at *
      have HC : Hid (lvF ys = cc) := hcc
      clear hcc
      go_enter Tryd.func88, Tryd.ntmps88
      go_wp2_with fail
      refine (l4Fault_any x cx xs _ hx lx).mono ?_
      rintro r u ⟨rfl, hu⟩; have hu2 := hu.symm; subst hu2; clear hu
      rw [H1.out]
      go_wp2_with fail
      refine (l4Fault_any y cy ys _ hy ly).mono ?_
      rintro r u ⟨rfl, hu⟩; have hu2 := hu.symm; subst hu2; clear hu
      rw [HC.out]
      go_wp2
      go_ret
      exact ⟨rfl, Below.refl _ _⟩
  · have hK : tkC xs ys = lvF xs := by unfold tkC; rw [if_neg h1]
    have b2 : (lvF xs != 0) = true := by simpa using h1
    rw [hK]
    clear hK h1
    generalize hcc : lvF xs = cc at *
    have HC : Hid (lvF xs = cc) := hcc
    clear hcc
    go_enter Tryd.func88, Tryd.ntmps88
    go_wp2_with fail
    refine (l4Fault_any x cx xs _ hx lx).mono ?_
    rintro r u ⟨rfl, hu⟩; have hu2 := hu.symm; subst hu2; clear hu
    rw [HC.out]
    go_wp2
    go_ret
    exact ⟨rfl, Below.refl _ _⟩

set_option maxHeartbeats 2000000 in
theorem specTreeClash_any (x y : Option Addr) (cx cy : Nat) (xs ys : List Int) (w : World) (hx : Has w .i64 x xs.length xs) (hy : Has w .i64 y ys.length ys) (lx : xs.length ≤ 1048576) (ly : ys.length ≤ 1048576) (hcx : xs.length ≤ cx) (hmx : cx ≤ maxLen) (hcy : ys.length ≤ cy) (hmy : cy ≤ maxLen) :
    Calls Tryd.prog 32 #[.slice x xs.length cx, .slice y ys.length cy] w fun r w' => ∃ a1 c1 a2 c2, r = .returned (.agg #[.int .i64 (tkC xs ys), .bool (tkX xs ys).isSome, .slice a1 (clA (tkX xs ys)).length c1, .slice a2 (clB (tkX xs ys)).length c2]) ∧ OwnC w' w.heap.size a1 a2 c1 c2 (clA (tkX xs ys)) (clB (tkX xs ys)) ∧ Below w.heap.size w w' := by
  have AK : Hid (∀ u : World, Below w.heap.size w u → Calls Tryd.prog 88 #[.slice x xs.length cx, .slice y ys.length cy] u fun r w' => r = .returned (.int .i64 (tkC xs ys)) ∧ Below u.heap.size u w') := fun u hu => l6AskTree_any x y cx cy xs ys u (hx.below hu (Nat.le_refl _)) (hy.below hu (Nat.le_refl _)) lx ly hcx hmx hcy hmy
  have B0 : Below w.heap.size w (w.alloc (.cells #[.int .i64 0, .bool false, .slice none 0 0, .slice none 0 0] 31)) := (Below.refl _ _).alloc (Nat.le_refl _) _
  by_cases h0 : tkC xs ys = 0
  · obtain ⟨h1, h2, h3, h4, h5⟩ := tkC_zero h0
    obtain ⟨g1, a1⟩ := lvF_zero h1
    obtain ⟨g2, a2⟩ := lvF_zero h2
    have hX : tkX xs ys = trC xs ys := by unfold tkX; rw [if_pos h0]
    have TR : Hid (∀ u : World, Below w.heap.size w u → Calls Tryd.prog 89 #[.slice x xs.length cx, .slice y ys.length cy] u fun r w' => ∃ a1 c1 a2 c2, r = .returned (.agg #[.bool (trC xs ys).isSome, .slice a1 (clA (trC xs ys)).length c1, .slice a2 (clB (trC xs ys)).length c2]) ∧ OwnC w' u.heap.size a1 a2 c1 c2 (clA (trC xs ys)) (clB (trC xs ys)) ∧ Below u.heap.size u w') := fun u hu => l6Tree_any _ x y cx cy xs ys u (Nat.le_refl _) h3 (by omega) a1 a2 (hx.below hu (Nat.le_refl _)) (hy.below hu (Nat.le_refl _)) hcx hmx hcy hmy
    rw [hX]
    rw [h0] at AK ⊢
    generalize trC xs ys = X at *
    clear hX h0 h1 h2 h3 h4 h5
    go_enter Tryd.func32, Tryd.ntmps32
    go_wp2_with fail
    refine (AK.out _ B0).mono ?_
    rintro r u1 ⟨rfl, hb1⟩
    have B1 : Below w.heap.size w u1 := B0.trans (hb1.mono (by simp))
    obtain ⟨hc1, hf1⟩ := bcell hb1
    have z1 := hb1.size
    simp at z1
    have y1 : w.heap.size < u1.heap.size := by omega
    go_wp2_with fail
    refine (TR.out _ B1).mono ?_
    rintro r u2 ⟨a1', c1', a2', c2', rfl, O2, hb2⟩
    have B2 : Below w.heap.size w u2 := B1.trans (hb2.mono B1.size)
    obtain ⟨hc2, hf2⟩ := bcell hb2
    have z2 := hb2.size
    have y2 : w.heap.size < u2.heap.size := by omega
    have O2' : Hid (OwnC u2 u1.heap.size a1' a2' c1' c2' (clA X) (clB X)) := O2
    clear O2 TR AK
    go_wp2
    refine bodyPost_ret (v := .agg #[.int .i64 0, .bool X.isSome, .slice a1' (clA X).length c1', .slice a2' (clB X).length c2']) (by simp [results, Tryd.results32, go_sem, hc1, hc2, y1]) rfl ⟨a1', c1', a2', c2', rfl, ?_, ?_⟩
    · exact ((((O2'.out.set _ _ y1).set _ _ y1).set _ _ y1).set _ _ y1).mono (Nat.le_of_lt y1)
    · repeat (first | exact B2 | (refine Below.setCell ?_ (by (try simp) <;> omega) _))
  · have hX : tkX xs ys = none := by unfold tkX; rw [if_neg h0]
    have b0 : (tkC xs ys != 0) = true := by simpa using h0
    rw [hX]
    clear hX h0
    generalize tkC xs ys = cc at *
    go_enter Tryd.func32, Tryd.ntmps32
    go_wp2_with fail
    refine (AK.out _ B0).mono ?_
    rintro r u1 ⟨rfl, hb1⟩
    have B1 : Below w.heap.size w u1 := B0.trans (hb1.mono (by simp))
    obtain ⟨hc1, hf1⟩ := bcell hb1
    have z1 := hb1.size
    simp at z1
    have y1 : w.heap.size < u1.heap.size := by omega
    clear AK
    go_wp2
    refine bodyPost_ret (v := .agg #[.int .i64 cc, .bool false, .slice none 0 0, .slice none 0 0]) (by simp [results, Tryd.results32, go_sem, hc1]) rfl ⟨none, 0, none, 0, rfl, OwnC.nil _ _, ?_⟩
    repeat (first | exact B1 | (refine Below.setCell ?_ (by (try simp) <;> omega) _))

end Go.Proofs.YtklhkhlmhddmcaaDoor
