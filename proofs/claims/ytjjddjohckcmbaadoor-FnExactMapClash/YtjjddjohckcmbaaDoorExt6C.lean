/- Contracts: the model's clashes of chapter 6: two pieces, two nodes. Contracts: the model's clash of two trees. Contracts: the model's TreeClash. -/
import Derived.Test.YtjjddjohckcmbaaDoorFrB
import Derived.Test.YtjjddjohckcmbaaDoorExtD
import Derived.Test.YtjjddjohckcmbaaDoorPcsM
import Derived.Test.YtjjddjohckcmbaaDoorRoot4S
import Derived.Deep.DeepCutAuto
import Derived.Deep.RegionWith
namespace Go.Proofs.YtjjddjohckcmbaaDoor
open Go.ChangeShapes Go.WideShapes Go.ChangeAt Go.RowKit
set_option linter.unusedVariables false
set_option linter.unusedSimpArgs false

/-- The first piece of a clash. -/
def clA (x : Cl) : List Int := match x with | some y => y.1 | none => []
/-- The second piece of a clash. -/
def clB (x : Cl) : List Int := match x with | some y => y.2 | none => []
theorem OwnC.nil (w : World) (base : Nat) : OwnC w base none none 0 0 [] [] := ⟨World.ownsRow_nil _ _ _ _, World.ownsRow_nil _ _ _ _, fun _ _ e => by cases e⟩
theorem OwnC.mono {w : World} {base base' : Nat} {a1 a2 : Option Addr} {c1 c2 : Nat} {xs ys : List Int} (h : OwnC w base a1 a2 c1 c2 xs ys) (hb : base' ≤ base) : OwnC w base' a1 a2 c1 c2 xs ys := ⟨own_mono h.one hb, own_mono h.two hb, h.apart⟩
theorem OwnC.set {w : World} {base : Nat} {a1 a2 : Option Addr} {c1 c2 : Nat} {xs ys : List Int} (h : OwnC w base a1 a2 c1 c2 xs ys) (p : Addr) (u : Value) (hp : p.block < base) : OwnC (w.setCell p u) base a1 a2 c1 c2 xs ys :=
  ⟨own_blk h.one (fun x e => Below.heap_setCell _ _ _ _ (by have := own_base h.one x e; omega)), own_blk h.two (fun x e => Below.heap_setCell _ _ _ _ (by have := own_base h.two x e; omega)), h.apart⟩

set_option maxHeartbeats 1000000 in
theorem l2Clash_own (a b : Option Addr) (ca cb : Nat) (zs ys : List Int) (w : World) (ha : Has w .u8 a zs.length zs) (hb : Has w .u8 b ys.length ys) (hla : zs.length ≤ 2097152) (hlb : ys.length ≤ 2097152) :
    Calls Tryd.prog 103 #[.slice a zs.length ca, .slice b ys.length cb] w fun r w' => ∃ a1 c1 a2 c2, r = .returned (.agg #[.bool (lookC zs ys).isSome, .slice a1 (clA (lookC zs ys)).length c1, .slice a2 (clB (lookC zs ys)).length c2]) ∧ OwnC w' w.heap.size a1 a2 c1 c2 (clA (lookC zs ys)) (clB (lookC zs ys)) ∧ Below w.heap.size w w' := by
  have ha' := ha.alloc (.cells #[.bool false, .slice none 0 0, .slice none 0 0] 45)
  have hb' := hb.alloc (.cells #[.bool false, .slice none 0 0, .slice none 0 0] 45)
  have s1 := ha'.str ca
  have s2 := hb'.str cb
  have hst := str_beq ha.2.1 hb.2.1
  have tok1 : True := trivial
  have tok2 : True := trivial
  by_cases he : zs = ys
  · have hst' : ((strOfNums zs).toList == (strOfNums ys).toList) = true := by rw [hst]; simpa using he
    have hcl : lookC zs ys = none := by unfold lookC clashB; simp [he]
    rw [hcl]
    clear hst he hcl
    go_enter Tryd.func103, Tryd.ntmps103
    go_wp2
    refine bodyPost_ret (v := .agg #[.bool false, .slice none 0 0, .slice none 0 0]) (by simp [results, Tryd.results103, go_sem]) rfl ⟨none, 0, none, 0, rfl, OwnC.nil _ _, ?_⟩
    repeat (first | exact Below.refl _ _ | refine Below.alloc ?_ (by (try simp) <;> omega) _ | refine Below.setCell ?_ (by (try simp) <;> omega) _)
  · have hst' : ((strOfNums zs).toList == (strOfNums ys).toList) = false := by rw [hst]; simpa using he
    by_cases hs : sumL zs = sumL ys
    · have hcl : lookC zs ys = some (zs, ys) := by unfold lookC clashB; simp [he, hs]
      have hs' : (sumL zs != sumL ys) = false := by simpa using hs
      rw [hcl]
      clear hst he hcl hs
      go_enter Tryd.func103, Tryd.ntmps103
      go_wp2_with (first | (go_at_call 62; have _t := tok1; refine (l2Sum_any a ca zs _ ha' hla).mono ?_; rintro r u ⟨rfl, rfl⟩; clear tok1 _t) | (go_at_call 62; have _t := tok2; refine (l2Sum_any b cb ys _ hb' hlb).mono ?_; rintro r u ⟨rfl, rfl⟩; clear tok2 _t; have tok3 : True := trivial) | (go_at_call 114; have _t := tok3; refine (copy_shape a ca zs _ ha' hla).mono ?_; rintro r u1 ⟨a1, c1, rfl, ho1, hb1⟩; clear tok3 _t; have hb2' := hb'.below hb1 (Nat.le_refl _)) | (go_at_call 114; refine (copy_shape b cb ys _ hb2' hlb).mono ?_; rintro r u2 ⟨a2, c2, rfl, ho2, hb2⟩; have hB := hb1.trans (hb2.mono hb1.size); obtain ⟨hc2, hf2⟩ := bcell hB; have hz2 := hB.size; have hz1 := hb1.size; (try simp at hz2); (try simp at hz1)))
      have C2 : OwnC u2 (w.heap.size + 1) a1 a2 c1 c2 zs ys := ⟨own_mono (own_below ho1 hb2) (by simp), own_mono ho2 (by omega), fun x y e1 e2 => by
        subst e1 e2
        have h1 := own_lt ho1 x rfl
        have h2 := own_base ho2 y rfl
        omega⟩
      refine bodyPost_ret (v := .agg #[.bool true, .slice a1 zs.length c1, .slice a2 ys.length c2]) (by simp [results, Tryd.results103, go_sem, hc2]) rfl ⟨a1, c1, a2, c2, rfl, ?_, ?_⟩
      · exact (((C2.set _ _ (Nat.lt_succ_self _)).set _ _ (Nat.lt_succ_self _)).set _ _ (Nat.lt_succ_self _)).mono (Nat.le_succ _)
      · exact (((((Below.refl _ _).alloc (Nat.le_refl _) _).trans (hB.mono (by simp))).setCell (by simp) _).setCell (by simp) _).setCell (by simp) _
    · have hcl : lookC zs ys = none := by unfold lookC clashB; simp [hs]
      have hs' : (sumL zs != sumL ys) = true := by simpa using hs
      rw [hcl]
      clear hst he hcl hs
      go_enter Tryd.func103, Tryd.ntmps103
      go_wp2_with (first | (go_at_call 62; have _t := tok1; refine (l2Sum_any a ca zs _ ha' hla).mono ?_; rintro r u ⟨rfl, rfl⟩; clear tok1 _t) | (go_at_call 62; have _t := tok2; refine (l2Sum_any b cb ys _ hb' hlb).mono ?_; rintro r u ⟨rfl, rfl⟩; clear tok2 _t))
      refine bodyPost_ret (v := .agg #[.bool false, .slice none 0 0, .slice none 0 0]) (by simp [results, Tryd.results103, go_sem]) rfl ⟨none, 0, none, 0, rfl, OwnC.nil _ _, ?_⟩
      repeat (first | exact Below.refl _ _ | refine Below.alloc ?_ (by (try simp) <;> omega) _ | refine Below.setCell ?_ (by (try simp) <;> omega) _)

set_option maxHeartbeats 1000000 in
theorem l6Nodes_any (a b c d : Int) (w : World) (ha : 0 ≤ a ∧ a ≤ 65520) (hb : 0 ≤ b ∧ b ≤ 65520) (hc : 0 ≤ c ∧ c ≤ 65520) (hd : 0 ≤ d ∧ d ≤ 65520) :
    Calls Tryd.prog 102 #[.int .i64 a, .int .i64 b, .int .i64 c, .int .i64 d] w fun r w' => ∃ a1 c1 a2 c2, r = .returned (.agg #[.bool (ndC a b c d).isSome, .slice a1 (clA (ndC a b c d)).length c1, .slice a2 (clB (ndC a b c d)).length c2]) ∧ OwnC w' w.heap.size a1 a2 c1 c2 (clA (ndC a b c d)) (clB (ndC a b c d)) ∧ Below w.heap.size w w' := by
  have w1 := node_wf ha.1 (show a ≤ 65535 by omega) hb.1 (show b ≤ 65535 by omega)
  have w2 := node_wf hc.1 (show c ≤ 65535 by omega) hd.1 (show d ≤ 65535 by omega)
  have W1 : Hid (_) := w1
  have W2 : Hid (_) := w2
  clear w1 w2
  have HX : Hid (lookC (nodeL a b) (nodeL c d) = ndC a b c d) := rfl
  generalize ndC a b c d = X at *
  go_enter Tryd.func102, Tryd.ntmps102
  go_wp2_with fail
  refine (l2Node_any a b _ ha.1 (by omega) hb.1 (by omega)).mono ?_
  rintro r u1 ⟨x1, k1, rfl, o1, hb1⟩
  have z1 := hb1.size
  simp at z1
  go_wp2_with fail
  refine (l2Node_any c d _ hc.1 (by omega) hd.1 (by omega)).mono ?_
  rintro r u2 ⟨x2, k2, rfl, o2, hb2⟩
  have z2 := hb2.size
  have H1 : Hid (Has u2 .u8 x1 (nodeL a b).length (nodeL a b)) := (has_of_own o1 W1.out).below hb2 (Nat.le_refl _)
  have H2 : Hid (Has u2 .u8 x2 (nodeL c d).length (nodeL c d)) := has_of_own o2 W2.out
  have B2 := hb1.trans (hb2.mono hb1.size)
  clear o1 o2
  go_wp2_with fail
  refine (l2Clash_own x1 x2 k1 k2 (nodeL a b) (nodeL c d) _ H1.out H2.out (by simp [nodeL]) (by simp [nodeL])).mono ?_
  rintro r u3 ⟨a1, c1, a2, c2, rfl, O3, hb3⟩
  have z3 := hb3.size
  have B3 := B2.trans (hb3.mono B2.size)
  obtain ⟨hc3, hf3⟩ := bcell B3
  rw [HX.out] at O3 ⊢
  have O3' : Hid (OwnC u3 (w.heap.size + 1) a1 a2 c1 c2 (clA X) (clB X)) := O3.mono (by omega)
  clear O3 hb1 hb2 hb3 B2
  go_wp2
  refine bodyPost_ret (v := .agg #[.bool X.isSome, .slice a1 (clA X).length c1, .slice a2 (clB X).length c2]) (by simp [results, Tryd.results102, go_sem, hc3]) rfl ⟨a1, c1, a2, c2, rfl, ?_, ?_⟩
  · exact (((O3'.out.set _ _ (Nat.lt_succ_self _)).set _ _ (Nat.lt_succ_self _)).set _ _ (Nat.lt_succ_self _)).mono (Nat.le_succ _)
  · exact (((((Below.refl _ _).alloc (Nat.le_refl _) _).trans (B3.mono (by simp))).setCell (by simp) _).setCell (by simp) _).setCell (by simp) _

/-- A variable of three cells that was written. -/
theorem var_set {E ua : World} {b base : Nat} {x0 x1 x2 v0 v1 v2 : Value} {a1 a2 : Option Addr} {c1 c2 : Nat} {xs ys : List Int} (q0 : ua.cell? ⟨b, 0, none⟩ = some x0) (q1 : ua.cell? ⟨b, 1, none⟩ = some x1) (q2 : ua.cell? ⟨b, 2, none⟩ = some x2) (f0 : ua.frozen? ⟨b, 0, none⟩ = false) (f1 : ua.frozen? ⟨b, 1, none⟩ = false) (f2 : ua.frozen? ⟨b, 2, none⟩ = false) (hb : E.heap.size ≤ b) (hlt : b < ua.heap.size) (D : Below E.heap.size E ua) (O : OwnC ua base a1 a2 c1 c2 xs ys) (hbase : b < base) :
    E.heap.size ≤ b ∧ b < (((ua.setCell ⟨b, 0, none⟩ v0).setCell ⟨b, 1, none⟩ v1).setCell ⟨b, 2, none⟩ v2).heap.size ∧ (((ua.setCell ⟨b, 0, none⟩ v0).setCell ⟨b, 1, none⟩ v1).setCell ⟨b, 2, none⟩ v2).cell? ⟨b, 0, none⟩ = some v0 ∧ (((ua.setCell ⟨b, 0, none⟩ v0).setCell ⟨b, 1, none⟩ v1).setCell ⟨b, 2, none⟩ v2).cell? ⟨b, 1, none⟩ = some v1 ∧ (((ua.setCell ⟨b, 0, none⟩ v0).setCell ⟨b, 1, none⟩ v1).setCell ⟨b, 2, none⟩ v2).cell? ⟨b, 2, none⟩ = some v2 ∧ ((((ua.setCell ⟨b, 0, none⟩ v0).setCell ⟨b, 1, none⟩ v1).setCell ⟨b, 2, none⟩ v2).frozen? ⟨b, 0, none⟩ = false ∧ (((ua.setCell ⟨b, 0, none⟩ v0).setCell ⟨b, 1, none⟩ v1).setCell ⟨b, 2, none⟩ v2).frozen? ⟨b, 1, none⟩ = false ∧ (((ua.setCell ⟨b, 0, none⟩ v0).setCell ⟨b, 1, none⟩ v1).setCell ⟨b, 2, none⟩ v2).frozen? ⟨b, 2, none⟩ = false) ∧ OwnC (((ua.setCell ⟨b, 0, none⟩ v0).setCell ⟨b, 1, none⟩ v1).setCell ⟨b, 2, none⟩ v2) E.heap.size a1 a2 c1 c2 xs ys ∧ Below E.heap.size E (((ua.setCell ⟨b, 0, none⟩ v0).setCell ⟨b, 1, none⟩ v1).setCell ⟨b, 2, none⟩ v2) := by
  have e1 : (ua.setCell ⟨b, 0, none⟩ v0).cell? ⟨b, 1, none⟩ = some x1 := (World.cell?_setCell_other (h := by simp) ..).trans q1
  have e2 : ((ua.setCell ⟨b, 0, none⟩ v0).setCell ⟨b, 1, none⟩ v1).cell? ⟨b, 2, none⟩ = some x2 := (World.cell?_setCell_other (h := by simp) ..).trans ((World.cell?_setCell_other (h := by simp) ..).trans q2)
  refine ⟨hb, by simpa using hlt, ?_, ?_, World.cell?_setCell_same (h := e2) .., ⟨by simpa using f0, by simpa using f1, by simpa using f2⟩, (((O.set _ _ hbase).set _ _ hbase).set _ _ hbase).mono (by omega), ((D.setCell hb _).setCell hb _).setCell hb _⟩
  · exact (World.cell?_setCell_other (h := by simp) ..).trans ((World.cell?_setCell_other (h := by simp) ..).trans (World.cell?_setCell_same (h := q0) ..))
  · exact (World.cell?_setCell_other (h := by simp) ..).trans (World.cell?_setCell_same (h := e1) ..)

end Go.Proofs.YtjjddjohckcmbaaDoor

namespace Go.Proofs.YtjjddjohckcmbaaDoor
open Go.ChangeShapes Go.WideShapes Go.ChangeAt Go.RowKit
set_option linter.unusedVariables false
set_option linter.unusedSimpArgs false

end Go.Proofs.YtjjddjohckcmbaaDoor

namespace Go.Proofs.YtjjddjohckcmbaaDoor
open Go.ChangeShapes Go.WideShapes Go.ChangeAt Go.RowKit
set_option linter.unusedVariables false
set_option linter.unusedSimpArgs false

/-- The code of TreeClash. -/
def tkC (xs ys : List Int) : Int := if lvF xs = 0 then (if lvF ys = 0 then (if xs.length = ys.length ∧ xs.length ≠ 0 then (if rtM nS 11 xs = rtM nS 11 ys then 0 else 8) else 1) else lvF ys) else lvF xs
/-- The clash of TreeClash. -/
def tkX (xs ys : List Int) : Cl := if tkC xs ys = 0 then trC xs ys else none
theorem tkC_zero {xs ys : List Int} (h : tkC xs ys = 0) : lvF xs = 0 ∧ lvF ys = 0 ∧ xs.length = ys.length ∧ 1 ≤ xs.length ∧ rtM nS 11 xs = rtM nS 11 ys := by
  unfold tkC at h
  split at h
  · split at h
    · split at h
      · split at h
        · exact ⟨‹_›, ‹_›, by omega, by omega, ‹_›⟩
        · omega
      · omega
    · omega
  · omega

end Go.Proofs.YtjjddjohckcmbaaDoor
