/- Contracts: how a walk of the program's chapter 6 ends; where its panic is met. Contracts of the program's chapter 2: whether two pieces clash. Contracts: how a walk of the program's chapter 6 ends; a clash that is looked for is a panic. -/
import Derived.Test.YtnlipmfhilgipaaDoorExt6C
import Derived.Defers
import Derived.Recover
import Derived.Test.YtnlipmfhilgipaaDoorToClash
import Derived.Test.YtnlipmfhilgipaaDoorISums
import Derived.Deep.RegionHeld3
import Derived.Deep.DeepCutAuto
import Derived.Test.YtnlipmfhilgipaaDoorKeep
import Derived.Deep.RegionHeld2
namespace Go.Proofs.YtnlipmfhilgipaaDoor
open Go.ChangeShapes Go.WideShapes Go.ChangeAt Go.RowKit
set_option linter.unusedVariables false
set_option linter.unusedSimpArgs false

/-- A walk that met a clash: it panics with it, in memory of its own. -/
def WkP (x : Cl) (w : World) (e : Ending) (w' : World) : Prop :=
  ∃ y a1 c1 a2 c2, x = some y ∧ e = .panicked [{ v := .iface 29 (.agg #[.bool true, .slice a1 (y).1.length c1, .slice a2 (y).2.length c2]), recovered := false }] ∧ OwnC w' w.heap.size a1 a2 c1 c2 y.1 y.2
/-- How a walk ends: it returns where there is no clash, else it panics with it. -/
def WkE (x : Cl) (w : World) (e : Ending) (w' : World) : Prop :=
  Below w.heap.size w w' ∧ ((x = none ∧ e = .returned (.tuple #[])) ∨ WkP x w e w')
theorem WkP.out {X Z : Cl} {w u u' : World} {e : Ending} (h : WkP X u e u') (hb : Below u.heap.size u u') (hB : Below w.heap.size w u) : WkE (X <|> Z) w e u' := by
  obtain ⟨y, a1, c1, a2, c2, rfl, rfl, O⟩ := h
  exact ⟨hB.trans (hb.mono hB.size), .inr ⟨y, a1, c1, a2, c2, rfl, rfl, O.mono hB.size⟩⟩
theorem WkP.same {X : Cl} {w u u' : World} {e : Ending} (h : WkP X u e u') (hb : Below u.heap.size u u') (hB : Below w.heap.size w u) : WkE X w e u' := by
  obtain ⟨y, a1, c1, a2, c2, rfl, rfl, O⟩ := h
  exact ⟨hB.trans (hb.mono hB.size), .inr ⟨y, a1, c1, a2, c2, rfl, rfl, O.mono hB.size⟩⟩
theorem WkE.ret {w w' : World} (hB : Below w.heap.size w w') : WkE none w (.returned (.tuple #[])) w' := ⟨hB, .inl ⟨rfl, rfl⟩⟩

theorem eqNil_clash (v : Value) (w : World) : (binOp BinOp.eql 20 (.iface 29 v) .nilIface).run Tryd.prog w = .ok (.bool false) w := by kernel_rfl

theorem assert_clash (v : Value) (w : World) : (Instr.typeAssert (.iface 29 v) 20 29 true).run Tryd.prog w = .ok (.tuple #[v, .bool true]) w := by kernel_rfl

set_option maxHeartbeats 1000000 in
/-- The deferred function behind a walk that panicked with a clash: the clash is laid into the result. -/
theorem catch_clash (rb : Nat) (f : Bool) (a1 a2 : Option Addr) (n1 c1 n2 c2 : Nat) (r0 r1 r2 : Value) (w : World) (h1 : w.cell? ⟨rb, 1, none⟩ = some r0) (h2 : w.cell? ⟨rb, 2, none⟩ = some r1) (h3 : w.cell? ⟨rb, 3, none⟩ = some r2) (z1 : w.frozen? ⟨rb, 1, none⟩ = false) (z2 : w.frozen? ⟨rb, 2, none⟩ = false) (z3 : w.frozen? ⟨rb, 3, none⟩ = false) (hlt : rb < w.heap.size) :
    CallsD Tryd.prog 100 #[.pointer (some ⟨rb, 0, none⟩)] (.panicking [{ v := .iface 29 (.agg #[.bool f, .slice a1 n1 c1, .slice a2 n2 c2]), recovered := false }]) w fun e u' w' =>
      e = .returned (.tuple #[]) ∧ u' = .panicking [{ v := .iface 29 (.agg #[.bool f, .slice a1 n1 c1, .slice a2 n2 c2]), recovered := true }] ∧ w' = (((w.setCell ⟨rb, 1, none⟩ (.bool f)).setCell ⟨rb, 2, none⟩ (.slice a1 n1 c1)).setCell ⟨rb, 3, none⟩ (.slice a2 n2 c2)).alloc (.cells #[.bool f, .slice a1 n1 c1, .slice a2 n2 c2] 29) := by
  have heq := eqNil_clash
  have hta := assert_clash
  refine callsD_of_wpS Tryd.func100 rfl fun c₀ cs hu => ?_
  apply wpS_seq
  apply wpS_region
  simp [wpOpsS, go_sem, recoverD, hu, Tryd.ntmps100, Exit.thenS]
  refine wpS_of_wp ?_
  go_wp2
  cases c₀
  simp_all [bodyPostS, results, Tryd.results100]

theorem catch_idle (p : Addr) (w : World) :
    CallsD Tryd.prog 100 #[.pointer (some p)] .returning w fun e u' w' => e = .returned (.tuple #[]) ∧ u' = .returning ∧ w' = w := by
  have heq : ∀ (w : World), (binOp BinOp.eql 20 .nilIface .nilIface).run Tryd.prog w = .ok (.bool true) w := fun _ => by kernel_rfl
  refine callsD_of_wpS Tryd.func100 rfl fun c₀ cs hu => ?_
  apply wpS_seq
  apply wpS_region
  simp [wpOpsS, go_sem, recoverD, hu, Tryd.ntmps100, Exit.thenS]
  refine wpS_of_wp ?_
  go_wp2
  cases c₀
  simp_all [bodyPostS, results, Tryd.results100]

set_option maxRecDepth 100000 in
set_option maxHeartbeats 1000000 in
theorem clashOn_any (k : Nat) (caps : Array Value) (X : Cl) (w : World) (hW : ∀ u : World, Below w.heap.size w u → Calls Tryd.prog k caps u (WkE X u)) (hk : ∀ u : World, (callFunc k caps).run Tryd.prog u = .ok (.enter k caps) u) :
    Calls Tryd.prog 54 #[.func (.func k) #[] caps] w fun r w' => ∃ a1 c1 a2 c2, r = .returned (.agg #[.int .i64 0, .bool X.isSome, .slice a1 (clA X).length c1, .slice a2 (clB X).length c2]) ∧ OwnC w' w.heap.size a1 a2 c1 c2 (clA X) (clB X) ∧ Below w.heap.size w w' := by
  have hmf : ∀ (fn : Fn) (first cap : Array Value) (w : World), (Instr.makeFunc fn first cap).run Tryd.prog w = .ok (.func fn first cap) w := fun _ _ _ _ => rfl
  have HW : Hid (_) := hW
  clear hW
  have B0 : Below w.heap.size w (w.alloc (.cells #[.int .i64 0, .bool false, .slice none 0 0, .slice none 0 0] 31)) := (Below.refl _ _).alloc (Nat.le_refl _) _
  go_enter_defers Tryd.func54, Tryd.ntmps54
  go_wp2_with fail
  refine (HW.out _ B0).mono ?_
  rintro e u1 ⟨hb1, h⟩
  have B1 := B0.trans (hb1.mono (by simp))
  obtain ⟨⟨k0, k1, k2, k3⟩, f0, f1, f2, f3⟩ := var4 hb1
  rcases h with ⟨rfl, rfl⟩ | ⟨y, a1, c1, a2, c2, rfl, rfl, O⟩
  · go_wp2
    refine leaves_cons (f := 100) (args := #[.pointer (some ⟨w.heap.size, 0, none⟩)]) (by simp) (by simp [go_sem]) ?_
    refine (catch_idle ⟨w.heap.size, 0, none⟩ _).mono ?_
    rintro e u' w'' ⟨rfl, rfl, rfl⟩
    simp only [settle, Leaves]
    refine ⟨.agg #[.int .i64 0, .bool false, .slice none 0 0, .slice none 0 0], by simp [results, Tryd.results54, go_sem, k0, k1, k2, k3], none, 0, none, 0, rfl, OwnC.nil _ _, ?_⟩
    exact (((B1.setCell (Nat.le_refl _) _).setCell (Nat.le_refl _) _).setCell (Nat.le_refl _) _).setCell (Nat.le_refl _) _
  · have zz := hb1.size
    simp at zz
    have zl : w.heap.size < u1.heap.size := by omega
    have O1 : OwnC u1 (w.heap.size + 1) a1 a2 c1 c2 y.1 y.2 := by simpa using O
    go_wp2
    refine leaves_cons (f := 100) (args := #[.pointer (some ⟨w.heap.size, 0, none⟩)]) (by simp) (by simp [go_sem]) ?_
    refine (catch_clash w.heap.size true a1 a2 y.1.length c1 y.2.length c2 _ _ _ _ k1 k2 k3 f1 f2 f3 (by omega)).mono ?_
    rintro e u' w'' ⟨rfl, rfl, rfl⟩
    simp only [settle, Leaves, List.dropWhile]
    refine ⟨.agg #[.int .i64 0, .bool true, .slice a1 y.1.length c1, .slice a2 y.2.length c2], by simp [results, Tryd.results54, go_sem, k0, k1, k2, k3, zl], a1, c1, a2, c2, rfl, ?_, ?_⟩
    · exact ((((O1.set _ _ (Nat.lt_succ_self _)).set _ _ (Nat.lt_succ_self _)).set _ _ (Nat.lt_succ_self _)).mono (Nat.le_succ _)).below ((Below.refl _ _).alloc (Nat.le_refl _) _)
    · exact (((B1.setCell (Nat.le_refl _) _).setCell (Nat.le_refl _) _).setCell (Nat.le_refl _) _).alloc (by simp; omega) _

end Go.Proofs.YtnlipmfhilgipaaDoor

namespace Go.Proofs.YtnlipmfhilgipaaDoor
open Go.ChangeShapes Go.WideShapes Go.ChangeAt Go.RowKit
set_option maxRecDepth 100000
set_option linter.unusedVariables false
set_option linter.unusedSimpArgs false

theorem bytesEqual_any (a b : Option Addr) (ca cb : Nat) (zs ys : List Int) (w : World) (ha : Has w .u8 a zs.length zs) (hb : Has w .u8 b ys.length ys) :
    Calls Tryd.prog 68 #[.slice a zs.length ca, .slice b ys.length cb] w fun r w' => r = .returned (.bool (decide (zs = ys))) ∧ w' = w := by
  have s1 := ha.str ca
  have s2 := hb.str cb
  have hst := str_beq ha.2.1 hb.2.1
  have HS : Hid (_) := hst
  clear hst
  go_enter Tryd.func68, Tryd.ntmps68
  go_wp2
  go_ret
  exact ⟨ret_bool HS.out, rfl⟩

theorem Has.drew {w : World} {k : IntKind} {a : Option Addr} {len : Nat} {zs : List Int} (h : Has w k a len zs) : Has w.drew k a len zs := h.below (Below.refl _ _).drew (Nat.le_refl _)

theorem bsize {W w1 : World} (hb : Below W.heap.size W w1) : (∀ x : Nat, x < W.heap.size → ¬ x = w1.heap.size) ∧ (∀ x : Nat, x < W.heap.size → ¬ w1.heap.size = x) ∧ (∀ x : Nat, x < W.heap.size → x < w1.heap.size) := by
  have := hb.size
  exact ⟨fun x h => by omega, fun x h => by omega, fun x h => by omega⟩

set_option maxHeartbeats 16000000 in
theorem implIsClash_any (f : Bool) (a b : Option Addr) (ca cb : Nat) (zs ys : List Int) (w : World) (ha : Has w .u8 a zs.length zs) (hb : Has w .u8 b ys.length ys) (hla : zs.length ≤ 2097152) (hlb : ys.length ≤ 2097152) :
    Calls Tryd.prog 22 #[.agg #[.bool f, .slice a zs.length ca, .slice b ys.length cb]] w fun r w' => r = .returned (.bool (isClashB f zs ys)) ∧ Below w.heap.size w w' := by
  have A := ha.alloc (.cells #[.bool f, .slice a zs.length ca, .slice b ys.length cb] 29)
  have B := hb.alloc (.cells #[.bool f, .slice a zs.length ca, .slice b ys.length cb] 29)
  cases f
  · go_enter Tryd.func22, Tryd.ntmps22
    go_wp2
    go_ret
    exact ⟨rfl, (Below.refl _ _).alloc (Nat.le_refl _) _⟩
  · by_cases he : zs = ys
    · have hd : decide (zs = ys) = true := by simpa using he
      have hcl : isClashB true zs ys = false := by unfold isClashB clashB; simp [he]
      rw [hcl]
      clear he hcl
      go_enter Tryd.func22, Tryd.ntmps22
      go_wp2_with (go_at_call 68; refine (bytesEqual_any a b ca cb zs ys _ A B).mono ?_; rintro r u ⟨rfl, rfl⟩; rw [hd])
      go_ret
      exact ⟨rfl, (Below.refl _ _).alloc (Nat.le_refl _) _⟩
    · have hd : decide (zs = ys) = false := by simpa using he
      have hcl : isClashB true zs ys = (decide (sumC zs = 0) && (decide (sumC ys = 0) && decide (sumV zs = sumV ys))) := by
        unfold isClashB clashB sumC sumV
        by_cases h1 : 300 < zs.length
        · have h1' : ¬ zs.length ≤ 300 := by omega
          simp [h1, h1']
        · have h1' : zs.length ≤ 300 := by omega
          by_cases h2 : 300 < ys.length
          · have h2' : ¬ ys.length ≤ 300 := by omega
            simp [h1, h2, h1', h2']
          · have h2' : ys.length ≤ 300 := by omega
            simp [h1, h2, he, h1', h2']
      rw [hcl]
      clear he hcl
      have S1 := fun (w1 : World) (a1 : Has w1 .u8 a zs.length zs) => implSumOf_any a ca zs w1 a1 hla
      have S2 := fun (w1 : World) (a1 : Has w1 .u8 b ys.length ys) => implSumOf_any b cb ys w1 a1 hlb
      generalize sumC zs = c1 at S1 ⊢
      generalize sumC ys = c2 at S2 ⊢
      generalize sumV zs = v1 at S1 ⊢
      generalize sumV ys = v2 at S2 ⊢
      have KS : ∀ wx : World, Below (w.heap.size + 1) (w.alloc (.cells #[.bool true, .slice a zs.length ca, .slice b ys.length cb] 29)) wx → wx.cell? ⟨w.heap.size, 1, none⟩ = some (.slice a zs.length ca) ∧ wx.cell? ⟨w.heap.size, 2, none⟩ = some (.slice b ys.length cb) ∧ w.heap.size + 1 ≤ wx.heap.size ∧ Below (w.heap.size + 1) (w.alloc (.cells #[.bool true, .slice a zs.length ca, .slice b ys.length cb] 29)) wx := by
        intro wx h
        refine ⟨(h.cell (p := ⟨w.heap.size, 1, none⟩) (by simp)).trans (by simp [go_sem]), (h.cell (p := ⟨w.heap.size, 2, none⟩) (by simp)).trans (by simp [go_sem]), ?_, h⟩
        have := h.size
        simpa using this
      have HA : ∀ wx : World, wx.cell? ⟨w.heap.size, 1, none⟩ = some (.slice a zs.length ca) ∧ wx.cell? ⟨w.heap.size, 2, none⟩ = some (.slice b ys.length cb) ∧ w.heap.size + 1 ≤ wx.heap.size ∧ Below (w.heap.size + 1) (w.alloc (.cells #[.bool true, .slice a zs.length ca, .slice b ys.length cb] 29)) wx → Has wx .u8 a zs.length zs := fun wx h => A.below h.2.2.2 (by simp)
      have HB : ∀ wx : World, wx.cell? ⟨w.heap.size, 1, none⟩ = some (.slice a zs.length ca) ∧ wx.cell? ⟨w.heap.size, 2, none⟩ = some (.slice b ys.length cb) ∧ w.heap.size + 1 ≤ wx.heap.size ∧ Below (w.heap.size + 1) (w.alloc (.cells #[.bool true, .slice a zs.length ca, .slice b ys.length cb] 29)) wx → Has wx .u8 b ys.length ys := fun wx h => B.below h.2.2.2 (by simp)
      have KT : ∀ wx wy : World, (wx.cell? ⟨w.heap.size, 1, none⟩ = some (.slice a zs.length ca) ∧ wx.cell? ⟨w.heap.size, 2, none⟩ = some (.slice b ys.length cb) ∧ w.heap.size + 1 ≤ wx.heap.size ∧ Below (w.heap.size + 1) (w.alloc (.cells #[.bool true, .slice a zs.length ca, .slice b ys.length cb] 29)) wx) → Below wx.heap.size wx wy → wy.cell? ⟨w.heap.size, 1, none⟩ = some (.slice a zs.length ca) ∧ wy.cell? ⟨w.heap.size, 2, none⟩ = some (.slice b ys.length cb) ∧ w.heap.size + 1 ≤ wy.heap.size ∧ Below (w.heap.size + 1) (w.alloc (.cells #[.bool true, .slice a zs.length ca, .slice b ys.length cb] 29)) wy := fun wx wy h k => KS wy (h.2.2.2.trans (k.mono h.2.2.1))
      have S1H : Hid (_) := S1
      have S2H : Hid (_) := S2
      have KSH : Hid (_) := KS
      have KTH : Hid (_) := KT
      have HAH : Hid (_) := HA
      have HBH : Hid (_) := HB
      have AH : Hid (_) := A
      have BH : Hid (_) := B
      clear S1 S2 KS KT HA HB A B ha hb hla hlb
      go_enter Tryd.func22, Tryd.ntmps22
      go_upto_region 3 with (go_at_call 68; refine (bytesEqual_any a b ca cb zs ys _ AH.out BH.out).mono ?_; rintro r u ⟨rfl, rfl⟩; rw [hd])
      go_cut [3, 4] (fun s3 s4 wx => ∃ b1 b2 : Nat, s3 = .pointer (some ⟨b1, 0, none⟩) ∧ s4 = .pointer (some ⟨b2, 0, none⟩) ∧ wx.cell? ⟨b1, 0, none⟩ = some (.int .i64 c1) ∧ wx.cell? ⟨b1, 1, none⟩ = some (.int .i64 v1) ∧ wx.cell? ⟨b2, 0, none⟩ = some (.int .i64 c2) ∧ wx.cell? ⟨b2, 1, none⟩ = some (.int .i64 v2) ∧ Below w.heap.size w wx)
      case first =>
        go_region_held3 (fun wx => wx.cell? ⟨w.heap.size, 1, none⟩ = some (.slice a zs.length ca) ∧ wx.cell? ⟨w.heap.size, 2, none⟩ = some (.slice b ys.length cb) ∧ w.heap.size + 1 ≤ wx.heap.size ∧ Below (w.heap.size + 1) (w.alloc (.cells #[.bool true, .slice a zs.length ca, .slice b ys.length cb] 29)) wx)
          ((first | assumption | ((refine KSH.out _ ?_); repeat (first | assumption | exact Below.refl _ _ | exact (And.right (And.right (And.right (by assumption)))) | (refine Below.drew ?_) | (refine Below.alloc ?_ (by (try simp) <;> omega) _) | (refine Below.setCell ?_ (by (try simp) <;> omega) _)))))
          (first | ((go_at_call_of 69 (Value.slice a zs.length ca); refine (S1H.out _ (HAH.out _ (by assumption))).mono ?_; rintro r wa ⟨rfl, hba⟩; have hka := KTH.out _ _ (by assumption) hba; obtain ⟨hca, hfa⟩ := bcell hba; (try (have qa0 : w.heap.size < wa.heap.size := (by (have hh := hba.size); (try simp at hh); omega))); (try (have qa1 : w.heap.size + 1 < wa.heap.size := (by (have hh := hba.size); (try simp at hh); omega))); (try (have qa2 : w.heap.size + 1 + 1 < wa.heap.size := (by (have hh := hba.size); (try simp at hh); omega))))) | ((go_at_call_of 69 (Value.slice b ys.length cb); refine (S2H.out _ (HBH.out _ (by assumption))).mono ?_; rintro r wb ⟨rfl, hbb⟩; have hkb := KTH.out _ _ (by assumption) hbb; obtain ⟨hcb, hfb⟩ := bcell hbb; (try (have qb0 : w.heap.size < wb.heap.size := (by (have hh := hbb.size); (try simp at hh); omega))); (try (have qb1 : w.heap.size + 1 < wb.heap.size := (by (have hh := hbb.size); (try simp at hh); omega))); (try (have qb2 : w.heap.size + 1 + 1 < wb.heap.size := (by (have hh := hbb.size); (try simp at hh); omega))); (try (have qb3 : wa.heap.size < wb.heap.size := (by (have hh := hbb.size); (try simp at hh); omega))); (try (have qb4 : wa.heap.size + 1 < wb.heap.size := (by (have hh := hbb.size); (try simp at hh); omega))); (try (have qc0 : wb.cell? ⟨wa.heap.size, 0, none⟩ = some (.int .i64 0) := (by rw [hcb _ _ (by simp; omega)]; simp [go_sem]))); (try (have qc1 : wb.cell? ⟨wa.heap.size, 1, none⟩ = some (.int .i64 0) := (by rw [hcb _ _ (by simp; omega)]; simp [go_sem]))))))
        all_goals (go_wp2_with fail; go_meet; (refine ⟨_, _, rfl, rfl, (by go_simp), (by go_simp), (by go_simp), (by go_simp), ?_⟩); (have hbase := ((Below.refl w.heap.size w).alloc (Nat.le_refl _) _).trans (hkb.2.2.2.mono (Nat.le_succ _))); repeat (first | exact hbase | (refine Below.alloc ?_ (by (try simp) <;> omega) _) | (refine Below.setCell ?_ (by (try simp) <;> omega) _)))
      case rest =>
        obtain ⟨b1, b2, rfl, rfl, q1, q2, q3, q4, hbw⟩ := hcut
        by_cases k1 : c1 = 0
        · have k1' : (c1 == 0) = true := by simpa using k1
          by_cases k2 : c2 = 0
          · have k2' : (c2 == 0) = true := by simpa using k2
            have K1 : Hid (_) := k1
            have K2 : Hid (_) := k2
            clear k1 k2
            go_wp2
            go_ret
            refine ⟨ret_bool ?_, hbw⟩
            rw [K1.out, K2.out]
            by_cases k3 : v1 = v2 <;> simp [k3]
          · have k2' : (c2 == 0) = false := by simpa using k2
            have K2 : Hid (_) := k2
            clear k1 k2
            go_wp2
            go_ret
            exact ⟨ret_bool (by rw [decide_eq_false K2.out]; simp), hbw⟩
        · have k1' : (c1 == 0) = false := by simpa using k1
          have K1 : Hid (_) := k1
          clear k1
          go_wp2
          go_ret
          exact ⟨ret_bool (by rw [decide_eq_false K1.out]; simp), hbw⟩

end Go.Proofs.YtnlipmfhilgipaaDoor

namespace Go.Proofs.YtnlipmfhilgipaaDoor
open Go.ChangeShapes Go.WideShapes Go.ChangeAt Go.RowKit
set_option linter.unusedVariables false
set_option linter.unusedSimpArgs false

set_option maxHeartbeats 1000000 in
theorem lookIn_any (a b : Option Addr) (ca cb : Nat) (zs ys : List Int) (w : World) (ha : Has w .u8 a zs.length zs) (hb : Has w .u8 b ys.length ys) (hla : zs.length ≤ 300) (hlb : ys.length ≤ 300) :
    Calls Tryd.prog 106 #[.slice a zs.length ca, .slice b ys.length cb] w fun e w' => Below w.heap.size w w' ∧ ((lookC zs ys = none ∧ e = .returned (.tuple #[])) ∨ (lookC zs ys = some (zs, ys) ∧ e = .panicked [{ v := .iface 29 (.agg #[.bool true, .slice a ((zs, ys)).1.length ca, .slice b ((zs, ys)).2.length cb]), recovered := false }])) := by
  have A := ha.alloc (.cells #[.bool true, .slice a zs.length ca, .slice b ys.length cb] 29)
  have B := hb.alloc (.cells #[.bool true, .slice a zs.length ca, .slice b ys.length cb] 29)
  have hcl : isClashB true zs ys = clashB zs ys := by unfold isClashB; simp [hla, hlb]
  have IC : Hid (∀ u : World, Has u .u8 a zs.length zs → Has u .u8 b ys.length ys → Calls Tryd.prog 22 #[.agg #[.bool true, .slice a zs.length ca, .slice b ys.length cb]] u fun r w' => r = .returned (.bool (clashB zs ys)) ∧ Below u.heap.size u w') := by
    intro u h1 h2
    have := implIsClash_any true a b ca cb zs ys u h1 h2 (by omega) (by omega)
    rw [hcl] at this
    exact this
  unfold lookC
  by_cases hc : clashB zs ys = true
  · rw [hc] at IC
    rw [if_pos hc]
    clear hc hcl
    go_enter Tryd.func106, Tryd.ntmps106
    go_wp2_with fail
    refine (IC.out _ A B).mono ?_
    rintro r u1 ⟨rfl, hb1⟩
    obtain ⟨⟨k0, k1, k2⟩, _, z1⟩ := var3 hb1
    have B1 : Below w.heap.size w u1 := ((Below.refl _ _).alloc (Nat.le_refl _) _).trans (hb1.mono (by simp))
    go_wp2
    exact ⟨rfl, B1, .inr ⟨trivial, rfl⟩⟩
  · have hc' : clashB zs ys = false := by simpa using hc
    rw [hc'] at IC
    rw [if_neg hc]
    clear hc hc' hcl
    go_enter Tryd.func106, Tryd.ntmps106
    go_wp2_with fail
    refine (IC.out _ A B).mono ?_
    rintro r u1 ⟨rfl, hb1⟩
    have B1 : Below w.heap.size w u1 := ((Below.refl _ _).alloc (Nat.le_refl _) _).trans (hb1.mono (by simp))
    go_wp2
    go_end0
    exact ⟨B1, .inl ⟨trivial, rfl⟩⟩

theorem fldB1 (x : Int) (a : Option Addr) (n c : Nat) (w : World) : (Instr.field 108 (.agg #[.int .i64 x, .slice a n c]) 1).run Tryd.prog w = .ok (.slice a n c) w := by kernel_rfl

set_option maxHeartbeats 2000000 in
theorem lookInLeaves_any (a b : Option Addr) (ca cb : Nat) (zs ys : List Int) (w : World) (hT : Tab w) (ha : Has w .u8 a zs.length zs) (hb : Has w .u8 b ys.length ys) (hla : zs.length ≤ 250) (hlb : ys.length ≤ 250) :
    Calls Tryd.prog 57 #[.slice a zs.length ca, .slice b ys.length cb] w (WkE (lookC (leafL zs) (leafL ys)) w) := by
  have F1 := fldB1
  have LB1 : Hid (∀ u : World, Below w.heap.size w u → Calls Tryd.prog 96 #[.slice a zs.length ca] u fun r w' => ∃ a' c', r = .returned (.agg #[.int .i64 0, .slice a' (leafL zs).length c']) ∧ w'.ownsRow u.heap.size 5 1 (.slice a' (leafL zs).length c') (leafL zs).length ((leafL zs).map (.int .u8)) ∧ Below u.heap.size u w') := by
    intro u hu
    have := implLeafBytes_any a ca zs u (hT.below hu (Nat.le_refl _)) (ha.below hu (Nat.le_refl _))
    rw [show leafC zs = 0 by unfold leafC; rw [if_neg (by omega)], show leafB zs = leafL zs by unfold leafB; rw [if_neg (by omega)]] at this
    exact this
  have LB2 : Hid (∀ u : World, Below w.heap.size w u → Calls Tryd.prog 96 #[.slice b ys.length cb] u fun r w' => ∃ a' c', r = .returned (.agg #[.int .i64 0, .slice a' (leafL ys).length c']) ∧ w'.ownsRow u.heap.size 5 1 (.slice a' (leafL ys).length c') (leafL ys).length ((leafL ys).map (.int .u8)) ∧ Below u.heap.size u w') := by
    intro u hu
    have := implLeafBytes_any b cb ys u (hT.below hu (Nat.le_refl _)) (hb.below hu (Nat.le_refl _))
    rw [show leafC ys = 0 by unfold leafC; rw [if_neg (by omega)], show leafB ys = leafL ys by unfold leafB; rw [if_neg (by omega)]] at this
    exact this
  have W1 : Hid (∀ n ∈ leafL zs, (Lit.int .u8 n).wf = true) := leaf_wf ha.2.1
  have W2 : Hid (∀ n ∈ leafL ys, (Lit.int .u8 n).wf = true) := leaf_wf hb.2.1
  have l1 : (leafL zs).length ≤ 300 := by simp [leafL]; omega
  have l2 : (leafL ys).length ≤ 300 := by simp [leafL]; omega
  generalize leafL zs = A at *
  generalize leafL ys = B at *
  go_enter Tryd.func57, Tryd.ntmps57
  go_wp2_with fail
  refine (LB1.out _ (Below.refl _ _)).mono ?_
  rintro r u1 ⟨a1, c1, rfl, O1, hb1⟩
  go_wp2_with fail
  refine (LB2.out _ hb1).mono ?_
  rintro r u2 ⟨a2, c2, rfl, O2, hb2⟩
  have B2 := hb1.trans (hb2.mono hb1.size)
  have C2 : Hid (OwnC u2 w.heap.size a1 a2 c1 c2 A B) := ⟨own_below O1 hb2, own_mono O2 hb1.size, fun x y e1 e2 => by
    subst e1 e2
    have h1 := own_lt O1 x rfl
    have h2 := own_base O2 y rfl
    omega⟩
  have H1 : Hid (Has u2 .u8 a1 A.length A) := (has_of_own O1 W1.out).below hb2 (Nat.le_refl _)
  have H2 : Hid (Has u2 .u8 a2 B.length B) := has_of_own O2 W2.out
  clear O1 O2 hb1 hb2
  go_wp2_with fail
  refine (lookIn_any a1 a2 c1 c2 A B _ H1.out H2.out l1 l2).mono ?_
  rintro e u3 ⟨hb3, h⟩
  have B3 := B2.trans (hb3.mono B2.size)
  rcases h with ⟨hn, rfl⟩ | ⟨hn, rfl⟩
  · go_wp2
    go_end0
    rw [hn]
    exact WkE.ret B3
  · rw [hn]
    exact ⟨rfl, B3, .inr ⟨(A, B), a1, c1, a2, c2, rfl, rfl, C2.out.below hb3⟩⟩

set_option maxHeartbeats 4000000 in
theorem lookInNodes_any (a b c d : Int) (w : World) (hT : Tab w) (ha : 0 ≤ a ∧ a ≤ 65520) (hb : 0 ≤ b ∧ b ≤ 65520) (hc : 0 ≤ c ∧ c ≤ 65520) (hd : 0 ≤ d ∧ d ≤ 65520) :
    Calls Tryd.prog 104 #[.agg #[.int .i64 a, .int .i64 b, .bool false], .agg #[.int .i64 c, .int .i64 d, .bool false]] w (WkE (ndC a b c d) w) := by
  have F1 := fldB1
  have NB1 : Hid (∀ u : World, Below w.heap.size w u → Calls Tryd.prog 132 #[.int .i64 a, .int .i64 b] u fun r w' => ∃ a' c', r = .returned (.agg #[.int .i64 0, .slice a' (nodeL a b).length c']) ∧ w'.ownsRow u.heap.size 5 1 (.slice a' (nodeL a b).length c') (nodeL a b).length ((nodeL a b).map (.int .u8)) ∧ Below u.heap.size u w') := by
    intro u hu
    have := implNodeBytes_any a b u (hT.below hu (Nat.le_refl _))
    rw [show nodeC a b = 0 by unfold nodeC; rw [if_pos ⟨ha, hb⟩], show nodeB a b = nodeL a b by unfold nodeB; rw [if_pos ⟨ha, hb⟩]] at this
    exact this
  have NB2 : Hid (∀ u : World, Below w.heap.size w u → Calls Tryd.prog 132 #[.int .i64 c, .int .i64 d] u fun r w' => ∃ a' c', r = .returned (.agg #[.int .i64 0, .slice a' (nodeL c d).length c']) ∧ w'.ownsRow u.heap.size 5 1 (.slice a' (nodeL c d).length c') (nodeL c d).length ((nodeL c d).map (.int .u8)) ∧ Below u.heap.size u w') := by
    intro u hu
    have := implNodeBytes_any c d u (hT.below hu (Nat.le_refl _))
    rw [show nodeC c d = 0 by unfold nodeC; rw [if_pos ⟨hc, hd⟩], show nodeB c d = nodeL c d by unfold nodeB; rw [if_pos ⟨hc, hd⟩]] at this
    exact this
  have W1 : Hid (∀ n ∈ nodeL a b, (Lit.int .u8 n).wf = true) := node_wf ha.1 (by omega) hb.1 (by omega)
  have W2 : Hid (∀ n ∈ nodeL c d, (Lit.int .u8 n).wf = true) := node_wf hc.1 (by omega) hd.1 (by omega)
  have l1 : (nodeL a b).length ≤ 300 := by simp [nodeL]
  have l2 : (nodeL c d).length ≤ 300 := by simp [nodeL]
  have LK : Hid (∀ (u0 u : World) (a1 a2 : Option Addr) (c1 c2 : Nat), Below w.heap.size w u0 → Below u0.heap.size u0 u → u0.ownsRow w.heap.size 5 1 (.slice a1 (nodeL a b).length c1) (nodeL a b).length ((nodeL a b).map (.int .u8)) → u.ownsRow u0.heap.size 5 1 (.slice a2 (nodeL c d).length c2) (nodeL c d).length ((nodeL c d).map (.int .u8)) → Calls Tryd.prog 106 #[.slice a1 (nodeL a b).length c1, .slice a2 (nodeL c d).length c2] u fun e w' => Below u.heap.size u w' ∧ ((ndC a b c d = none ∧ e = .returned (.tuple #[])) ∨ ∃ y, ndC a b c d = some y ∧ e = .panicked [{ v := .iface 29 (.agg #[.bool true, .slice a1 y.1.length c1, .slice a2 y.2.length c2]), recovered := false }] ∧ OwnC w' w.heap.size a1 a2 c1 c2 y.1 y.2)) := by
    intro u0 u a1 a2 c1 c2 h1 h2 o1 o2
    refine (lookIn_any a1 a2 c1 c2 _ _ u ((has_of_own o1 W1.out).below h2 (Nat.le_refl _)) (has_of_own o2 W2.out) l1 l2).mono ?_
    rintro e w' ⟨hb', h⟩
    refine ⟨hb', ?_⟩
    rcases h with ⟨hn, rfl⟩ | ⟨hn, rfl⟩
    · exact .inl ⟨hn, rfl⟩
    · refine .inr ⟨_, hn, rfl, OwnC.below ⟨own_below o1 h2, own_mono o2 h1.size, fun x y e1 e2 => ?_⟩ hb'⟩
      subst e1 e2
      have h1 := own_lt o1 x rfl
      have h2 := own_base o2 y rfl
      omega
  generalize ndC a b c d = X at *
  generalize nodeL a b = A at *
  generalize nodeL c d = B at *
  obtain ⟨E, hE⟩ : ∃ E, E = ((w.alloc (.cells #[.int .i64 a, .int .i64 b, .bool false] 118)).alloc (.cells #[.int .i64 c, .int .i64 d, .bool false] 118)) := ⟨_, rfl⟩
  have W0 : Below w.heap.size w E := by rw [hE]; exact ((Below.refl _ _).alloc (Nat.le_refl _) _).alloc (by simp) _
  have zE : E.heap.size = w.heap.size + 1 + 1 := by rw [hE]; simp
  have g1 : w.heap.size < E.heap.size := by omega
  have g2 : w.heap.size + 1 < E.heap.size := by omega
  have c0 : ∀ wx : World, Below E.heap.size E wx → wx.cell? ⟨w.heap.size, 0, none⟩ = some (.int .i64 a) := fun wx h => (h.cell (p := ⟨w.heap.size, 0, none⟩) g1).trans (by rw [hE]; simp [go_sem])
  have c1 : ∀ wx : World, Below E.heap.size E wx → wx.cell? ⟨w.heap.size, 1, none⟩ = some (.int .i64 b) := fun wx h => (h.cell (p := ⟨w.heap.size, 1, none⟩) g1).trans (by rw [hE]; simp [go_sem])
  have c2 : ∀ wx : World, Below E.heap.size E wx → wx.cell? ⟨w.heap.size + 1, 0, none⟩ = some (.int .i64 c) := fun wx h => (h.cell (p := ⟨w.heap.size + 1, 0, none⟩) g2).trans (by rw [hE]; simp [go_sem])
  have c3 : ∀ wx : World, Below E.heap.size E wx → wx.cell? ⟨w.heap.size + 1, 1, none⟩ = some (.int .i64 d) := fun wx h => (h.cell (p := ⟨w.heap.size + 1, 1, none⟩) g2).trans (by rw [hE]; simp [go_sem])
  have D0 : Below E.heap.size E E.drew := (Below.refl _ _).drew
  have V0 : Below w.heap.size w E.drew := W0.drew
  have W0H : Hid (_) := W0
  clear zE W0 hT
  go_enter Tryd.func104, Tryd.ntmps104
  go_wp2_with fail
  simp only [← hE]
  clear hE
  go_region_held2 (fun wx => Below E.heap.size E wx)
    ((first | exact D0 | exact D3 | exact D2 | exact D1))
    ((first | (go_at_call_of 132 (Value.int .i64 a); refine (NB1.out _ V0).mono ?_; rintro _ ua ⟨a1, k1, rfl, O1, hba⟩; have D1 : Below E.heap.size E ua := D0.trans (hba.mono D0.size); have O1' : Hid (World.ownsRow ua w.heap.size 5 1 (.slice a1 A.length k1) A.length (A.map (.int .u8))) := own_mono O1 V0.size; have V1 : Below w.heap.size w ua := V0.trans (hba.mono V0.size); clear O1) | (go_at_call_of 132 (Value.int .i64 c); refine (NB2.out _ V1).mono ?_; rintro _ ub ⟨a2, k2, rfl, O2, hbb⟩; have D2 : Below E.heap.size E ub := D1.trans (hbb.mono D1.size); have O2' : Hid (World.ownsRow ub ua.heap.size 5 1 (.slice a2 B.length k2) B.length (B.map (.int .u8))) := O2; clear O2) | (go_at_call 106; refine (LK.out _ _ _ _ _ _ V1 hbb O1'.out O2'.out).mono ?_; rintro e uc ⟨hbc, h⟩; have D3 : Below E.heap.size E uc := D2.trans (hbc.mono D2.size); have V3 : Below w.heap.size w uc := (V1.trans (hbb.mono V1.size)).trans (hbc.mono (V1.trans (hbb.mono V1.size)).size); (rcases h with ⟨hn, rfl⟩ | ⟨y, hn, rfl, OC⟩); rotate_left; exact ⟨rfl, V3, .inr ⟨y, a1, k1, a2, k2, hn, rfl, OC⟩⟩)))
  go_wp2
  go_end0
  rw [hn]
  exact WkE.ret V3

end Go.Proofs.YtnlipmfhilgipaaDoor
