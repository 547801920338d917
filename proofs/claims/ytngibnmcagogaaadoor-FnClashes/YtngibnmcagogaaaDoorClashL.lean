/- What the law on clashes takes besides: bytes held against each other as strings, fields of results, and what two pieces of one sum are. -/
import Derived.Test.YtngibnmcagogaaaDoorDClash
import Derived.Test.YtngibnmcagogaaaDoorIClash
import Derived.Test.YtngibnmcagogaaaDoorSBytes
namespace Go.Proofs.YtngibnmcagogaaaDoor
open Go.ChangeShapes Go.WideShapes Go.ChangeAt Go.RowKit
set_option maxRecDepth 100000
set_option linter.unusedVariables false
set_option linter.unusedSimpArgs false

theorem lwBytes_any (a b : Option Addr) (ca cb : Nat) (zs ys : List Int) (w : World) (ha : Has w .u8 a zs.length zs) (hb : Has w .u8 b ys.length ys) :
    Calls Tryd.prog 20 #[.slice a zs.length ca, .slice b ys.length cb] w fun r w' => r = .returned (.bool (decide (zs = ys))) ∧ w' = w := by
  have s1 := ha.str ca
  have s2 := hb.str cb
  have hst := str_beq ha.2.1 hb.2.1
  have HS : Hid (_) := hst
  clear hst
  go_enter Tryd.func20, Tryd.ntmps20
  go_wp2
  go_ret
  exact ⟨ret_bool HS.out, rfl⟩

theorem fldI0 (x y : Int) (w : World) : (Instr.field 37 (.agg #[.int .i64 x, .int .i64 y]) 0).run Tryd.prog w = .ok (.int .i64 x) w := by kernel_rfl
theorem fldI1 (x y : Int) (w : World) : (Instr.field 37 (.agg #[.int .i64 x, .int .i64 y]) 1).run Tryd.prog w = .ok (.int .i64 y) w := by kernel_rfl
theorem fldB0 (x : Int) (a : Option Addr) (n c : Nat) (w : World) : (Instr.field 30 (.agg #[.int .i64 x, .slice a n c]) 0).run Tryd.prog w = .ok (.int .i64 x) w := by kernel_rfl

theorem clash_true {f : Bool} {xs ys : List Int} (h : isClashB f xs ys = true) : decide (xs = ys) = false ∧ sumV xs = sumV ys ∧ sumC xs = 0 := by
  unfold isClashB clashB at h
  simp at h
  obtain ⟨_, h1, h2, h3, h4⟩ := h
  refine ⟨by simpa using h3, ?_, ?_⟩
  · unfold sumV; rw [if_neg (by omega), if_neg (by omega), h4]
  · unfold sumC; rw [if_neg (by omega)]
theorem leaf_sum {ds : List Int} (h : leafC ds = 0) : leafV ds = sumV (leafB ds) := by
  have hb : ¬ 250 < ds.length := by intro c; unfold leafC at h; rw [if_pos c] at h; cases h
  unfold leafV leafB sumV
  rw [if_neg hb, if_neg hb, if_neg (by simp [leafL]; omega)]
theorem node_sum {x y : Int} (h : nodeC x y = 0) : nodeV x y = sumV (nodeB x y) ∧ (nodeB x y).length = 5 := by
  have hb : (0 ≤ x ∧ x ≤ 65520) ∧ 0 ≤ y ∧ y ≤ 65520 := Classical.byContradiction fun c => by unfold nodeC at h; rw [if_neg c] at h; cases h
  unfold nodeV nodeB sumV
  rw [if_pos hb, if_pos hb, if_neg (by simp [nodeL])]
  exact ⟨rfl, by simp [nodeL]⟩
theorem leaf_node {ds : List Int} {x y : Int} (h : leafC ds = 0) (h2 : nodeC x y = 0) : decide (leafB ds = nodeB x y) = false := by
  have hb : ¬ 250 < ds.length := by intro c; unfold leafC at h; rw [if_pos c] at h; cases h
  have hc : (0 ≤ x ∧ x ≤ 65520) ∧ 0 ≤ y ∧ y ≤ 65520 := Classical.byContradiction fun c => by unfold nodeC at h2; rw [if_neg c] at h2; cases h2
  unfold leafB nodeB
  rw [if_neg hb, if_pos hc]
  simp [leafL, nodeL]
theorem leafC_cases (ds : List Int) : leafC ds = 0 ∨ leafC ds = 2 := by unfold leafC; split <;> simp
theorem nodeC_cases (x y : Int) : nodeC x y = 0 ∨ nodeC x y = 3 := by unfold nodeC; split <;> simp

end Go.Proofs.YtngibnmcagogaaaDoor
