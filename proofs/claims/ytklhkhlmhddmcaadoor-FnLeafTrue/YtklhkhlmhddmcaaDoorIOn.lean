/- Contracts: how a walk of the program's chapter 6 ends; where its panic is met. -/
import Derived.Test.YtklhkhlmhddmcaaDoorExt6C
import Derived.Defers
import Derived.Recover
namespace Go.Proofs.YtklhkhlmhddmcaaDoor
open Go.ChangeShapes Go.WideShapes Go.ChangeAt Go.RowKit
set_option linter.unusedVariables false
set_option linter.unusedSimpArgs false

/-- A walk that met a clash: it panics with it, in memory of its own. -/
def WkP (x : Cl) (w : World) (e : Ending) (w' : World) : Prop :=
  ∃ y a1 c1 a2 c2, x = some y ∧ e = .panicked [{ v := .iface 29 (.agg #[.bool true, .slice a1 (y).1.length c1, .slice a2 (y).2.length c2]), recovered := false }] ∧ OwnC w' w.heap.size a1 a2 c1 c2 y.1 y.2
/-- How a walk ends: it returns where there is no clash, else it panics with it. -/
def WkE (x : Cl) (w : World) (e : Ending) (w' : World) : Prop :=
  Below w.heap.size w w' ∧ ((x = none ∧ e = .returned (.tuple #[])) ∨ WkP x w e w')
theorem WkP.out {X Z : Cl} {w u u' : World} {e : Ending} (h : WkP X u e u') (hb : Below u.heap.size u u') (hB : Below w.heap.size w u) : WkE (X <|> Z) w e u' := by
  obtain ⟨y, a1, c1, a2, c2, rfl, rfl, O⟩ := h
  exact ⟨hB.trans (hb.mono hB.size), .inr ⟨y, a1, c1, a2, c2, rfl, rfl, O.mono hB.size⟩⟩
theorem WkP.same {X : Cl} {w u u' : World} {e : Ending} (h : WkP X u e u') (hb : Below u.heap.size u u') (hB : Below w.heap.size w u) : WkE X w e u' := by
  obtain ⟨y, a1, c1, a2, c2, rfl, rfl, O⟩ := h
  exact ⟨hB.trans (hb.mono hB.size), .inr ⟨y, a1, c1, a2, c2, rfl, rfl, O.mono hB.size⟩⟩
theorem WkE.ret {w w' : World} (hB : Below w.heap.size w w') : WkE none w (.returned (.tuple #[])) w' := ⟨hB, .inl ⟨rfl, rfl⟩⟩

theorem eqNil_clash (v : Value) (w : World) : (binOp BinOp.eql 20 (.iface 29 v) .nilIface).run Tryd.prog w = .ok (.bool false) w := by kernel_rfl

theorem assert_clash (v : Value) (w : World) : (Instr.typeAssert (.iface 29 v) 20 29 true).run Tryd.prog w = .ok (.tuple #[v, .bool true]) w := by kernel_rfl

set_option maxHeartbeats 1000000 in
/-- The deferred function behind a walk that panicked with a clash: the clash is laid into the result. -/
theorem catch_clash (rb : Nat) (f : Bool) (a1 a2 : Option Addr) (n1 c1 n2 c2 : Nat) (r0 r1 r2 : Value) (w : World) (h1 : w.cell? ⟨rb, 1, none⟩ = some r0) (h2 : w.cell? ⟨rb, 2, none⟩ = some r1) (h3 : w.cell? ⟨rb, 3, none⟩ = some r2) (z1 : w.frozen? ⟨rb, 1, none⟩ = false) (z2 : w.frozen? ⟨rb, 2, none⟩ = false) (z3 : w.frozen? ⟨rb, 3, none⟩ = false) (hlt : rb < w.heap.size) :
    CallsD Tryd.prog 106 #[.pointer (some ⟨rb, 0, none⟩)] (.panicking [{ v := .iface 29 (.agg #[.bool f, .slice a1 n1 c1, .slice a2 n2 c2]), recovered := false }]) w fun e u' w' =>
      e = .returned (.tuple #[]) ∧ u' = .panicking [{ v := .iface 29 (.agg #[.bool f, .slice a1 n1 c1, .slice a2 n2 c2]), recovered := true }] ∧ w' = (((w.setCell ⟨rb, 1, none⟩ (.bool f)).setCell ⟨rb, 2, none⟩ (.slice a1 n1 c1)).setCell ⟨rb, 3, none⟩ (.slice a2 n2 c2)).alloc (.cells #[.bool f, .slice a1 n1 c1, .slice a2 n2 c2] 29) := by
  have heq := eqNil_clash
  have hta := assert_clash
  refine callsD_of_wpS Tryd.func106 rfl fun c₀ cs hu => ?_
  apply wpS_seq
  apply wpS_region
  simp [wpOpsS, go_sem, recoverD, hu, Tryd.ntmps106, Exit.thenS]
  refine wpS_of_wp ?_
  go_wp2
  cases c₀
  simp_all [bodyPostS, results, Tryd.results106]

theorem catch_idle (p : Addr) (w : World) :
    CallsD Tryd.prog 106 #[.pointer (some p)] .returning w fun e u' w' => e = .returned (.tuple #[]) ∧ u' = .returning ∧ w' = w := by
  have heq : ∀ (w : World), (binOp BinOp.eql 20 .nilIface .nilIface).run Tryd.prog w = .ok (.bool true) w := fun _ => by kernel_rfl
  refine callsD_of_wpS Tryd.func106 rfl fun c₀ cs hu => ?_
  apply wpS_seq
  apply wpS_region
  simp [wpOpsS, go_sem, recoverD, hu, Tryd.ntmps106, Exit.thenS]
  refine wpS_of_wp ?_
  go_wp2
  cases c₀
  simp_all [bodyPostS, results, Tryd.results106]

set_option maxRecDepth 100000 in
set_option maxHeartbeats 1000000 in
theorem clashOn_any (k : Nat) (caps : Array Value) (X : Cl) (w : World) (hW : ∀ u : World, Below w.heap.size w u → Calls Tryd.prog k caps u (WkE X u)) (hk : ∀ u : World, (callFunc k caps).run Tryd.prog u = .ok (.enter k caps) u) :
    Calls Tryd.prog 59 #[.func (.func k) #[] caps] w fun r w' => ∃ a1 c1 a2 c2, r = .returned (.agg #[.int .i64 0, .bool X.isSome, .slice a1 (clA X).length c1, .slice a2 (clB X).length c2]) ∧ OwnC w' w.heap.size a1 a2 c1 c2 (clA X) (clB X) ∧ Below w.heap.size w w' := by
  have hmf : ∀ (fn : Fn) (first cap : Array Value) (w : World), (Instr.makeFunc fn first cap).run Tryd.prog w = .ok (.func fn first cap) w := fun _ _ _ _ => rfl
  have HW : Hid (_) := hW
  clear hW
  have B0 : Below w.heap.size w (w.alloc (.cells #[.int .i64 0, .bool false, .slice none 0 0, .slice none 0 0] 31)) := (Below.refl _ _).alloc (Nat.le_refl _) _
  go_enter_defers Tryd.func59, Tryd.ntmps59
  go_wp2_with fail
  refine (HW.out _ B0).mono ?_
  rintro e u1 ⟨hb1, h⟩
  have B1 := B0.trans (hb1.mono (by simp))
  obtain ⟨⟨k0, k1, k2, k3⟩, f0, f1, f2, f3⟩ := var4 hb1
  rcases h with ⟨rfl, rfl⟩ | ⟨y, a1, c1, a2, c2, rfl, rfl, O⟩
  · go_wp2
    refine leaves_cons (f := 106) (args := #[.pointer (some ⟨w.heap.size, 0, none⟩)]) (by simp) (by simp [go_sem]) ?_
    refine (catch_idle ⟨w.heap.size, 0, none⟩ _).mono ?_
    rintro e u' w'' ⟨rfl, rfl, rfl⟩
    simp only [settle, Leaves]
    refine ⟨.agg #[.int .i64 0, .bool false, .slice none 0 0, .slice none 0 0], by simp [results, Tryd.results59, go_sem, k0, k1, k2, k3], none, 0, none, 0, rfl, OwnC.nil _ _, ?_⟩
    exact (((B1.setCell (Nat.le_refl _) _).setCell (Nat.le_refl _) _).setCell (Nat.le_refl _) _).setCell (Nat.le_refl _) _
  · have zz := hb1.size
    simp at zz
    have zl : w.heap.size < u1.heap.size := by omega
    have O1 : OwnC u1 (w.heap.size + 1) a1 a2 c1 c2 y.1 y.2 := by simpa using O
    go_wp2
    refine leaves_cons (f := 106) (args := #[.pointer (some ⟨w.heap.size, 0, none⟩)]) (by simp) (by simp [go_sem]) ?_
    refine (catch_clash w.heap.size true a1 a2 y.1.length c1 y.2.length c2 _ _ _ _ k1 k2 k3 f1 f2 f3 (by omega)).mono ?_
    rintro e u' w'' ⟨rfl, rfl, rfl⟩
    simp only [settle, Leaves, List.dropWhile]
    refine ⟨.agg #[.int .i64 0, .bool true, .slice a1 y.1.length c1, .slice a2 y.2.length c2], by simp [results, Tryd.results59, go_sem, k0, k1, k2, k3, zl], a1, c1, a2, c2, rfl, ?_, ?_⟩
    · exact ((((O1.set _ _ (Nat.lt_succ_self _)).set _ _ (Nat.lt_succ_self _)).set _ _ (Nat.lt_succ_self _)).mono (Nat.le_succ _)).below ((Below.refl _ _).alloc (Nat.le_refl _) _)
    · exact (((B1.setCell (Nat.le_refl _) _).setCell (Nat.le_refl _) _).setCell (Nat.le_refl _) _).alloc (by simp; omega) _

end Go.Proofs.YtklhkhlmhddmcaaDoor
